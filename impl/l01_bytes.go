package impl

const (
	minWidth = 1
	maxWidth = 4
	maxName  = 4

	sumStart   = 7
	sumFactor  = 131
	sumModulus = 65521
)

// number is what bytes stand for; its methods are handed about as values, so that showing, reading and summing share one way through the bytes.
type number int64

func (n number) fits(width int64) bool {
	return n >= 0 && n>>(8*width) == 0
}

// byteAt counts places from the lowest byte up.
func (n number) byteAt(place int64) byte {
	return byte(n >> (8 * place))
}

func (n number) followedBy(b byte) number {
	return n<<8 + number(b)
}

func (n number) summedWith(b byte) number {
	return (sumFactor*n + number(b) + 1) % sumModulus
}

func throughBytes(s string, first number, step func(number, byte) number) number {
	n := first
	for i := 0; i < len(s); i++ {
		n = step(n, s[i])
	}
	return n
}

func widthOk(width int64) bool {
	return width >= minWidth && width <= maxWidth
}

func ShowNumber(n int64, width int64) string {
	if !widthOk(width) || !number(n).fits(width) {
		return ""
	}
	byteAt := number(n).byteAt
	shown := make([]byte, 0, maxWidth)
	for place := width - 1; place >= 0; place-- {
		shown = append(shown, byteAt(place))
	}
	return string(shown)
}

func ReadNumber(s string, at int64, width int64) (int64, bool) {
	// The width is taken from the length, not added to at: at may be so great that the sum would wrap round.
	if !widthOk(width) || at < 0 || at > int64(len(s))-width {
		return 0, false
	}
	return int64(throughBytes(s[at:at+width], 0, number.followedBy)), true
}

func Sum(s string) int64 {
	return int64(throughBytes(s, sumStart, number.summedWith))
}

func NameOk(s string) bool {
	if len(s) < 1 || len(s) > maxName {
		return false
	}
	for i := 0; i < len(s); i++ {
		if s[i] < 'a' || s[i] > 'z' {
			return false
		}
	}
	return true
}
