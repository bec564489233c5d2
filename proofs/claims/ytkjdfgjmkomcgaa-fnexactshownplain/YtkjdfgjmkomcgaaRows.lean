/-
  No cell of these rows narrows 'for every input' (looked for: loops, veiled, ifaces, maps, wideKeys, modest, calm, conditions, laid).
  DERIVED. THE GIVEN ROWS OF THIS SEAT. 4 by the template 'for every input the law returns true; each argument reads behind the call as it read before'; 0 by the template 'total and deterministic' (their statements: YtkjdfgjmkomcgaaTotals.lean).
  GIVEN WITH THE SEED: the statements are not yours to turn. If you find one false, say at which input.
  Laid BY PROGRAM, IN A SANDBOX (cutbox-rows.mjs): the forced cells as the released guide's own fill.sh prints them over the translation a798bebc2a531b60… (all of the seat's roots in one cut). By AI agents, Wed Nov 11 2026. No macro, syntax, notation, axiom, sorry.
-/
import Derived.Test.YtkjdfgjmkomcgaaChecked
import GoSem.Claim
import GoSem.ClaimJoined
import GoSem.ClaimMapViews
import Derived.JoinedTies
import Derived.KernelRfl
namespace Go.Proofs.Ytkjdfgjmkomcgaa
/- THE CELL 'sum', in the pinned program and in every row, IS THE sha256 OF THE DUMP (.gsa) THAT YtkjdfgjmkomcgaaProg.lean LOADS. Nothing in Lean hashes anything: it is a label: what it is worth is what the hold of that sum in a sandbox is worth. -/
noncomputable def Try.pinned : Pinned := { name := "ytkjdfgjmkomcgaa", sum := "a798bebc2a531b609d86c317daba473b02394c7363c87e0479dfebca75be99b8", checked := Try.checked }
namespace Rows
def none {H : Type} : Left H := { results := [], args := [] }

/-- 'laws.FnDiverge': WHATEVER THE INPUT: true; the input reads as it did. -/
def fnDivergeSpec : ChangeSpec := { name := "fnDiverge", fn := fun _ => fun
  | [d] => { results := [.lit (.bool true)], args := [d] }
  | _ => none }
def fnDivergeRow : OpenClaim := { program := "ytkjdfgjmkomcgaa", sum := "a798bebc2a531b609d86c317daba473b02394c7363c87e0479dfebca75be99b8", func := "loop.example/g00372/laws.FnDiverge", spec := "fnDiverge", unfollowed := true, recurses := true, apart := false }
def FnDivergeSaid : Prop := fnDivergeRow.holds Try.pinned (OpenSpec.ofChange fnDivergeSpec)

/-- ITS FALSE NEIGHBOUR: 'it returns false'. Refute it at one input. -/
def fnDivergeWrong : ChangeSpec := { name := "fnDiverge", fn := fun _ => fun
  | [d] => { results := [.lit (.bool false)], args := [d] }
  | _ => none }
def FnDivergeWrongFalsely : Prop := fnDivergeRow.holds Try.pinned (OpenSpec.ofChange fnDivergeWrong)

/-- 'laws.FnExactPlainsOk': WHATEVER THE INPUT: true; the input reads as it did. -/
def fnExactPlainsOkSpec : ChangeSpec := { name := "fnExactPlainsOk", fn := fun _ => fun
  | [d] => { results := [.lit (.bool true)], args := [d] }
  | _ => none }
def fnExactPlainsOkRow : OpenClaim := { program := "ytkjdfgjmkomcgaa", sum := "a798bebc2a531b609d86c317daba473b02394c7363c87e0479dfebca75be99b8", func := "loop.example/g00372/laws.FnExactPlainsOk", spec := "fnExactPlainsOk", unfollowed := true, recurses := true, apart := false }
def FnExactPlainsOkSaid : Prop := fnExactPlainsOkRow.holds Try.pinned (OpenSpec.ofChange fnExactPlainsOkSpec)

/-- ITS FALSE NEIGHBOUR: 'it returns false'. Refute it at one input. -/
def fnExactPlainsOkWrong : ChangeSpec := { name := "fnExactPlainsOk", fn := fun _ => fun
  | [d] => { results := [.lit (.bool false)], args := [d] }
  | _ => none }
def FnExactPlainsOkWrongFalsely : Prop := fnExactPlainsOkRow.holds Try.pinned (OpenSpec.ofChange fnExactPlainsOkWrong)

/-- 'laws.FnExactShownPlain': WHATEVER THE INPUT: true; the input reads as it did. -/
def fnExactShownPlainSpec : ChangeSpec := { name := "fnExactShownPlain", fn := fun _ => fun
  | [d] => { results := [.lit (.bool true)], args := [d] }
  | _ => none }
def fnExactShownPlainRow : OpenClaim := { program := "ytkjdfgjmkomcgaa", sum := "a798bebc2a531b609d86c317daba473b02394c7363c87e0479dfebca75be99b8", func := "loop.example/g00372/laws.FnExactShownPlain", spec := "fnExactShownPlain", unfollowed := true, recurses := true, apart := false }
def FnExactShownPlainSaid : Prop := fnExactShownPlainRow.holds Try.pinned (OpenSpec.ofChange fnExactShownPlainSpec)

/-- ITS FALSE NEIGHBOUR: 'it returns false'. Refute it at one input. -/
def fnExactShownPlainWrong : ChangeSpec := { name := "fnExactShownPlain", fn := fun _ => fun
  | [d] => { results := [.lit (.bool false)], args := [d] }
  | _ => none }
def FnExactShownPlainWrongFalsely : Prop := fnExactShownPlainRow.holds Try.pinned (OpenSpec.ofChange fnExactShownPlainWrong)

/-- 'laws.FnExactSamePlains': WHATEVER THE INPUT: true; the input reads as it did. -/
def fnExactSamePlainsSpec : ChangeSpec := { name := "fnExactSamePlains", fn := fun _ => fun
  | [d1, d2] => { results := [.lit (.bool true)], args := [d1, d2] }
  | _ => none }
def fnExactSamePlainsRow : OpenClaim := { program := "ytkjdfgjmkomcgaa", sum := "a798bebc2a531b609d86c317daba473b02394c7363c87e0479dfebca75be99b8", func := "loop.example/g00372/laws.FnExactSamePlains", spec := "fnExactSamePlains", unfollowed := true, recurses := true, apart := false }
def FnExactSamePlainsSaid : Prop := fnExactSamePlainsRow.holds Try.pinned (OpenSpec.ofChange fnExactSamePlainsSpec)

/-- ITS FALSE NEIGHBOUR: 'it returns false'. Refute it at one input. -/
def fnExactSamePlainsWrong : ChangeSpec := { name := "fnExactSamePlains", fn := fun _ => fun
  | [d1, d2] => { results := [.lit (.bool false)], args := [d1, d2] }
  | _ => none }
def FnExactSamePlainsWrongFalsely : Prop := fnExactSamePlainsRow.holds Try.pinned (OpenSpec.ofChange fnExactSamePlainsWrong)

/- THE SECOND FORM. 'bulk': how many values and letters a reading holds, each counted each time it is reached (what is shared counts as often as it is met; a slice's spare places count too). A statement '..UptoSaid' is the law's where the arguments, and the package variables that the reading takes, are together of bulk at most 1048576: NARROWER than '..Said'. Prove '..Said' where nothing that the law and all that it calls make is longer than what came in: it says more and counts as full. Else prove '..UptoSaid'. A law counts once. -/
mutual
def uptoBulk {H : Type} : DataW H → Nat
  | .lit (.string bytes) => bytes.length + 1
  | .lit _ => 1
  | .nil => 1
  | .ptr d => uptoBulk d + 1
  | .slice elems spare => uptoBulkAll elems + uptoBulkAll spare + 1
  | .agg parts => uptoBulkAll parts + 1
  | .iface _ d => uptoBulk d + 1
  | .map entries => uptoBulkEntries entries + 1
  | .held _ => 1
def uptoBulkAll {H : Type} : List (DataW H) → Nat
  | [] => 0
  | d :: r => uptoBulk d + uptoBulkAll r
def uptoBulkEntries {H : Type} : List (Lit × DataW H) → Nat
  | [] => 0
  | x :: r => uptoBulkEntry x + uptoBulkEntries r
def uptoBulkEntry {H : Type} : Lit × DataW H → Nat
  | (.string bytes, d) => bytes.length + uptoBulk d + 1
  | (_, d) => uptoBulk d + 1
 end
def uptoSmall : (H : Type) → List (DataW H) → Bool := fun _ ds => decide (uptoBulkAll ds ≤ 1048576)
def OpenSpec.upto (s : _root_.Go.ChangeSpec) : _root_.Go.OpenSpec := { _root_.Go.OpenSpec.ofChange s with cond := some uptoSmall }

/-- 'laws.FnDiverge', WHERE WHAT IT READS IS OF BULK AT MOST 1048576: true; the input reads as it did. -/
def fnDivergeUptoRow : OpenClaim := { program := "ytkjdfgjmkomcgaa", sum := "a798bebc2a531b609d86c317daba473b02394c7363c87e0479dfebca75be99b8", func := "loop.example/g00372/laws.FnDiverge", spec := "fnDiverge", unfollowed := true, recurses := true, apart := false, narrowed := true }
def FnDivergeUptoSaid : Prop := fnDivergeUptoRow.holds Try.pinned (OpenSpec.upto fnDivergeSpec)

/-- 'laws.FnExactPlainsOk', WHERE WHAT IT READS IS OF BULK AT MOST 1048576: true; the input reads as it did. -/
def fnExactPlainsOkUptoRow : OpenClaim := { program := "ytkjdfgjmkomcgaa", sum := "a798bebc2a531b609d86c317daba473b02394c7363c87e0479dfebca75be99b8", func := "loop.example/g00372/laws.FnExactPlainsOk", spec := "fnExactPlainsOk", unfollowed := true, recurses := true, apart := false, narrowed := true }
def FnExactPlainsOkUptoSaid : Prop := fnExactPlainsOkUptoRow.holds Try.pinned (OpenSpec.upto fnExactPlainsOkSpec)

/-- 'laws.FnExactShownPlain', WHERE WHAT IT READS IS OF BULK AT MOST 1048576: true; the input reads as it did. -/
def fnExactShownPlainUptoRow : OpenClaim := { program := "ytkjdfgjmkomcgaa", sum := "a798bebc2a531b609d86c317daba473b02394c7363c87e0479dfebca75be99b8", func := "loop.example/g00372/laws.FnExactShownPlain", spec := "fnExactShownPlain", unfollowed := true, recurses := true, apart := false, narrowed := true }
def FnExactShownPlainUptoSaid : Prop := fnExactShownPlainUptoRow.holds Try.pinned (OpenSpec.upto fnExactShownPlainSpec)

/-- 'laws.FnExactSamePlains', WHERE WHAT IT READS IS OF BULK AT MOST 1048576: true; the input reads as it did. -/
def fnExactSamePlainsUptoRow : OpenClaim := { program := "ytkjdfgjmkomcgaa", sum := "a798bebc2a531b609d86c317daba473b02394c7363c87e0479dfebca75be99b8", func := "loop.example/g00372/laws.FnExactSamePlains", spec := "fnExactSamePlains", unfollowed := true, recurses := true, apart := false, narrowed := true }
def FnExactSamePlainsUptoSaid : Prop := fnExactSamePlainsUptoRow.holds Try.pinned (OpenSpec.upto fnExactSamePlainsSpec)

end Rows
end Go.Proofs.Ytkjdfgjmkomcgaa
