/-
  No cell of these rows narrows 'for every input' (looked for: loops, veiled, ifaces, maps, wideKeys, modest, calm, conditions, laid).
  DERIVED. THE GIVEN ROWS OF THIS SEAT. 5 by the template 'for every input the law returns true; each argument reads behind the call as it read before'; 0 by the template 'total and deterministic' (their statements: YtpmoefagpglddaaTotals.lean).
  GIVEN WITH THE SEED: the statements are not yours to turn. If you find one false, say at which input.
  Laid BY PROGRAM, IN A SANDBOX (cutbox-rows.mjs): the forced cells as the released guide's own fill.sh prints them over the translation 169843bc54f4e7db… (all of the seat's roots in one cut). By AI agents, Wed Nov 11 2026. No macro, syntax, notation, axiom, sorry.
-/
import Derived.Test.YtpmoefagpglddaaChecked
import GoSem.Claim
import GoSem.ClaimJoined
import GoSem.ClaimMapViews
import Derived.JoinedTies
import Derived.KernelRfl
namespace Go.Proofs.Ytpmoefagpglddaa
/- THE CELL 'sum', in the pinned program and in every row, IS THE sha256 OF THE DUMP (.gsa) THAT YtpmoefagpglddaaProg.lean LOADS. Nothing in Lean hashes anything: it is a label: what it is worth is what the hold of that sum in a sandbox is worth. -/
noncomputable def Try.pinned : Pinned := { name := "ytpmoefagpglddaa", sum := "169843bc54f4e7db059a5927986e32ba9f67746b94e3caa14a7e87be7be6faa3", checked := Try.checked }
namespace Rows
def none {H : Type} : Left H := { results := [], args := [] }

/-- 'laws.FnMemos': WHATEVER THE INPUT: true; the input reads as it did. -/
def fnMemosSpec : ChangeSpec := { name := "fnMemos", fn := fun _ => fun
  | [d] => { results := [.lit (.bool true)], args := [d] }
  | _ => none }
def fnMemosRow : OpenClaim := { program := "ytpmoefagpglddaa", sum := "169843bc54f4e7db059a5927986e32ba9f67746b94e3caa14a7e87be7be6faa3", func := "loop.example/g00372/laws.FnMemos", spec := "fnMemos", apart := false }
def FnMemosSaid : Prop := fnMemosRow.holds Try.pinned (OpenSpec.ofChange fnMemosSpec)

/-- ITS FALSE NEIGHBOUR: 'it returns false'. Refute it at one input. -/
def fnMemosWrong : ChangeSpec := { name := "fnMemos", fn := fun _ => fun
  | [d] => { results := [.lit (.bool false)], args := [d] }
  | _ => none }
def FnMemosWrongFalsely : Prop := fnMemosRow.holds Try.pinned (OpenSpec.ofChange fnMemosWrong)

/-- 'laws.FnExactMemoOk': WHATEVER THE INPUT: true; the input reads as it did. -/
def fnExactMemoOkSpec : ChangeSpec := { name := "fnExactMemoOk", fn := fun _ => fun
  | [d] => { results := [.lit (.bool true)], args := [d] }
  | _ => none }
def fnExactMemoOkRow : OpenClaim := { program := "ytpmoefagpglddaa", sum := "169843bc54f4e7db059a5927986e32ba9f67746b94e3caa14a7e87be7be6faa3", func := "loop.example/g00372/laws.FnExactMemoOk", spec := "fnExactMemoOk", apart := false }
def FnExactMemoOkSaid : Prop := fnExactMemoOkRow.holds Try.pinned (OpenSpec.ofChange fnExactMemoOkSpec)

/-- ITS FALSE NEIGHBOUR: 'it returns false'. Refute it at one input. -/
def fnExactMemoOkWrong : ChangeSpec := { name := "fnExactMemoOk", fn := fun _ => fun
  | [d] => { results := [.lit (.bool false)], args := [d] }
  | _ => none }
def FnExactMemoOkWrongFalsely : Prop := fnExactMemoOkRow.holds Try.pinned (OpenSpec.ofChange fnExactMemoOkWrong)

/-- 'laws.FnExactNewMemo': WHATEVER THE INPUT: true; the input reads as it did. -/
def fnExactNewMemoSpec : ChangeSpec := { name := "fnExactNewMemo", fn := fun _ => fun
  | [] => { results := [.lit (.bool true)], args := [] }
  | _ => none }
def fnExactNewMemoRow : OpenClaim := { program := "ytpmoefagpglddaa", sum := "169843bc54f4e7db059a5927986e32ba9f67746b94e3caa14a7e87be7be6faa3", func := "loop.example/g00372/laws.FnExactNewMemo", spec := "fnExactNewMemo", apart := false }
def FnExactNewMemoSaid : Prop := fnExactNewMemoRow.holds Try.pinned (OpenSpec.ofChange fnExactNewMemoSpec)

/-- ITS FALSE NEIGHBOUR: 'it returns false'. Refute it at one input. -/
def fnExactNewMemoWrong : ChangeSpec := { name := "fnExactNewMemo", fn := fun _ => fun
  | [] => { results := [.lit (.bool false)], args := [] }
  | _ => none }
def FnExactNewMemoWrongFalsely : Prop := fnExactNewMemoRow.holds Try.pinned (OpenSpec.ofChange fnExactNewMemoWrong)

/-- 'laws.FnExactKnown': WHATEVER THE INPUT: true; the input reads as it did. -/
def fnExactKnownSpec : ChangeSpec := { name := "fnExactKnown", fn := fun _ => fun
  | [d1, d2, d3] => { results := [.lit (.bool true)], args := [d1, d2, d3] }
  | _ => none }
def fnExactKnownRow : OpenClaim := { program := "ytpmoefagpglddaa", sum := "169843bc54f4e7db059a5927986e32ba9f67746b94e3caa14a7e87be7be6faa3", func := "loop.example/g00372/laws.FnExactKnown", spec := "fnExactKnown", apart := false }
def FnExactKnownSaid : Prop := fnExactKnownRow.holds Try.pinned (OpenSpec.ofChange fnExactKnownSpec)

/-- ITS FALSE NEIGHBOUR: 'it returns false'. Refute it at one input. -/
def fnExactKnownWrong : ChangeSpec := { name := "fnExactKnown", fn := fun _ => fun
  | [d1, d2, d3] => { results := [.lit (.bool false)], args := [d1, d2, d3] }
  | _ => none }
def FnExactKnownWrongFalsely : Prop := fnExactKnownRow.holds Try.pinned (OpenSpec.ofChange fnExactKnownWrong)

/-- 'laws.FnExactNoted': WHATEVER THE INPUT: true; the input reads as it did. -/
def fnExactNotedSpec : ChangeSpec := { name := "fnExactNoted", fn := fun _ => fun
  | [d1, d2, d3, d4] => { results := [.lit (.bool true)], args := [d1, d2, d3, d4] }
  | _ => none }
def fnExactNotedRow : OpenClaim := { program := "ytpmoefagpglddaa", sum := "169843bc54f4e7db059a5927986e32ba9f67746b94e3caa14a7e87be7be6faa3", func := "loop.example/g00372/laws.FnExactNoted", spec := "fnExactNoted", apart := false }
def FnExactNotedSaid : Prop := fnExactNotedRow.holds Try.pinned (OpenSpec.ofChange fnExactNotedSpec)

/-- ITS FALSE NEIGHBOUR: 'it returns false'. Refute it at one input. -/
def fnExactNotedWrong : ChangeSpec := { name := "fnExactNoted", fn := fun _ => fun
  | [d1, d2, d3, d4] => { results := [.lit (.bool false)], args := [d1, d2, d3, d4] }
  | _ => none }
def FnExactNotedWrongFalsely : Prop := fnExactNotedRow.holds Try.pinned (OpenSpec.ofChange fnExactNotedWrong)

/- THE SECOND FORM. 'bulk': how many values and letters a reading holds, each counted each time it is reached (what is shared counts as often as it is met; a slice's spare places count too). A statement '..UptoSaid' is the law's where the arguments, and the package variables that the reading takes, are together of bulk at most 1048576: NARROWER than '..Said'. Prove '..Said' where nothing that the law and all that it calls make is longer than what came in: it says more and counts as full. Else prove '..UptoSaid'. A law counts once. -/
mutual
def uptoBulk {H : Type} : DataW H → Nat
  | .lit (.string bytes) => bytes.length + 1
  | .lit _ => 1
  | .nil => 1
  | .ptr d => uptoBulk d + 1
  | .slice elems spare => uptoBulkAll elems + uptoBulkAll spare + 1
  | .agg parts => uptoBulkAll parts + 1
  | .iface _ d => uptoBulk d + 1
  | .map entries => uptoBulkEntries entries + 1
  | .held _ => 1
def uptoBulkAll {H : Type} : List (DataW H) → Nat
  | [] => 0
  | d :: r => uptoBulk d + uptoBulkAll r
def uptoBulkEntries {H : Type} : List (Lit × DataW H) → Nat
  | [] => 0
  | x :: r => uptoBulkEntry x + uptoBulkEntries r
def uptoBulkEntry {H : Type} : Lit × DataW H → Nat
  | (.string bytes, d) => bytes.length + uptoBulk d + 1
  | (_, d) => uptoBulk d + 1
 end
def uptoSmall : (H : Type) → List (DataW H) → Bool := fun _ ds => decide (uptoBulkAll ds ≤ 1048576)
def OpenSpec.upto (s : _root_.Go.ChangeSpec) : _root_.Go.OpenSpec := { _root_.Go.OpenSpec.ofChange s with cond := some uptoSmall }

/-- 'laws.FnMemos', WHERE WHAT IT READS IS OF BULK AT MOST 1048576: true; the input reads as it did. -/
def fnMemosUptoRow : OpenClaim := { program := "ytpmoefagpglddaa", sum := "169843bc54f4e7db059a5927986e32ba9f67746b94e3caa14a7e87be7be6faa3", func := "loop.example/g00372/laws.FnMemos", spec := "fnMemos", apart := false, narrowed := true }
def FnMemosUptoSaid : Prop := fnMemosUptoRow.holds Try.pinned (OpenSpec.upto fnMemosSpec)

/-- 'laws.FnExactMemoOk', WHERE WHAT IT READS IS OF BULK AT MOST 1048576: true; the input reads as it did. -/
def fnExactMemoOkUptoRow : OpenClaim := { program := "ytpmoefagpglddaa", sum := "169843bc54f4e7db059a5927986e32ba9f67746b94e3caa14a7e87be7be6faa3", func := "loop.example/g00372/laws.FnExactMemoOk", spec := "fnExactMemoOk", apart := false, narrowed := true }
def FnExactMemoOkUptoSaid : Prop := fnExactMemoOkUptoRow.holds Try.pinned (OpenSpec.upto fnExactMemoOkSpec)

/-- 'laws.FnExactNewMemo', WHERE WHAT IT READS IS OF BULK AT MOST 1048576: true; the input reads as it did. -/
def fnExactNewMemoUptoRow : OpenClaim := { program := "ytpmoefagpglddaa", sum := "169843bc54f4e7db059a5927986e32ba9f67746b94e3caa14a7e87be7be6faa3", func := "loop.example/g00372/laws.FnExactNewMemo", spec := "fnExactNewMemo", apart := false, narrowed := true }
def FnExactNewMemoUptoSaid : Prop := fnExactNewMemoUptoRow.holds Try.pinned (OpenSpec.upto fnExactNewMemoSpec)

/-- 'laws.FnExactKnown', WHERE WHAT IT READS IS OF BULK AT MOST 1048576: true; the input reads as it did. -/
def fnExactKnownUptoRow : OpenClaim := { program := "ytpmoefagpglddaa", sum := "169843bc54f4e7db059a5927986e32ba9f67746b94e3caa14a7e87be7be6faa3", func := "loop.example/g00372/laws.FnExactKnown", spec := "fnExactKnown", apart := false, narrowed := true }
def FnExactKnownUptoSaid : Prop := fnExactKnownUptoRow.holds Try.pinned (OpenSpec.upto fnExactKnownSpec)

/-- 'laws.FnExactNoted', WHERE WHAT IT READS IS OF BULK AT MOST 1048576: true; the input reads as it did. -/
def fnExactNotedUptoRow : OpenClaim := { program := "ytpmoefagpglddaa", sum := "169843bc54f4e7db059a5927986e32ba9f67746b94e3caa14a7e87be7be6faa3", func := "loop.example/g00372/laws.FnExactNoted", spec := "fnExactNoted", apart := false, narrowed := true }
def FnExactNotedUptoSaid : Prop := fnExactNotedUptoRow.holds Try.pinned (OpenSpec.upto fnExactNotedSpec)

end Rows
end Go.Proofs.Ytpmoefagpglddaa
