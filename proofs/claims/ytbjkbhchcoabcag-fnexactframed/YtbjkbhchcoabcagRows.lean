/-
  No cell of these rows narrows 'for every input' (looked for: loops, veiled, ifaces, maps, wideKeys, modest, calm, conditions, laid).
  DERIVED. THE GIVEN ROWS OF THIS SEAT. 6 by the template 'for every input the law returns true; each argument reads behind the call as it read before'; 0 by the template 'total and deterministic' (their statements: YtbjkbhchcoabcagTotals.lean).
  GIVEN WITH THE SEED: the statements are not yours to turn. If you find one false, say at which input.
  Laid BY PROGRAM, IN A SANDBOX (cutbox-rows.mjs): the forced cells as the released guide's own fill.sh prints them over the translation 9e1bce4f5ea4fe5d… (all of the seat's roots in one cut). By AI agents, Wed Nov 11 2026. No macro, syntax, notation, axiom, sorry.
-/
import Derived.Test.YtbjkbhchcoabcagChecked
import GoSem.Claim
import GoSem.ClaimJoined
import GoSem.ClaimMapViews
import Derived.JoinedTies
import Derived.KernelRfl
namespace Go.Proofs.Ytbjkbhchcoabcag
/- THE CELL 'sum', in the pinned program and in every row, IS THE sha256 OF THE DUMP (.gsa) THAT YtbjkbhchcoabcagProg.lean LOADS. Nothing in Lean hashes anything: it is a label: what it is worth is what the hold of that sum in a sandbox is worth. -/
noncomputable def Try.pinned : Pinned := { name := "ytbjkbhchcoabcag", sum := "9e1bce4f5ea4fe5d435158d60e24eab124b7fc686023d5f2cc457dc946d0dcd8", checked := Try.checked }
namespace Rows
def none {H : Type} : Left H := { results := [], args := [] }

/-- 'laws.FnExactShowNumber': WHATEVER THE INPUT: true; the input reads as it did. -/
def fnExactShowNumberSpec : ChangeSpec := { name := "fnExactShowNumber", fn := fun _ => fun
  | [d1, d2] => { results := [.lit (.bool true)], args := [d1, d2] }
  | _ => none }
def fnExactShowNumberRow : OpenClaim := { program := "ytbjkbhchcoabcag", sum := "9e1bce4f5ea4fe5d435158d60e24eab124b7fc686023d5f2cc457dc946d0dcd8", func := "loop.example/g00372/laws.FnExactShowNumber", spec := "fnExactShowNumber", unfollowed := true, recurses := true, apart := false }
def FnExactShowNumberSaid : Prop := fnExactShowNumberRow.holds Try.pinned (OpenSpec.ofChange fnExactShowNumberSpec)

/-- ITS FALSE NEIGHBOUR: 'it returns false'. Refute it at one input. -/
def fnExactShowNumberWrong : ChangeSpec := { name := "fnExactShowNumber", fn := fun _ => fun
  | [d1, d2] => { results := [.lit (.bool false)], args := [d1, d2] }
  | _ => none }
def FnExactShowNumberWrongFalsely : Prop := fnExactShowNumberRow.holds Try.pinned (OpenSpec.ofChange fnExactShowNumberWrong)

/-- 'laws.FnExactReadNumber': WHATEVER THE INPUT: true; the input reads as it did. -/
def fnExactReadNumberSpec : ChangeSpec := { name := "fnExactReadNumber", fn := fun _ => fun
  | [d1, d2, d3] => { results := [.lit (.bool true)], args := [d1, d2, d3] }
  | _ => none }
def fnExactReadNumberRow : OpenClaim := { program := "ytbjkbhchcoabcag", sum := "9e1bce4f5ea4fe5d435158d60e24eab124b7fc686023d5f2cc457dc946d0dcd8", func := "loop.example/g00372/laws.FnExactReadNumber", spec := "fnExactReadNumber", unfollowed := true, recurses := true, apart := false }
def FnExactReadNumberSaid : Prop := fnExactReadNumberRow.holds Try.pinned (OpenSpec.ofChange fnExactReadNumberSpec)

/-- ITS FALSE NEIGHBOUR: 'it returns false'. Refute it at one input. -/
def fnExactReadNumberWrong : ChangeSpec := { name := "fnExactReadNumber", fn := fun _ => fun
  | [d1, d2, d3] => { results := [.lit (.bool false)], args := [d1, d2, d3] }
  | _ => none }
def FnExactReadNumberWrongFalsely : Prop := fnExactReadNumberRow.holds Try.pinned (OpenSpec.ofChange fnExactReadNumberWrong)

/-- 'laws.FnExactSum': WHATEVER THE INPUT: true; the input reads as it did. -/
def fnExactSumSpec : ChangeSpec := { name := "fnExactSum", fn := fun _ => fun
  | [d] => { results := [.lit (.bool true)], args := [d] }
  | _ => none }
def fnExactSumRow : OpenClaim := { program := "ytbjkbhchcoabcag", sum := "9e1bce4f5ea4fe5d435158d60e24eab124b7fc686023d5f2cc457dc946d0dcd8", func := "loop.example/g00372/laws.FnExactSum", spec := "fnExactSum", unfollowed := true, recurses := true, apart := false }
def FnExactSumSaid : Prop := fnExactSumRow.holds Try.pinned (OpenSpec.ofChange fnExactSumSpec)

/-- ITS FALSE NEIGHBOUR: 'it returns false'. Refute it at one input. -/
def fnExactSumWrong : ChangeSpec := { name := "fnExactSum", fn := fun _ => fun
  | [d] => { results := [.lit (.bool false)], args := [d] }
  | _ => none }
def FnExactSumWrongFalsely : Prop := fnExactSumRow.holds Try.pinned (OpenSpec.ofChange fnExactSumWrong)

/-- 'laws.FnExactNameOk': WHATEVER THE INPUT: true; the input reads as it did. -/
def fnExactNameOkSpec : ChangeSpec := { name := "fnExactNameOk", fn := fun _ => fun
  | [d] => { results := [.lit (.bool true)], args := [d] }
  | _ => none }
def fnExactNameOkRow : OpenClaim := { program := "ytbjkbhchcoabcag", sum := "9e1bce4f5ea4fe5d435158d60e24eab124b7fc686023d5f2cc457dc946d0dcd8", func := "loop.example/g00372/laws.FnExactNameOk", spec := "fnExactNameOk", apart := false }
def FnExactNameOkSaid : Prop := fnExactNameOkRow.holds Try.pinned (OpenSpec.ofChange fnExactNameOkSpec)

/-- ITS FALSE NEIGHBOUR: 'it returns false'. Refute it at one input. -/
def fnExactNameOkWrong : ChangeSpec := { name := "fnExactNameOk", fn := fun _ => fun
  | [d] => { results := [.lit (.bool false)], args := [d] }
  | _ => none }
def FnExactNameOkWrongFalsely : Prop := fnExactNameOkRow.holds Try.pinned (OpenSpec.ofChange fnExactNameOkWrong)

/-- 'laws.FnExactFramed': WHATEVER THE INPUT: true; the input reads as it did. -/
def fnExactFramedSpec : ChangeSpec := { name := "fnExactFramed", fn := fun _ => fun
  | [d] => { results := [.lit (.bool true)], args := [d] }
  | _ => none }
def fnExactFramedRow : OpenClaim := { program := "ytbjkbhchcoabcag", sum := "9e1bce4f5ea4fe5d435158d60e24eab124b7fc686023d5f2cc457dc946d0dcd8", func := "loop.example/g00372/laws.FnExactFramed", spec := "fnExactFramed", unfollowed := true, recurses := true, apart := false }
def FnExactFramedSaid : Prop := fnExactFramedRow.holds Try.pinned (OpenSpec.ofChange fnExactFramedSpec)

/-- ITS FALSE NEIGHBOUR: 'it returns false'. Refute it at one input. -/
def fnExactFramedWrong : ChangeSpec := { name := "fnExactFramed", fn := fun _ => fun
  | [d] => { results := [.lit (.bool false)], args := [d] }
  | _ => none }
def FnExactFramedWrongFalsely : Prop := fnExactFramedRow.holds Try.pinned (OpenSpec.ofChange fnExactFramedWrong)

/-- 'laws.FnExactFrameAt': WHATEVER THE INPUT: true; the input reads as it did. -/
def fnExactFrameAtSpec : ChangeSpec := { name := "fnExactFrameAt", fn := fun _ => fun
  | [d1, d2] => { results := [.lit (.bool true)], args := [d1, d2] }
  | _ => none }
def fnExactFrameAtRow : OpenClaim := { program := "ytbjkbhchcoabcag", sum := "9e1bce4f5ea4fe5d435158d60e24eab124b7fc686023d5f2cc457dc946d0dcd8", func := "loop.example/g00372/laws.FnExactFrameAt", spec := "fnExactFrameAt", unfollowed := true, recurses := true, apart := false }
def FnExactFrameAtSaid : Prop := fnExactFrameAtRow.holds Try.pinned (OpenSpec.ofChange fnExactFrameAtSpec)

/-- ITS FALSE NEIGHBOUR: 'it returns false'. Refute it at one input. -/
def fnExactFrameAtWrong : ChangeSpec := { name := "fnExactFrameAt", fn := fun _ => fun
  | [d1, d2] => { results := [.lit (.bool false)], args := [d1, d2] }
  | _ => none }
def FnExactFrameAtWrongFalsely : Prop := fnExactFrameAtRow.holds Try.pinned (OpenSpec.ofChange fnExactFrameAtWrong)

/- THE SECOND FORM. 'bulk': how many values and letters a reading holds, each counted each time it is reached (what is shared counts as often as it is met; a slice's spare places count too). A statement '..UptoSaid' is the law's where the arguments, and the package variables that the reading takes, are together of bulk at most 1048576: NARROWER than '..Said'. Prove '..Said' where nothing that the law and all that it calls make is longer than what came in: it says more and counts as full. Else prove '..UptoSaid'. A law counts once. -/
mutual
def uptoBulk {H : Type} : DataW H → Nat
  | .lit (.string bytes) => bytes.length + 1
  | .lit _ => 1
  | .nil => 1
  | .ptr d => uptoBulk d + 1
  | .slice elems spare => uptoBulkAll elems + uptoBulkAll spare + 1
  | .agg parts => uptoBulkAll parts + 1
  | .iface _ d => uptoBulk d + 1
  | .map entries => uptoBulkEntries entries + 1
  | .held _ => 1
def uptoBulkAll {H : Type} : List (DataW H) → Nat
  | [] => 0
  | d :: r => uptoBulk d + uptoBulkAll r
def uptoBulkEntries {H : Type} : List (Lit × DataW H) → Nat
  | [] => 0
  | x :: r => uptoBulkEntry x + uptoBulkEntries r
def uptoBulkEntry {H : Type} : Lit × DataW H → Nat
  | (.string bytes, d) => bytes.length + uptoBulk d + 1
  | (_, d) => uptoBulk d + 1
 end
def uptoSmall : (H : Type) → List (DataW H) → Bool := fun _ ds => decide (uptoBulkAll ds ≤ 1048576)
def OpenSpec.upto (s : _root_.Go.ChangeSpec) : _root_.Go.OpenSpec := { _root_.Go.OpenSpec.ofChange s with cond := some uptoSmall }

/-- 'laws.FnExactShowNumber', WHERE WHAT IT READS IS OF BULK AT MOST 1048576: true; the input reads as it did. -/
def fnExactShowNumberUptoRow : OpenClaim := { program := "ytbjkbhchcoabcag", sum := "9e1bce4f5ea4fe5d435158d60e24eab124b7fc686023d5f2cc457dc946d0dcd8", func := "loop.example/g00372/laws.FnExactShowNumber", spec := "fnExactShowNumber", unfollowed := true, recurses := true, apart := false, narrowed := true }
def FnExactShowNumberUptoSaid : Prop := fnExactShowNumberUptoRow.holds Try.pinned (OpenSpec.upto fnExactShowNumberSpec)

/-- 'laws.FnExactReadNumber', WHERE WHAT IT READS IS OF BULK AT MOST 1048576: true; the input reads as it did. -/
def fnExactReadNumberUptoRow : OpenClaim := { program := "ytbjkbhchcoabcag", sum := "9e1bce4f5ea4fe5d435158d60e24eab124b7fc686023d5f2cc457dc946d0dcd8", func := "loop.example/g00372/laws.FnExactReadNumber", spec := "fnExactReadNumber", unfollowed := true, recurses := true, apart := false, narrowed := true }
def FnExactReadNumberUptoSaid : Prop := fnExactReadNumberUptoRow.holds Try.pinned (OpenSpec.upto fnExactReadNumberSpec)

/-- 'laws.FnExactSum', WHERE WHAT IT READS IS OF BULK AT MOST 1048576: true; the input reads as it did. -/
def fnExactSumUptoRow : OpenClaim := { program := "ytbjkbhchcoabcag", sum := "9e1bce4f5ea4fe5d435158d60e24eab124b7fc686023d5f2cc457dc946d0dcd8", func := "loop.example/g00372/laws.FnExactSum", spec := "fnExactSum", unfollowed := true, recurses := true, apart := false, narrowed := true }
def FnExactSumUptoSaid : Prop := fnExactSumUptoRow.holds Try.pinned (OpenSpec.upto fnExactSumSpec)

/-- 'laws.FnExactNameOk', WHERE WHAT IT READS IS OF BULK AT MOST 1048576: true; the input reads as it did. -/
def fnExactNameOkUptoRow : OpenClaim := { program := "ytbjkbhchcoabcag", sum := "9e1bce4f5ea4fe5d435158d60e24eab124b7fc686023d5f2cc457dc946d0dcd8", func := "loop.example/g00372/laws.FnExactNameOk", spec := "fnExactNameOk", apart := false, narrowed := true }
def FnExactNameOkUptoSaid : Prop := fnExactNameOkUptoRow.holds Try.pinned (OpenSpec.upto fnExactNameOkSpec)

/-- 'laws.FnExactFramed', WHERE WHAT IT READS IS OF BULK AT MOST 1048576: true; the input reads as it did. -/
def fnExactFramedUptoRow : OpenClaim := { program := "ytbjkbhchcoabcag", sum := "9e1bce4f5ea4fe5d435158d60e24eab124b7fc686023d5f2cc457dc946d0dcd8", func := "loop.example/g00372/laws.FnExactFramed", spec := "fnExactFramed", unfollowed := true, recurses := true, apart := false, narrowed := true }
def FnExactFramedUptoSaid : Prop := fnExactFramedUptoRow.holds Try.pinned (OpenSpec.upto fnExactFramedSpec)

/-- 'laws.FnExactFrameAt', WHERE WHAT IT READS IS OF BULK AT MOST 1048576: true; the input reads as it did. -/
def fnExactFrameAtUptoRow : OpenClaim := { program := "ytbjkbhchcoabcag", sum := "9e1bce4f5ea4fe5d435158d60e24eab124b7fc686023d5f2cc457dc946d0dcd8", func := "loop.example/g00372/laws.FnExactFrameAt", spec := "fnExactFrameAt", unfollowed := true, recurses := true, apart := false, narrowed := true }
def FnExactFrameAtUptoSaid : Prop := fnExactFrameAtUptoRow.holds Try.pinned (OpenSpec.upto fnExactFrameAtSpec)

end Rows
end Go.Proofs.Ytbjkbhchcoabcag
