/-
  No cell of these rows narrows 'for every input' (looked for: loops, veiled, ifaces, maps, wideKeys, modest, calm, conditions, laid).
  DERIVED. THE GIVEN ROWS OF THIS SEAT. 5 by the template 'for every input the law returns true; each argument reads behind the call as it read before'; 0 by the template 'total and deterministic' (their statements: YtghhphhnalfjaaaTotals.lean).
  GIVEN WITH THE SEED: the statements are not yours to turn. If you find one false, say at which input.
  Laid BY PROGRAM, IN A SANDBOX (cutbox-rows.mjs): the forced cells as the released guide's own fill.sh prints them over the translation 1a4085b1bddacaae… (all of the seat's roots in one cut). By AI agents, Wed Nov 11 2026. No macro, syntax, notation, axiom, sorry.
-/
import Derived.Test.YtghhphhnalfjaaaChecked
import GoSem.Claim
import GoSem.ClaimJoined
import GoSem.ClaimMapViews
import Derived.JoinedTies
import Derived.KernelRfl
namespace Go.Proofs.Ytghhphhnalfjaaa
/- THE CELL 'sum', in the pinned program and in every row, IS THE sha256 OF THE DUMP (.gsa) THAT YtghhphhnalfjaaaProg.lean LOADS. Nothing in Lean hashes anything: it is a label: what it is worth is what the hold of that sum in a sandbox is worth. -/
noncomputable def Try.pinned : Pinned := { name := "ytghhphhnalfjaaa", sum := "1a4085b1bddacaae180265b7cdbcca0f0646abd3358b88cd0bc4e9a1b6eebefa", checked := Try.checked }
namespace Rows
def none {H : Type} : Left H := { results := [], args := [] }

/-- 'laws.FnPost': WHATEVER THE INPUT: true; the input reads as it did. -/
def fnPostSpec : ChangeSpec := { name := "fnPost", fn := fun _ => fun
  | [d] => { results := [.lit (.bool true)], args := [d] }
  | _ => none }
def fnPostRow : OpenClaim := { program := "ytghhphhnalfjaaa", sum := "1a4085b1bddacaae180265b7cdbcca0f0646abd3358b88cd0bc4e9a1b6eebefa", func := "loop.example/g00372/laws.FnPost", spec := "fnPost", plainKeys := false, apart := false }
def FnPostSaid : Prop := fnPostRow.holds Try.pinned (OpenSpec.ofChange fnPostSpec)

/-- ITS FALSE NEIGHBOUR: 'it returns false'. Refute it at one input. -/
def fnPostWrong : ChangeSpec := { name := "fnPost", fn := fun _ => fun
  | [d] => { results := [.lit (.bool false)], args := [d] }
  | _ => none }
def FnPostWrongFalsely : Prop := fnPostRow.holds Try.pinned (OpenSpec.ofChange fnPostWrong)

/-- 'laws.FnExactPosted': WHATEVER THE INPUT: true; the input reads as it did. -/
def fnExactPostedSpec : ChangeSpec := { name := "fnExactPosted", fn := fun _ => fun
  | [d1, d2] => { results := [.lit (.bool true)], args := [d1, d2] }
  | _ => none }
def fnExactPostedRow : OpenClaim := { program := "ytghhphhnalfjaaa", sum := "1a4085b1bddacaae180265b7cdbcca0f0646abd3358b88cd0bc4e9a1b6eebefa", func := "loop.example/g00372/laws.FnExactPosted", spec := "fnExactPosted", plainKeys := false, apart := false }
def FnExactPostedSaid : Prop := fnExactPostedRow.holds Try.pinned (OpenSpec.ofChange fnExactPostedSpec)

/-- ITS FALSE NEIGHBOUR: 'it returns false'. Refute it at one input. -/
def fnExactPostedWrong : ChangeSpec := { name := "fnExactPosted", fn := fun _ => fun
  | [d1, d2] => { results := [.lit (.bool false)], args := [d1, d2] }
  | _ => none }
def FnExactPostedWrongFalsely : Prop := fnExactPostedRow.holds Try.pinned (OpenSpec.ofChange fnExactPostedWrong)

/-- 'laws.FnExactTaken': WHATEVER THE INPUT: true; the input reads as it did. -/
def fnExactTakenSpec : ChangeSpec := { name := "fnExactTaken", fn := fun _ => fun
  | [d1, d2] => { results := [.lit (.bool true)], args := [d1, d2] }
  | _ => none }
def fnExactTakenRow : OpenClaim := { program := "ytghhphhnalfjaaa", sum := "1a4085b1bddacaae180265b7cdbcca0f0646abd3358b88cd0bc4e9a1b6eebefa", func := "loop.example/g00372/laws.FnExactTaken", spec := "fnExactTaken", plainKeys := false, apart := false }
def FnExactTakenSaid : Prop := fnExactTakenRow.holds Try.pinned (OpenSpec.ofChange fnExactTakenSpec)

/-- ITS FALSE NEIGHBOUR: 'it returns false'. Refute it at one input. -/
def fnExactTakenWrong : ChangeSpec := { name := "fnExactTaken", fn := fun _ => fun
  | [d1, d2] => { results := [.lit (.bool false)], args := [d1, d2] }
  | _ => none }
def FnExactTakenWrongFalsely : Prop := fnExactTakenRow.holds Try.pinned (OpenSpec.ofChange fnExactTakenWrong)

/-- 'laws.FnExactTwice': WHATEVER THE INPUT: true; the input reads as it did. -/
def fnExactTwiceSpec : ChangeSpec := { name := "fnExactTwice", fn := fun _ => fun
  | [d1, d2] => { results := [.lit (.bool true)], args := [d1, d2] }
  | _ => none }
def fnExactTwiceRow : OpenClaim := { program := "ytghhphhnalfjaaa", sum := "1a4085b1bddacaae180265b7cdbcca0f0646abd3358b88cd0bc4e9a1b6eebefa", func := "loop.example/g00372/laws.FnExactTwice", spec := "fnExactTwice", plainKeys := false, apart := false }
def FnExactTwiceSaid : Prop := fnExactTwiceRow.holds Try.pinned (OpenSpec.ofChange fnExactTwiceSpec)

/-- ITS FALSE NEIGHBOUR: 'it returns false'. Refute it at one input. -/
def fnExactTwiceWrong : ChangeSpec := { name := "fnExactTwice", fn := fun _ => fun
  | [d1, d2] => { results := [.lit (.bool false)], args := [d1, d2] }
  | _ => none }
def FnExactTwiceWrongFalsely : Prop := fnExactTwiceRow.holds Try.pinned (OpenSpec.ofChange fnExactTwiceWrong)

/-- 'laws.FnExactServes': WHATEVER THE INPUT: true; the input reads as it did. -/
def fnExactServesSpec : ChangeSpec := { name := "fnExactServes", fn := fun _ => fun
  | [d1, d2] => { results := [.lit (.bool true)], args := [d1, d2] }
  | _ => none }
def fnExactServesRow : OpenClaim := { program := "ytghhphhnalfjaaa", sum := "1a4085b1bddacaae180265b7cdbcca0f0646abd3358b88cd0bc4e9a1b6eebefa", func := "loop.example/g00372/laws.FnExactServes", spec := "fnExactServes", unfollowed := true, recurses := true, plainKeys := false, apart := false }
def FnExactServesSaid : Prop := fnExactServesRow.holds Try.pinned (OpenSpec.ofChange fnExactServesSpec)

/-- ITS FALSE NEIGHBOUR: 'it returns false'. Refute it at one input. -/
def fnExactServesWrong : ChangeSpec := { name := "fnExactServes", fn := fun _ => fun
  | [d1, d2] => { results := [.lit (.bool false)], args := [d1, d2] }
  | _ => none }
def FnExactServesWrongFalsely : Prop := fnExactServesRow.holds Try.pinned (OpenSpec.ofChange fnExactServesWrong)

/- THE SECOND FORM. 'bulk': how many values and letters a reading holds, each counted each time it is reached (what is shared counts as often as it is met; a slice's spare places count too). A statement '..UptoSaid' is the law's where the arguments, and the package variables that the reading takes, are together of bulk at most 1048576: NARROWER than '..Said'. Prove '..Said' where nothing that the law and all that it calls make is longer than what came in: it says more and counts as full. Else prove '..UptoSaid'. A law counts once. -/
mutual
def uptoBulk {H : Type} : DataW H → Nat
  | .lit (.string bytes) => bytes.length + 1
  | .lit _ => 1
  | .nil => 1
  | .ptr d => uptoBulk d + 1
  | .slice elems spare => uptoBulkAll elems + uptoBulkAll spare + 1
  | .agg parts => uptoBulkAll parts + 1
  | .iface _ d => uptoBulk d + 1
  | .map entries => uptoBulkEntries entries + 1
  | .held _ => 1
def uptoBulkAll {H : Type} : List (DataW H) → Nat
  | [] => 0
  | d :: r => uptoBulk d + uptoBulkAll r
def uptoBulkEntries {H : Type} : List (Lit × DataW H) → Nat
  | [] => 0
  | x :: r => uptoBulkEntry x + uptoBulkEntries r
def uptoBulkEntry {H : Type} : Lit × DataW H → Nat
  | (.string bytes, d) => bytes.length + uptoBulk d + 1
  | (_, d) => uptoBulk d + 1
 end
def uptoSmall : (H : Type) → List (DataW H) → Bool := fun _ ds => decide (uptoBulkAll ds ≤ 1048576)
def OpenSpec.upto (s : _root_.Go.ChangeSpec) : _root_.Go.OpenSpec := { _root_.Go.OpenSpec.ofChange s with cond := some uptoSmall }

/-- 'laws.FnPost', WHERE WHAT IT READS IS OF BULK AT MOST 1048576: true; the input reads as it did. -/
def fnPostUptoRow : OpenClaim := { program := "ytghhphhnalfjaaa", sum := "1a4085b1bddacaae180265b7cdbcca0f0646abd3358b88cd0bc4e9a1b6eebefa", func := "loop.example/g00372/laws.FnPost", spec := "fnPost", plainKeys := false, apart := false, narrowed := true }
def FnPostUptoSaid : Prop := fnPostUptoRow.holds Try.pinned (OpenSpec.upto fnPostSpec)

/-- 'laws.FnExactPosted', WHERE WHAT IT READS IS OF BULK AT MOST 1048576: true; the input reads as it did. -/
def fnExactPostedUptoRow : OpenClaim := { program := "ytghhphhnalfjaaa", sum := "1a4085b1bddacaae180265b7cdbcca0f0646abd3358b88cd0bc4e9a1b6eebefa", func := "loop.example/g00372/laws.FnExactPosted", spec := "fnExactPosted", plainKeys := false, apart := false, narrowed := true }
def FnExactPostedUptoSaid : Prop := fnExactPostedUptoRow.holds Try.pinned (OpenSpec.upto fnExactPostedSpec)

/-- 'laws.FnExactTaken', WHERE WHAT IT READS IS OF BULK AT MOST 1048576: true; the input reads as it did. -/
def fnExactTakenUptoRow : OpenClaim := { program := "ytghhphhnalfjaaa", sum := "1a4085b1bddacaae180265b7cdbcca0f0646abd3358b88cd0bc4e9a1b6eebefa", func := "loop.example/g00372/laws.FnExactTaken", spec := "fnExactTaken", plainKeys := false, apart := false, narrowed := true }
def FnExactTakenUptoSaid : Prop := fnExactTakenUptoRow.holds Try.pinned (OpenSpec.upto fnExactTakenSpec)

/-- 'laws.FnExactTwice', WHERE WHAT IT READS IS OF BULK AT MOST 1048576: true; the input reads as it did. -/
def fnExactTwiceUptoRow : OpenClaim := { program := "ytghhphhnalfjaaa", sum := "1a4085b1bddacaae180265b7cdbcca0f0646abd3358b88cd0bc4e9a1b6eebefa", func := "loop.example/g00372/laws.FnExactTwice", spec := "fnExactTwice", plainKeys := false, apart := false, narrowed := true }
def FnExactTwiceUptoSaid : Prop := fnExactTwiceUptoRow.holds Try.pinned (OpenSpec.upto fnExactTwiceSpec)

/-- 'laws.FnExactServes', WHERE WHAT IT READS IS OF BULK AT MOST 1048576: true; the input reads as it did. -/
def fnExactServesUptoRow : OpenClaim := { program := "ytghhphhnalfjaaa", sum := "1a4085b1bddacaae180265b7cdbcca0f0646abd3358b88cd0bc4e9a1b6eebefa", func := "loop.example/g00372/laws.FnExactServes", spec := "fnExactServes", unfollowed := true, recurses := true, plainKeys := false, apart := false, narrowed := true }
def FnExactServesUptoSaid : Prop := fnExactServesUptoRow.holds Try.pinned (OpenSpec.upto fnExactServesSpec)

end Rows
end Go.Proofs.Ytghhphhnalfjaaa
