/-
  Contracts and plain laws, one chapter behind the other.
-/
import Derived.Test.YtgabhnhfomekfaaChecked
import Derived.ProofKit
import Derived.OpenShut
import Derived.ShutString
import Derived.Lib.SmallJoins
import Derived.SliceStrings
import Derived.ChangeSlices
import Derived.Deep.RegionHeld3
import Derived.Deep.Slices
import Derived.Deep.Strs
import Derived.Deep.DeepCutAuto
import Derived.Test.YtgabhnhfomekfaaM01
import Derived.Test.YtgabhnhfomekfaaM03
import Derived.Test.YtgabhnhfomekfaaM05
import Derived.Test.YtgabhnhfomekfaaM06
import Derived.Test.YtgabhnhfomekfaaM07
import Derived.Test.YtgabhnhfomekfaaM08
import Derived.Test.YtgabhnhfomekfaaM10
import Derived.Test.YtgabhnhfomekfaaM14
import Derived.Test.YtgabhnhfomekfaaM21
namespace Go.Proofs.Ytgabhnhfomekfaa
open Go.ChangeShapes Go.WideShapes Go.ChangeAt Go.RowKit Go.Deep Go.Joins

set_option linter.unusedVariables false

set_option maxRecDepth 100000


def FitMsg (m : Mg) : Prop := FitEnt m.e ∧ I64 m.kd ∧ I64 m.ds ∧ I64 m.vw ∧ I64 m.s ∧ I64 m.rc ∧ I64 m.rv

def FitPost (l : List Mg) : Prop := ∀ m ∈ l, FitMsg m
end Go.Proofs.Ytgabhnhfomekfaa

namespace Go.Proofs.Ytgabhnhfomekfaa
open Go.ChangeShapes Go.WideShapes Go.ChangeAt Go.RowKit Go.Deep Go.Joins

set_option linter.unusedVariables false

set_option maxRecDepth 100000


theorem mg_cells {B : Nat} {w : World} {o : Option Addr} {l : List Mg} (hc : ∀ i x, l[i]? = some x → ∃ g off, o = some ⟨g, off, none⟩ ∧ g < B ∧ ∀ j u, (mgC x)[j]? = some u → w.cell? ⟨g, off + i * 15 + j, none⟩ = some u) (i : Nat) (hi : i < l.length) :
    ∃ g off, o = some ⟨g, off, none⟩ ∧ g < B ∧ w.cell? ⟨g, off + i * 15, none⟩ = some (.int .i64 l[i].kd) ∧ w.cell? ⟨g, off + i * 15 + 1, none⟩ = some (.int .i64 l[i].ds) ∧ w.cell? ⟨g, off + i * 15 + 2, none⟩ = some (.int .i64 l[i].vw) ∧ w.cell? ⟨g, off + i * 15 + 3, none⟩ = some (.int .i64 l[i].e.sq) ∧ w.cell? ⟨g, off + i * 15 + 4, none⟩ = some (.int .i64 l[i].e.cl) ∧ w.cell? ⟨g, off + i * 15 + 5, none⟩ = some (.int .i64 l[i].e.tg) ∧ w.cell? ⟨g, off + i * 15 + 6, none⟩ = some (.int .i64 l[i].e.o.k) ∧ w.cell? ⟨g, off + i * 15 + 7, none⟩ = some (.string l[i].e.o.nm) ∧ w.cell? ⟨g, off + i * 15 + 8, none⟩ = some (.string l[i].e.o.ot) ∧ w.cell? ⟨g, off + i * 15 + 9, none⟩ = some (.int .i64 l[i].e.o.at_) ∧ w.cell? ⟨g, off + i * 15 + 10, none⟩ = some (.int .i64 l[i].e.o.va) ∧ w.cell? ⟨g, off + i * 15 + 11, none⟩ = some (.int .i64 l[i].e.o.ep) ∧ w.cell? ⟨g, off + i * 15 + 12, none⟩ = some (.int .i64 l[i].s) ∧ w.cell? ⟨g, off + i * 15 + 13, none⟩ = some (.int .i64 l[i].rc) ∧ w.cell? ⟨g, off + i * 15 + 14, none⟩ = some (.int .i64 l[i].rv) := by
  obtain ⟨g, off, e, hg, h⟩ := hc i _ (List.getElem?_eq_getElem hi)
  exact ⟨g, off, e, hg, h 0 _ rfl, h 1 _ rfl, h 2 _ rfl, h 3 _ rfl, h 4 _ rfl, h 5 _ rfl, h 6 _ rfl, h 7 _ rfl, h 8 _ rfl, h 9 _ rfl, h 10 _ rfl, h 11 _ rfl, h 12 _ rfl, h 13 _ rfl, h 14 _ rfl⟩

theorem Try.infoMsg : (Try.prog.info? 38).map (fun i => (i.zero, i.size, i.bytes)) = some (some (.agg #[.int .i64 0, .int .i64 0, .int .i64 0, .int .i64 0, .int .i64 0, .int .i64 0, .int .i64 0, .string ByteArray.empty, .string ByteArray.empty, .int .i64 0, .int .i64 0, .int .i64 0, .int .i64 0, .int .i64 0, .int .i64 0]), 15, 136) := by kernel_rfl
end Go.Proofs.Ytgabhnhfomekfaa

