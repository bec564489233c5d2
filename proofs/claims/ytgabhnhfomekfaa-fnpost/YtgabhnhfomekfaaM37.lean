/-
  Contracts and plain laws, one chapter behind the other.
-/
import Derived.Handy
import Derived.Laws.IdiomStrings
import Derived.Lib.Strings
import Derived.Shelf.LaysM
import Derived.Shelf.Strconv.Clone
import Derived.Deep.RegionLaw
import Derived.WalkKit
import Derived.Test.YtgabhnhfomekfaaM01
import Derived.Test.YtgabhnhfomekfaaM02
import Derived.Test.YtgabhnhfomekfaaM03
import Derived.Test.YtgabhnhfomekfaaM06
import Derived.Test.YtgabhnhfomekfaaM07
import Derived.Test.YtgabhnhfomekfaaM08
import Derived.Test.YtgabhnhfomekfaaM12
namespace Go.Proofs.Ytgabhnhfomekfaa
open Go.RowKit

set_option linter.unusedVariables false

set_option maxRecDepth 100000

/-- The library's own contract of the copy, at this program's numbers. -/
def cloneRen : Go.Shelf.Ren := ⟨fun | 316 => 66 | n => n, fun | 9 => 9 | 3 => 3 | 4 => 4 | 37 => 22 | 0 => 0 | 127 => 96 | 5 => 5 | n => n, fun | n => n⟩

theorem cloneLays : Go.Proofs.LaysM.n316 Try.prog cloneRen where
  mixed := by kernel_rfl
  f316 := Try.func66.trans (congrArg some (by kernel_rfl))
  t0 := Try.underlying0
  a0 := Try.isAgg0
  z0 := Try.sizeOf0
  v0 := Try.zeroValue0
  i0 := by kernel_rfl
  t3 := Try.underlying3
  a3 := Try.isAgg3
  z3 := Try.sizeOf3
  v3 := Try.zeroValue3
  i3 := by kernel_rfl
  t4 := Try.underlying4
  a4 := Try.isAgg4
  z4 := Try.sizeOf4
  v4 := Try.zeroValue4
  i4 := by kernel_rfl
  t9 := Try.underlying9
  a9 := Try.isAgg9
  z9 := Try.sizeOf9
  v9 := Try.zeroValue9
  i9 := by kernel_rfl
  t37 := Try.underlying22
  a37 := Try.isAgg22
  z37 := Try.sizeOf22
  v37 := Try.zeroValue22
  i37 := by kernel_rfl
  t127 := Try.underlying96
  a127 := Try.isAgg96
  z127 := Try.sizeOf96
  v127 := Try.zeroValue96
  i127 := by kernel_rfl
  t5 := Try.underlying5
  a5 := Try.isAgg5
  z5 := Try.sizeOf5
  v5 := Try.zeroValue5
  i5 := by kernel_rfl

theorem liteClone_any (s : ByteArray) (w : World) (hs : s.size ≤ 1099511627776) :
    Calls Try.prog 66 #[.string s] w fun e w' => e = .returned (.string s) ∧ Below w.heap.size w w' := Any.stringslite_Clone cloneLays s w (by omega)

theorem clone_any (s : ByteArray) (w : World) (hs : s.size ≤ 1099511627776) :
    Calls Try.prog 65 #[.string s] w fun e w' => e = .returned (.string s) ∧ Below w.heap.size w w' := by
  go_enter Try.func65, Try.ntmps65
  go_wp2_with fail
  refine (liteClone_any s _ hs).mono ?_
  rintro e w1 ⟨rfl, b1⟩
  go_wp2_with fail
  go_ret
  exact ⟨rfl, b1⟩
end Go.Proofs.Ytgabhnhfomekfaa

namespace Go.Proofs.Ytgabhnhfomekfaa
open Go.RowKit

set_option linter.unusedVariables false

set_option maxRecDepth 100000


/-- The last run ends at the size or ahead of it. -/
def endsBy (rs : List (Int × Int × Int)) (sz : Int) : Bool := match rs.getLast? with
  | none => true
  | some r => decide (r.1 + r.2.1 ≤ sz)

def bookOk (nm : ByteArray) (sz : Int) (rs : List (Int × Int × Int)) (ep : Int) : Bool :=
  Nums.nameB nm.data.toList && (decide (1 ≤ sz) && decide (sz ≤ 16)) && (decide (0 ≤ ep) && decide (ep ≤ 1000)) && mapOk rs && endsBy rs sz
end Go.Proofs.Ytgabhnhfomekfaa

namespace Go.Proofs.Ytgabhnhfomekfaa
open Go.RowKit

set_option linter.unusedVariables false

set_option maxRecDepth 100000


/-- A book: its cells, and the runs that its map reads. -/
structure Bk where
  nm : ByteArray
  sz : Int
  m : Value
  rs : List (Int × Int × Int)
  fx : Bool
  ep : Int

def bookC (b : Bk) : List Value := [.string b.nm, .int .i64 b.sz, b.m, .bool b.fx, .int .i64 b.ep]

/-- A row of books that is read, the maps too. -/
structure ReadsB (B : Nat) (w : World) (v : Value) (bs : List Bk) : Prop where
  row : ReadsR 5 bookC B w v bs
  maps : ∀ b ∈ bs, ReadsR 3 runC B w b.m b.rs

theorem ReadsB.below {B : Nat} {w w' : World} {v : Value} {bs : List Bk} (h : ReadsB B w v bs) (k : Below B w w') : ReadsB B w' v bs := ⟨h.row.below k, fun b hb => (h.maps b hb).below k⟩

theorem ReadsB.mono {B B' : Nat} {w : World} {v : Value} {bs : List Bk} (h : ReadsB B w v bs) (k : B ≤ B') : ReadsB B' w v bs := ⟨h.row.mono k, fun b hb => (h.maps b hb).mono k⟩
end Go.Proofs.Ytgabhnhfomekfaa

namespace Go.Proofs.Ytgabhnhfomekfaa
open Go.RowKit

set_option linter.unusedVariables false

set_option maxRecDepth 100000

theorem toList_inj {a b : ByteArray} (h : a.toList = b.toList) : a = b := by
  apply ext_list
  rwa [ByteArray.toList_eq, ByteArray.toList_eq] at h

/-! ### Books, counted -/
structure Pb where
  nm : ByteArray
  sz : Int
  rs : List (Int × Int × Int)
  fx : Bool
  ep : Int

def Pb.ok (b : Pb) : Bool := bookOk b.nm b.sz b.rs b.ep
end Go.Proofs.Ytgabhnhfomekfaa

