/-
  The law FnBooks answers true at every input that the row speaks of, and its arguments read afterwards as before; the walk goes over the callees' contracts.
-/
import Derived.Test.YtehjahegokeofabRows
import Derived.WalkKit
import Derived.Test.YtehjahegokeofabMapM2
import Derived.Test.YtehjahegokeofabDrawBook3
import Derived.Test.YtehjahegokeofabBook3
import Derived.Test.YtehjahegokeofabImBook2
import Derived.Test.YtehjahegokeofabImBook3
import Derived.Test.YtehjahegokeofabImBook4
import Derived.Test.YtehjahegokeofabDrawNum
import Derived.ProofKit
import Derived.OpenShut
import Derived.ShutString
import Derived.ChangeOld
import Derived.Below
namespace Go.Proofs.Ytehjahegokeofab.fnBooks
open Go.ChangeShapes Go.WideShapes Go.ChangeAt Go.RowKit
open Go.ChangeMaps (open_string shut_string)
set_option linter.unusedVariables false

theorem own : ownKnob Try.prog.godebug = none := by kernel_rfl
theorem laidOut : laidOutB Try.prog = true := by kernel_rfl

def IsRow (k : IntKind) (w : World) (a : Option Addr) (len cap : Nat) (zs : List Int) : Prop :=
  (a = none ∧ len = 0 ∧ cap = 0 ∧ zs = []) ∨
  ∃ x, a = some x ∧ len ≤ cap ∧ cap ≤ maxLen ∧ zs.length = cap ∧ (∀ i, i < zs.length → w.cell? (x.add i) = some (.int k (zs.getD i 0))) ∧ ∀ n ∈ zs, (Lit.int k n).wf = true

set_option maxRecDepth 100000 in
set_option maxHeartbeats 8000000 in
theorem walk (a0 : Option Addr) (len0 cap0 : Nat) (z0 : List Int) (w : World) (w0 : IsRow .u8 w a0 len0 cap0 z0) :
    Calls Try.prog 6 #[.slice a0 len0 cap0] w fun e w' => e = .returned (.bool true) ∧ Below w.heap.size w w' := by
  have hs : Src w w.heap.size a0 len0 := src_of w0
  have hm := hs.1
  by_cases hbig : (4096 : Int) < (len0 : Int)
  · have hd : decide ((4096 : Int) < (len0 : Int)) = true := by simpa using hbig
    go_enter Try.func6, Try.ntmps6
    go_wp2_with (go_at_call 7; refine (big_any _ _ _ _ hm).mono ?_; rintro e w' ⟨rfl, rfl⟩)
    go_ret
    exact ⟨rfl, Below.refl _ _⟩
  have hd : decide ((4096 : Int) < (len0 : Int)) = false := by simpa using hbig
  have y0 : w.heap.size ≤ w.heap.size := Nat.le_refl _
  clear w0
  go_enter Try.func6, Try.ntmps6
  go_wp2_with fail
  refine (big_any _ _ _ _ hm).mono ?_
  rintro e w' ⟨rfl, rfl⟩
  go_wp2_with fail
  refine (drawNewBook_any _ _ _ _ hs).mono ?_
  rintro e w1 ⟨n, z, rfl, hn5, hz, d⟩
  replace hs := hs.below d
  replace y0 := d.size
  have HN1 : Hid (n.size ≤ maxLen) := by rw [Hid]; unfold maxLen; omega
  have HN2 : Hid (n.size ≤ 1099511627776) := by rw [Hid]; omega
  obtain ⟨nv, hnv⟩ : ∃ x, newOk n z = x := ⟨_, rfl⟩
  have HFD : Hid (newOk n z = nv) := hnv
  clear hnv
  go_wp2_with fail
  refine (implNewBook_any n z _ HN1.out HN2.out).mono ?_
  rw [HFD.out]
  rintro e w2 ⟨m1, rfl, og, b⟩
  replace d := bw_call d b
  replace hs := hs.below (b.mono y0)
  replace y0 := Nat.le_trans y0 b.size
  clear b
  obtain ⟨o1, c1, rfl⟩ := own_slice og
  have b : Below w2.heap.size w2 (w2.alloc (.cells #[.string (newName n z), .int .i64 (newSize n z), .slice o1 0 c1, .bool false, .int .i64 0] 50)) := bw_alloc (Below.refl _ _)
  have kB := heap_alloc_new w2 (.cells #[.string (newName n z), .int .i64 (newSize n z), .slice o1 0 c1, .bool false, .int .i64 0] 50)
  have sB : w2.heap.size < (w2.alloc (.cells #[.string (newName n z), .int .i64 (newSize n z), .slice o1 0 c1, .bool false, .int .i64 0] 50)).heap.size := by simp
  replace d := bw_call d b
  replace hs := hs.below (b.mono y0)
  replace y0 := Nat.le_trans y0 b.size
  replace og := owns_below og b
  clear b
  go_wp2_with fail
  generalize w2.alloc (.cells #[.string (newName n z), .int .i64 (newSize n z), .slice o1 0 c1, .bool false, .int .i64 0] 50) = W2 at *
  generalize w2.heap.size = nB at *
  refine (drawAlike_any _ _ _ _ (hs.mono y0)).mono ?_
  rintro e w3 ⟨a, bk, rfl, da, db, b⟩
  replace d := bw_call d b
  replace hs := hs.below (b.mono y0)
  replace y0 := Nat.le_trans y0 b.size
  replace og := owns_below og b
  replace kB := (b.block _ sB).trans kB
  replace sB := Nat.lt_of_lt_of_le sB b.size
  clear b
  obtain ⟨an, az, am, ar, af, ae⟩ := a
  obtain ⟨bn, bz, bm, br, bf, be⟩ := bk
  obtain ⟨o2, c2, hf2⟩ := da.reads.form
  obtain ⟨o3, c3, hf3⟩ := db.reads.form
  simp only at hf2 hf3
  subst hf2 hf3
  simp only
  have b : Below w3.heap.size w3 (w3.alloc (.cells #[.string an, .int .i64 az, .slice o2 ar.length c2, .bool af, .int .i64 ae] 50)) := bw_alloc (Below.refl _ _)
  have kX := heap_alloc_new w3 (.cells #[.string an, .int .i64 az, .slice o2 ar.length c2, .bool af, .int .i64 ae] 50)
  have sX : w3.heap.size < (w3.alloc (.cells #[.string an, .int .i64 az, .slice o2 ar.length c2, .bool af, .int .i64 ae] 50)).heap.size := by simp
  replace d := bw_call d b
  replace hs := hs.below (b.mono y0)
  replace y0 := Nat.le_trans y0 b.size
  replace og := owns_below og b
  replace kB := (b.block _ sB).trans kB
  replace sB := Nat.lt_of_lt_of_le sB b.size
  replace da := da.below b
  replace db := db.below b
  clear b
  have b : Below (w3.alloc (.cells #[.string an, .int .i64 az, .slice o2 ar.length c2, .bool af, .int .i64 ae] 50)).heap.size (w3.alloc (.cells #[.string an, .int .i64 az, .slice o2 ar.length c2, .bool af, .int .i64 ae] 50)) ((w3.alloc (.cells #[.string an, .int .i64 az, .slice o2 ar.length c2, .bool af, .int .i64 ae] 50)).alloc (.cells #[.string bn, .int .i64 bz, .slice o3 br.length c3, .bool bf, .int .i64 be] 50)) := bw_alloc (Below.refl _ _)
  have kY := heap_alloc_new (w3.alloc (.cells #[.string an, .int .i64 az, .slice o2 ar.length c2, .bool af, .int .i64 ae] 50)) (.cells #[.string bn, .int .i64 bz, .slice o3 br.length c3, .bool bf, .int .i64 be] 50)
  have sY : (w3.alloc (.cells #[.string an, .int .i64 az, .slice o2 ar.length c2, .bool af, .int .i64 ae] 50)).heap.size < ((w3.alloc (.cells #[.string an, .int .i64 az, .slice o2 ar.length c2, .bool af, .int .i64 ae] 50)).alloc (.cells #[.string bn, .int .i64 bz, .slice o3 br.length c3, .bool bf, .int .i64 be] 50)).heap.size := by simp
  replace d := bw_call d b
  replace hs := hs.below (b.mono y0)
  replace y0 := Nat.le_trans y0 b.size
  replace og := owns_below og b
  replace kB := (b.block _ sB).trans kB
  replace sB := Nat.lt_of_lt_of_le sB b.size
  replace da := da.below b
  replace db := db.below b
  replace kX := (b.block _ sX).trans kX
  replace sX := Nat.lt_of_lt_of_le sX b.size
  clear b
  have hyx : (w3.alloc (.cells #[.string an, .int .i64 az, .slice o2 ar.length c2, .bool af, .int .i64 ae] 50)).heap.size = w3.heap.size + 1 := by simp
  rw [hyx] at kY sY
  go_wp2_with fail
  generalize (w3.alloc (.cells #[.string an, .int .i64 az, .slice o2 ar.length c2, .bool af, .int .i64 ae] 50)).alloc (.cells #[.string bn, .int .i64 bz, .slice o3 br.length c3, .bool bf, .int .i64 be] 50) = W3 at *
  clear hyx
  generalize w3.heap.size = nX at *
  refine (drawFindBook_any _ _ _ _ (hs.mono y0)).mono ?_
  rintro e w4 ⟨v, bs, nq, rfl, rl, hfs, hl4, hq5, b⟩
  replace d := bw_call d b
  replace hs := hs.below (b.mono y0)
  replace y0 := Nat.le_trans y0 b.size
  replace og := owns_below og b
  replace kB := (b.block _ sB).trans kB
  replace sB := Nat.lt_of_lt_of_le sB b.size
  replace da := da.below b
  replace db := db.below b
  replace kX := (b.block _ sX).trans kX
  replace sX := Nat.lt_of_lt_of_le sX b.size
  replace kY := (b.block _ sY).trans kY
  replace sY := Nat.lt_of_lt_of_le sY b.size
  clear b
  clear hs y0
  have yl : w4.heap.size ≤ w4.heap.size := Nat.le_refl _
  have HFS : Hid _ := hfs
  clear hfs
  obtain ⟨ol, cl, hvl⟩ := rl.form
  subst hvl
  obtain ⟨at_, hat⟩ : ∃ x, findB bs nq = x := ⟨_, rfl⟩
  have HAT : Hid (findB bs nq = at_) := hat
  clear hat
  go_wp2_with fail
  refine (implFindBook_any _ bs nq _ HFS.out (rl.mono yl)).mono ?_
  rw [HAT.out]
  rintro e w5 ⟨rfl, b⟩
  replace d := bw_call d b
  replace og := owns_below og b
  replace kB := (b.block _ sB).trans kB
  replace sB := Nat.lt_of_lt_of_le sB b.size
  replace da := da.below b
  replace db := db.below b
  replace kX := (b.block _ sX).trans kX
  replace sX := Nat.lt_of_lt_of_le sX b.size
  replace kY := (b.block _ sY).trans kY
  replace sY := Nat.lt_of_lt_of_le sY b.size
  replace rl := rl.below (b.mono yl)
  replace yl := Nat.le_trans yl b.size
  clear b
  go_wp2_with fail
  refine (specNewBook_any n z _ HN1.out).mono ?_
  rw [HFD.out]
  rintro e w6 ⟨rfl, b⟩
  replace d := bw_call d b
  replace og := owns_below og b
  replace kB := (b.block _ sB).trans kB
  replace sB := Nat.lt_of_lt_of_le sB b.size
  replace da := da.below b
  replace db := db.below b
  replace kX := (b.block _ sX).trans kX
  replace sX := Nat.lt_of_lt_of_le sX b.size
  replace kY := (b.block _ sY).trans kY
  replace sY := Nat.lt_of_lt_of_le sY b.size
  replace rl := rl.below (b.mono yl)
  replace yl := Nat.le_trans yl b.size
  clear b
  have b : Below w6.heap.size w6 (w6.alloc (.cells #[.string (newName n z), .int .i64 (newSize n z), .slice none 0 0, .bool false, .int .i64 0] 50)) := bw_alloc (Below.refl _ _)
  have kZ := heap_alloc_new w6 (.cells #[.string (newName n z), .int .i64 (newSize n z), .slice none 0 0, .bool false, .int .i64 0] 50)
  have sZ : w6.heap.size < (w6.alloc (.cells #[.string (newName n z), .int .i64 (newSize n z), .slice none 0 0, .bool false, .int .i64 0] 50)).heap.size := by simp
  replace d := bw_call d b
  replace og := owns_below og b
  replace kB := (b.block _ sB).trans kB
  replace sB := Nat.lt_of_lt_of_le sB b.size
  replace da := da.below b
  replace db := db.below b
  replace kX := (b.block _ sX).trans kX
  replace sX := Nat.lt_of_lt_of_le sX b.size
  replace kY := (b.block _ sY).trans kY
  replace sY := Nat.lt_of_lt_of_le sY b.size
  replace rl := rl.below (b.mono yl)
  replace yl := Nat.le_trans yl b.size
  clear b
  go_upto_region 9 with fail
  generalize w6.alloc (.cells #[.string (newName n z), .int .i64 (newSize n z), .slice none 0 0, .bool false, .int .i64 0] 50) = W6 at *
  generalize w6.heap.size = nZ at *
  obtain ⟨al, hal⟩ : ∃ x, alike an az ar ae bn bz br be = x := ⟨_, rfl⟩
  have HAL : Hid (alike an az ar ae bn bz br be = al) := hal
  have HAL2 : Hid (alike bn bz br be an az ar ae = al) := by rw [Hid, alike_comm]; exact hal
  obtain ⟨bo, hbo⟩ : ∃ x, bookOk an az ar ae = x := ⟨_, rfl⟩
  have HBO : Hid (bookOk an az ar ae = bo) := hbo
  have HNB : Hid (nv = true → bookOk (newName n z) (newSize n z) [] 0 = true) := fun h => by
    have e := HFD.out.trans h
    rw [show newName n z = n by rw [newName, if_pos e], show newSize n z = z by rw [newSize, if_pos e], bookOk_new, e]
  have HNL : Hid ((newName n z).size ≤ maxLen) := by
    rw [Hid, newName]
    split
    · exact HN1.out
    · exact Nat.zero_le _
  clear hal hbo
  have hne := BelowOf.any W6
  have hnv : (nv != nv) = false := by cases nv <;> rfl
  have hal : (al != al) = false := by cases al <;> rfl
  have hbo : (bo != bo) = false := by cases bo <;> rfl
  have hat : (at_ != at_) = false := by simp
  have H15 : ∀ q : BelowOf W6, Calls Try.prog 39 #[.agg #[.string (newName n z), .int .i64 (newSize n z), .slice o1 0 c1, .bool false, .int .i64 0], .agg #[.string (newName n z), .int .i64 (newSize n z), .slice none 0 0, .bool false, .int .i64 0]] q.w' fun e w' => e = .returned (.bool true) ∧ Below q.w'.heap.size q.w' w' := fun q => likeBook_same (newName n z) (newSize n z) _ _ [] false 0 q.w' (ReadsR.of_own (xs := []) runC_len (owns_below og q.h)) (ReadsR.nil _ _ _ _)
  have H16 : ∀ q : BelowOf W6, Calls Try.prog 40 #[.agg #[.string an, .int .i64 az, .slice o2 ar.length c2, .bool af, .int .i64 ae], .agg #[.string bn, .int .i64 bz, .slice o3 br.length c3, .bool bf, .int .i64 be]] q.w' fun e w' => e = .returned (.bool al) ∧ Below q.w'.heap.size q.w' w' := fun q => by have h := implAlike_any an az _ ar af ae bn bz _ br bf be q.w' da.nm db.nm da.fit db.fit (da.below q.h).reads (db.below q.h).reads; rwa [HAL.out] at h
  have H17 : ∀ q : BelowOf W6, Calls Try.prog 41 #[.agg #[.string an, .int .i64 az, .slice o2 ar.length c2, .bool af, .int .i64 ae], .agg #[.string bn, .int .i64 bz, .slice o3 br.length c3, .bool bf, .int .i64 be]] q.w' fun e w' => e = .returned (.bool al) ∧ Below q.w'.heap.size q.w' w' := fun q => by have h := specAlike_any an az _ ar af ae bn bz _ br bf be q.w' da.nm db.nm (da.below q.h).reads (db.below q.h).reads; rwa [HAL.out] at h
  have H18 : ∀ q : BelowOf W6, Calls Try.prog 42 #[.agg #[.string an, .int .i64 az, .slice o2 ar.length c2, .bool af, .int .i64 ae]] q.w' fun e w' => e = .returned (.bool bo) ∧ Below q.w'.heap.size q.w' w' := fun q => by have h := implBookOk_any an az _ ar af ae q.w' da.nm da.fit (da.below q.h).reads; rwa [HBO.out] at h
  have H19 : ∀ q : BelowOf W6, Calls Try.prog 43 #[.agg #[.string an, .int .i64 az, .slice o2 ar.length c2, .bool af, .int .i64 ae]] q.w' fun e w' => e = .returned (.bool bo) ∧ Below q.w'.heap.size q.w' w' := fun q => by have h := specBookOk_any an az _ ar af ae q.w' da.nm (da.below q.h).reads; rwa [HBO.out] at h
  have H20 : ∀ q : BelowOf W6, Calls Try.prog 44 #[.slice ol bs.length cl, .string nq] q.w' fun e w' => e = .returned (.int .i64 at_) ∧ w' = q.w' := fun q => by have h := specFindBook_any _ bs nq q.w' (rl.of yl q); rwa [HAT.out] at h
  have pB0 := BelowOf.cell (v := .string (newName n z)) (at_cell kB 0) sB
  have pB1 := BelowOf.cell (v := .int .i64 (newSize n z)) (at_cell kB 1) sB
  have pB2 := BelowOf.cell (v := .slice o1 0 c1) (at_cell kB 2) sB
  have pB3 := BelowOf.cell (v := .bool false) (at_cell kB 3) sB
  have pB4 := BelowOf.cell (v := .int .i64 0) (at_cell kB 4) sB
  have pX0 := BelowOf.cell (v := .string an) (at_cell kX 0) sX
  have pX1 := BelowOf.cell (v := .int .i64 az) (at_cell kX 1) sX
  have pX2 := BelowOf.cell (v := .slice o2 ar.length c2) (at_cell kX 2) sX
  have pX3 := BelowOf.cell (v := .bool af) (at_cell kX 3) sX
  have pX4 := BelowOf.cell (v := .int .i64 ae) (at_cell kX 4) sX
  have pY0 := BelowOf.cell (v := .string bn) (at_cell kY 0) sY
  have pY1 := BelowOf.cell (v := .int .i64 bz) (at_cell kY 1) sY
  have pY2 := BelowOf.cell (v := .slice o3 br.length c3) (at_cell kY 2) sY
  have pY3 := BelowOf.cell (v := .bool bf) (at_cell kY 3) sY
  have pY4 := BelowOf.cell (v := .int .i64 be) (at_cell kY 4) sY
  have pZ0 := BelowOf.cell (v := .string (newName n z)) (at_cell kZ 0) sZ
  have pZ1 := BelowOf.cell (v := .int .i64 (newSize n z)) (at_cell kZ 1) sZ
  have pZ2 := BelowOf.cell (v := .slice none 0 0) (at_cell kZ 2) sZ
  have pZ3 := BelowOf.cell (v := .bool false) (at_cell kZ 3) sZ
  have pZ4 := BelowOf.cell (v := .int .i64 0) (at_cell kZ 4) sZ
  refine wp_region_of (by kernel_rfl) (by kernel_rfl) ?_
  repeat (go_big_quiet_step ((first | (go_at_call 39; exact calls_of (H15 _)) | (go_at_call 40; exact calls_of (H16 _)) | (go_at_call 41; exact calls_of (H17 _)) | (go_at_call 42; exact calls_of (H18 _)) | (go_at_call 43; exact calls_of (H19 _)) | (go_at_call 44; exact calls_of_same (H20 _)) | rfl)))
  refine wpQuiet_nil ?_
  intro w7 hw5
  obtain ⟨⟨wx, cx⟩, hwx⟩ := hw5
  have b : Below W6.heap.size W6 w7 := by rw [hwx]; exact cx
  clear hwx cx wx hne H15 H16 H17 H18 H19 H20 pB0 pB1 pB2 pB3 pB4 pX0 pX1 pX2 pX3 pX4 pY0 pY1 pY2 pY3 pY4 pZ0 pZ1 pZ2 pZ3 pZ4
  replace d := bw_call d b
  replace og := owns_below og b
  replace kB := (b.block _ sB).trans kB
  replace sB := Nat.lt_of_lt_of_le sB b.size
  replace da := da.below b
  replace db := db.below b
  replace kX := (b.block _ sX).trans kX
  replace sX := Nat.lt_of_lt_of_le sX b.size
  replace kY := (b.block _ sY).trans kY
  replace sY := Nat.lt_of_lt_of_le sY b.size
  replace rl := rl.below (b.mono yl)
  replace yl := Nat.le_trans yl b.size
  replace kZ := (b.block _ sZ).trans kZ
  replace sZ := Nat.lt_of_lt_of_le sZ b.size
  clear b
  clear kZ sZ
  clear hbo hat
  go_upto_region 11 with fail
  go_cut [105] (fun v wx => v = .bool false ∧ Below w7.heap.size w7 wx)
  case first =>
    have hne := BelowOf.any w7
    have H16 : ∀ q : BelowOf w7, Calls Try.prog 40 #[.agg #[.string an, .int .i64 az, .slice o2 ar.length c2, .bool af, .int .i64 ae], .agg #[.string bn, .int .i64 bz, .slice o3 br.length c3, .bool bf, .int .i64 be]] q.w' fun e w' => e = .returned (.bool al) ∧ Below q.w'.heap.size q.w' w' := fun q => by have h := implAlike_any an az _ ar af ae bn bz _ br bf be q.w' da.nm db.nm da.fit db.fit (da.below q.h).reads (db.below q.h).reads; rwa [HAL.out] at h
    have H17 : ∀ q : BelowOf w7, Calls Try.prog 40 #[.agg #[.string bn, .int .i64 bz, .slice o3 br.length c3, .bool bf, .int .i64 be], .agg #[.string an, .int .i64 az, .slice o2 ar.length c2, .bool af, .int .i64 ae]] q.w' fun e w' => e = .returned (.bool al) ∧ Below q.w'.heap.size q.w' w' := fun q => by have h := implAlike_any bn bz _ br bf be an az _ ar af ae q.w' db.nm da.nm db.fit da.fit (db.below q.h).reads (da.below q.h).reads; rwa [HAL2.out] at h
    have pB0 := BelowOf.cell (v := .string (newName n z)) (at_cell kB 0) sB
    have pB1 := BelowOf.cell (v := .int .i64 (newSize n z)) (at_cell kB 1) sB
    have pB2 := BelowOf.cell (v := .slice o1 0 c1) (at_cell kB 2) sB
    have pB3 := BelowOf.cell (v := .bool false) (at_cell kB 3) sB
    have pB4 := BelowOf.cell (v := .int .i64 0) (at_cell kB 4) sB
    have pX0 := BelowOf.cell (v := .string an) (at_cell kX 0) sX
    have pX1 := BelowOf.cell (v := .int .i64 az) (at_cell kX 1) sX
    have pX2 := BelowOf.cell (v := .slice o2 ar.length c2) (at_cell kX 2) sX
    have pX3 := BelowOf.cell (v := .bool af) (at_cell kX 3) sX
    have pX4 := BelowOf.cell (v := .int .i64 ae) (at_cell kX 4) sX
    have pY0 := BelowOf.cell (v := .string bn) (at_cell kY 0) sY
    have pY1 := BelowOf.cell (v := .int .i64 bz) (at_cell kY 1) sY
    have pY2 := BelowOf.cell (v := .slice o3 br.length c3) (at_cell kY 2) sY
    have pY3 := BelowOf.cell (v := .bool bf) (at_cell kY 3) sY
    have pY4 := BelowOf.cell (v := .int .i64 be) (at_cell kY 4) sY
    cases nv
    · refine wp_region_of (by kernel_rfl) (by kernel_rfl) ?_
      repeat (go_big_quiet_step ((first | (go_at_call 40; with_reducible exact calls_of (H16 _)) | (go_at_call 40; with_reducible exact calls_of (H17 _)) | rfl)))
      refine wpQuiet_nil ?_
      intro w8 hw5
      obtain ⟨⟨wx, cx⟩, hwx⟩ := hw5
      have b8 : Below w7.heap.size w7 w8 := by rw [hwx]; exact cx
      clear hwx cx wx
      go_wp2_with fail
      go_meet
      exact ⟨by first | rfl | trivial, b8⟩
    · have H18 : ∀ q : BelowOf w7, Calls Try.prog 42 #[.agg #[.string (newName n z), .int .i64 (newSize n z), .slice o1 0 c1, .bool false, .int .i64 0]] q.w' fun e w' => e = .returned (.bool true) ∧ Below q.w'.heap.size q.w' w' := fun q => by have h := implBookOk_any (newName n z) (newSize n z) (.slice o1 0 c1) [] false 0 q.w' HNL.out fit_nil (ReadsR.of_own (xs := []) runC_len (owns_below og q.h)); rwa [HNB.out rfl] at h
      have H19 : ∀ q : BelowOf w7, Calls Try.prog 40 #[.agg #[.string (newName n z), .int .i64 (newSize n z), .slice o1 0 c1, .bool false, .int .i64 0], .agg #[.string (newName n z), .int .i64 (newSize n z), .slice o1 0 c1, .bool false, .int .i64 0]] q.w' fun e w' => e = .returned (.bool true) ∧ Below q.w'.heap.size q.w' w' := fun q => by have h := implAlike_any (newName n z) (newSize n z) (.slice o1 0 c1) [] false 0 (newName n z) (newSize n z) (.slice o1 0 c1) [] false 0 q.w' HNL.out HNL.out fit_nil fit_nil (ReadsR.of_own (xs := []) runC_len (owns_below og q.h)) (ReadsR.of_own (xs := []) runC_len (owns_below og q.h)); rwa [show alike (newName n z) (newSize n z) [] 0 (newName n z) (newSize n z) [] 0 = true by rw [alike, HNB.out rfl]; simp] at h
      refine wp_region_of (by kernel_rfl) (by kernel_rfl) ?_
      repeat (go_big_quiet_step ((first | (go_at_call 42; with_reducible exact calls_of (H18 _)) | (go_at_call 40; with_reducible exact calls_of (H16 _)) | (go_at_call 40; with_reducible exact calls_of (H17 _)) | (go_at_call 40; with_reducible exact calls_of (H19 _)) | rfl)))
      refine wpQuiet_nil ?_
      intro w8 hw5
      obtain ⟨⟨wx, cx⟩, hwx⟩ := hw5
      have b8 : Below w7.heap.size w7 w8 := by rw [hwx]; exact cx
      clear hwx cx wx
      go_wp2_with fail
      go_meet
      exact ⟨by first | rfl | trivial, b8⟩
  case rest =>
    obtain ⟨rfl, b⟩ := hcut
    replace d := bw_call d b
    replace og := owns_below og b
    replace kB := (b.block _ sB).trans kB
    replace sB := Nat.lt_of_lt_of_le sB b.size
    replace da := da.below b
    replace db := db.below b
    replace kX := (b.block _ sX).trans kX
    replace sX := Nat.lt_of_lt_of_le sX b.size
    replace kY := (b.block _ sY).trans kY
    replace sY := Nat.lt_of_lt_of_le sY b.size
    replace rl := rl.below (b.mono yl)
    replace yl := Nat.le_trans yl b.size
    clear b
    clear kB sB kX sX kY sY og da db
    clear HAL HAL2 HBO HNB HNL HFD HN1 HN2 HFS hnv hal
    have HRG : Hid _ := find_range nq (bs.map Bk.nm) 0
    have HFI : Hid (∀ j (hj : j < bs.length), bs[j].nm = nq → 0 ≤ at_ ∧ at_ ≤ j) := fun j hj e => by
      have h := find_first nq (bs.map Bk.nm) 0 j (by simp [hj, e])
      have e2 : findFrom nq (bs.map Bk.nm) 0 = at_ := HAT.out
      rw [e2] at h
      omega
    have HNM : Hid (at_ = -1 ∨ ∃ (k : Nat) (hk : k < bs.length), at_ = k ∧ bs[k].nm = nq) := by
      rcases HRG.out with h | ⟨h1, h2, h3⟩
      · exact .inl (by rw [← HAT.out]; exact h)
      · have e2 : findFrom nq (bs.map Bk.nm) 0 = at_ := HAT.out
        rw [e2] at h1 h2 h3
        simp only [List.length_map, Nat.sub_zero] at h2 h3
        refine .inr ⟨at_.toNat, by omega, by omega, ?_⟩
        rw [List.getElem?_map, List.getElem?_eq_getElem (show at_.toNat < bs.length by omega)] at h3
        simpa using h3
    obtain ⟨_, _, ev, hml, hcl, -⟩ := rl
    cases ev
    have HC : Hid (∀ i (hi : i < bs.length), ∃ g off, ol = some ⟨g, off, none⟩ ∧ g < w4.heap.size ∧ wc.cell? ⟨g, off + i * 5, none⟩ = some (.string bs[i].nm)) := fun i hi => by
      obtain ⟨g, off, e, hg, hx⟩ := hcl i bs[i] (List.getElem?_eq_getElem hi)
      exact ⟨g, off, e, hg, hx 0 _ rfl⟩
    clear hcl HRG HAT hml
    go_wp2_with fail
    go_loopw [14] (fun i wr => ∃ k : Nat, k ≤ bs.length ∧ i = .int .i64 k ∧ wr = wc) (fun i _ => bs.length - (intOf i).toNat)
    case atStart => exact ⟨0, Nat.zero_le _, rfl, rfl⟩
    case round =>
      obtain ⟨k, hk, rfl, rfl⟩ := hrel
      by_cases hlt : k < bs.length
      · obtain ⟨g, off, rfl, hg, a0⟩ := HC.out k hlt
        have hfk := HFI.out k hlt
        generalize bs[k].nm = x at a0 hfk
        clear HC HFI HNM
        by_cases hx : x = nq
        · have hq : (x.toList == nq.toList) = true := by rw [text_eq]; exact decide_eq_true hx
          have hr := hfk hx
          have h1 : ¬ at_ < 0 := by omega
          have h2 : ¬ (k : Int) < at_ := by omega
          clear hfk hx
          go_wp2_with fail
          go_roundw
          case rel => exact ⟨k + 1, by omega, by go_num, by trivial⟩
          case measure => simp [intOf]; omega
        · have hq : (x.toList == nq.toList) = false := by rw [text_eq]; exact decide_eq_false hx
          clear hfk hx
          go_wp2_with fail
          go_roundw
          case rel => exact ⟨k + 1, by omega, by go_num, by trivial⟩
          case measure => simp [intOf]; omega
      · rcases HNM.out with rfl | ⟨j, hj, rfl, hjn⟩
        · clear HC HFI HNM
          go_wp2_with fail
          go_ret
          exact ⟨rfl, d⟩
        · obtain ⟨g, off, rfl, hg, a0⟩ := HC.out j hj
          rw [hjn] at a0
          have hq : (nq.toList == nq.toList) = true := by simp
          clear HC HFI HNM hjn
          go_wp2_with fail
          go_ret
          exact ⟨rfl, d⟩

set_option maxRecDepth 100000 in
theorem lifted (os : Os) (started : os.Started) (H : Type) (enc : TypeId × Value → H) :
    ReturnsInHanded {} Try.checked os 6 .any (Rows.fnBooksSpec.pre6 enc Try.prog Try.f6 Rows.fnBooksRow.domain false) (Rows.fnBooksSpec.post enc Try.prog Try.f6 false true false false) := by
  refine returnsInHanded_of_change (C := Try.checked) own started (by kernel_rfl) Try.func6
    (ChangeSpec.witness6 (enc := enc) (C := Try.checked) false ⟨#[], #[.slice none 0 0], []⟩ 8 (by kernel_rfl) (by kernel_rfl) (by kernel_rfl) (by kernel_rfl)) ?_
  intro W base args ds gs before hval0 hW hcnd _
  have hval : ∀ (j : Nat) t v, Try.f6.params[j]? = some t → args[j]? = some v → Value.okWide Try.prog W .any base t v := hval0
  have hW' := hW
  obtain ⟨p, q, hA0, hV, rfl, hfz, hnd⟩ := hW
  have hA : DataW.TrodAll enc Try.prog W 0 (fun _ => true) true Try.f6.params.toList args.toList ds p := hA0
  rw [Try.params6] at hA hval
  obtain ⟨v0, vs0, d0, ds0, p0, q0, hargs, rfl, rfl, h0, r0⟩ := trodAll_cons hA
  obtain ⟨rfl, rfl, rfl⟩ := trodAll_nil r0
  obtain rfl : args = #[v0] := by cases args; simp_all
  obtain ⟨rfl, rfl⟩ := trodVars_none hV
  obtain ⟨a0, len0, cap0, rfl⟩ := okWide_slice Try.underlying22 (hval 0 22 v0 rfl rfl)
  have k0 := h0
  have lt0 : ∀ x ∈ p0, x.block < W.heap.size := by obtain ⟨m, hm⟩ := k0; exact DataW.trod_lt m _ _ _ hm
  obtain ⟨z0, w0⟩ : ∃ zs, IsRow .u8 W a0 len0 cap0 zs := by
    obtain ⟨fuel, hf⟩ := h0
    rcases open_ints Try.underlying22 Try.underlying5 (by kernel_rfl) hf with ⟨hcs, _⟩ | ⟨x, l, c, zs, hcs, _, hl, hm, hz, _, hcell, hwz⟩
    · simp [Value.cells] at hcs
      obtain ⟨rfl, rfl, rfl⟩ := hcs
      exact ⟨[], .inl ⟨rfl, rfl, rfl, rfl⟩⟩
    · simp [Value.cells] at hcs
      obtain ⟨rfl, rfl, rfl⟩ := hcs
      exact ⟨zs, .inr ⟨_, rfl, hl, hm, by simpa using hz, hcell, hwz⟩⟩
  clear hA0 hval0
  refine (walk a0 len0 cap0 z0 W w0).mono fun e W' ⟨he, bel⟩ => ?_
  subst he
  exact ⟨_, rfl, _, _, _, [], _, [], hW', trodAll_mk1 (shut_bool Try.underlying4 _), (trodAll_cons_mk (Below.trod laidOut (by kernel_rfl) (of_decide_eq_true (by kernel_rfl)) k0 bel lt0) trodAll_mk0), rfl, bel.frame _, fun h => by cases h⟩

theorem over : Rows.fnBooksRow.holds Try.pinned (OpenSpec.ofChange Rows.fnBooksSpec) :=
  OpenClaim.holds_of_wide 6 Try.f6 rfl rfl rfl rfl rfl rfl rfl ⟨rfl, rfl, rfl, rfl, rfl⟩ rfl rfl rfl rfl rfl (by kernel_rfl) Try.func6 (by kernel_rfl)
    (of_decide_eq_true (by kernel_rfl)) (by unfold Func.isWrapper; first | (rw [if_pos (by decide +kernel)]; kernel_rfl) | (rw [if_neg (by decide +kernel)]; exact ⟨rfl, rfl⟩))
    (fun os started H enc _ => lifted os started H enc)

theorem proved : Rows.FnBooksSaid := over
#print axioms proved
end Go.Proofs.Ytehjahegokeofab.fnBooks
