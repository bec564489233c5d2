/-
  The law FnViews answers true at every input that the row speaks of, and its arguments read afterwards as before; the walk goes over the callees' contracts.
-/
import Derived.Test.YtijmmenkcemggaaRows
import Derived.WalkKit
import Derived.Test.YtijmmenkcemggaaDrawVw3
import Derived.Test.YtijmmenkcemggaaVwLike
import Derived.Test.YtijmmenkcemggaaImVw2
import Derived.Test.YtijmmenkcemggaaDrawNum
import Derived.ProofKit
import Derived.OpenShut
import Derived.ShutString
import Derived.ChangeOld
import Derived.Below
namespace Go.Proofs.Ytijmmenkcemggaa.fnViews
open Go.ChangeShapes Go.WideShapes Go.ChangeAt Go.RowKit
open Go.ChangeMaps (open_string shut_string)
set_option linter.unusedVariables false

theorem own : ownKnob Try.prog.godebug = none := by kernel_rfl
theorem laidOut : laidOutB Try.prog = true := by kernel_rfl

def IsRow (k : IntKind) (w : World) (a : Option Addr) (len cap : Nat) (zs : List Int) : Prop :=
  (a = none ∧ len = 0 ∧ cap = 0 ∧ zs = []) ∨
  ∃ x, a = some x ∧ len ≤ cap ∧ cap ≤ maxLen ∧ zs.length = cap ∧ (∀ i, i < zs.length → w.cell? (x.add i) = some (.int k (zs.getD i 0))) ∧ ∀ n ∈ zs, (Lit.int k n).wf = true

set_option maxRecDepth 100000 in
set_option maxHeartbeats 8000000 in
theorem walk (a0 : Option Addr) (len0 cap0 : Nat) (z0 : List Int) (w : World) (w0 : IsRow .u8 w a0 len0 cap0 z0) :
    Calls Try.prog 3 #[.slice a0 len0 cap0] w fun e w' => e = .returned (.bool true) ∧ Below w.heap.size w w' := by
  have hs : Src w w.heap.size a0 len0 := src_of w0
  have hm := hs.1
  by_cases hbig : (4096 : Int) < (len0 : Int)
  · have hd : decide ((4096 : Int) < (len0 : Int)) = true := by simpa using hbig
    go_enter Try.func3, Try.ntmps3
    go_wp2_with (go_at_call 12; refine (big_any _ _ _ _ hm).mono ?_; rintro e w' ⟨rfl, rfl⟩)
    go_ret
    exact ⟨rfl, Below.refl _ _⟩
  have hd : decide ((4096 : Int) < (len0 : Int)) = false := by simpa using hbig
  have y0 : w.heap.size ≤ w.heap.size := Nat.le_refl _
  clear w0
  go_enter Try.func3, Try.ntmps3
  go_wp2_with fail
  refine (big_any _ _ _ _ hm).mono ?_
  rintro e w' ⟨rfl, rfl⟩
  go_wp2_with fail
  refine (drawWithout_any _ _ _ _ hs).mono ?_
  rintro e w1 ⟨np, vp, mp, hp, rfl, ow, sp, hhp, d⟩
  replace hs := hs.below d
  replace y0 := d.size
  have rP := ow.reads
  have yP : w1.heap.size ≤ w1.heap.size := Nat.le_refl _
  obtain ⟨oP, cP, rfl⟩ := ow.forms
  clear ow
  have b : Below w1.heap.size w1 (w1.alloc (.cells #[.int .i64 np, .slice oP mp.length cP] 26)) := bw_alloc (Below.refl _ _)
  have kP := heap_alloc_new w1 (.cells #[.int .i64 np, .slice oP mp.length cP] 26)
  have sP : w1.heap.size < (w1.alloc (.cells #[.int .i64 np, .slice oP mp.length cP] 26)).heap.size := by simp
  replace d := bw_call d b
  replace hs := hs.below (b.mono y0)
  replace y0 := Nat.le_trans y0 b.size
  replace rP := rP.below (b.mono yP)
  replace yP := Nat.le_trans yP b.size
  clear b
  go_wp2_with fail
  generalize w1.alloc (.cells #[.int .i64 np, .slice oP mp.length cP] 26) = WP at *
  generalize w1.heap.size = nP at *
  obtain ⟨⟨⟨nx, mx⟩, is_⟩, hfd⟩ : ∃ fd, withoutV np mp hp = fd := ⟨_, rfl⟩
  have HFD : Hid (withoutV np mp hp = ((nx, mx), is_)) := hfd
  refine (implWithoutV_any np _ mp hp _ (rP.mono yP).r).mono ?_
  rw [hfd]
  clear hfd
  simp only
  rintro e w2 ⟨x2, rfl, ow, b⟩
  replace d := bw_call d b
  replace hs := hs.below (b.mono y0)
  replace y0 := Nat.le_trans y0 b.size
  replace rP := rP.below (b.mono yP)
  replace yP := Nat.le_trans yP b.size
  replace kP := (b.block _ sP).trans kP
  replace sP := Nat.lt_of_lt_of_le sP b.size
  clear b
  have rX := ow.reads
  have yX : w2.heap.size ≤ w2.heap.size := Nat.le_refl _
  obtain ⟨oX, cX, rfl⟩ := ow.forms
  clear ow
  have b : Below w2.heap.size w2 (w2.alloc (.cells #[.int .i64 nx, .slice oX mx.length cX] 26)) := bw_alloc (Below.refl _ _)
  have kX := heap_alloc_new w2 (.cells #[.int .i64 nx, .slice oX mx.length cX] 26)
  have sX : w2.heap.size < (w2.alloc (.cells #[.int .i64 nx, .slice oX mx.length cX] 26)).heap.size := by simp
  replace d := bw_call d b
  replace hs := hs.below (b.mono y0)
  replace y0 := Nat.le_trans y0 b.size
  replace rP := rP.below (b.mono yP)
  replace yP := Nat.le_trans yP b.size
  replace kP := (b.block _ sP).trans kP
  replace sP := Nat.lt_of_lt_of_le sP b.size
  replace rX := rX.below (b.mono yX)
  replace yX := Nat.le_trans yX b.size
  clear b
  go_wp2_with fail
  generalize w2.alloc (.cells #[.int .i64 nx, .slice oX mx.length cX] 26) = WX at *
  generalize w2.heap.size = nX at *
  refine (drawJoined_any _ _ _ _ (hs.mono y0)).mono ?_
  rintro e w3 ⟨nq, vq, mq, hq, rfl, ow, sq, hhq, b⟩
  replace d := bw_call d b
  replace hs := hs.below (b.mono y0)
  replace y0 := Nat.le_trans y0 b.size
  replace rP := rP.below (b.mono yP)
  replace yP := Nat.le_trans yP b.size
  replace kP := (b.block _ sP).trans kP
  replace sP := Nat.lt_of_lt_of_le sP b.size
  replace rX := rX.below (b.mono yX)
  replace yX := Nat.le_trans yX b.size
  replace kX := (b.block _ sX).trans kX
  replace sX := Nat.lt_of_lt_of_le sX b.size
  clear b
  clear hs y0
  have rQ := ow.reads
  have yQ : w3.heap.size ≤ w3.heap.size := Nat.le_refl _
  obtain ⟨oQ, cQ, rfl⟩ := ow.forms
  clear ow
  have b : Below w3.heap.size w3 (w3.alloc (.cells #[.int .i64 nq, .slice oQ mq.length cQ] 26)) := bw_alloc (Below.refl _ _)
  have kQ := heap_alloc_new w3 (.cells #[.int .i64 nq, .slice oQ mq.length cQ] 26)
  have sQ : w3.heap.size < (w3.alloc (.cells #[.int .i64 nq, .slice oQ mq.length cQ] 26)).heap.size := by simp
  replace d := bw_call d b
  replace rP := rP.below (b.mono yP)
  replace yP := Nat.le_trans yP b.size
  replace kP := (b.block _ sP).trans kP
  replace sP := Nat.lt_of_lt_of_le sP b.size
  replace rX := rX.below (b.mono yX)
  replace yX := Nat.le_trans yX b.size
  replace kX := (b.block _ sX).trans kX
  replace sX := Nat.lt_of_lt_of_le sX b.size
  replace rQ := rQ.below (b.mono yQ)
  replace yQ := Nat.le_trans yQ b.size
  clear b
  go_wp2_with fail
  generalize w3.alloc (.cells #[.int .i64 nq, .slice oQ mq.length cQ] 26) = WQ at *
  generalize w3.heap.size = nQ at *
  obtain ⟨⟨⟨ny, my⟩, is2_⟩, hfe⟩ : ∃ fd, joinedV nq mq hq = fd := ⟨_, rfl⟩
  have HFE : Hid (joinedV nq mq hq = ((ny, my), is2_)) := hfe
  refine (implJoinedV_any nq _ mq hq _ (rQ.mono yQ).r).mono ?_
  rw [hfe]
  clear hfe
  simp only
  rintro e w4 ⟨y2, rfl, ow, b⟩
  replace d := bw_call d b
  replace rP := rP.below (b.mono yP)
  replace yP := Nat.le_trans yP b.size
  replace kP := (b.block _ sP).trans kP
  replace sP := Nat.lt_of_lt_of_le sP b.size
  replace rX := rX.below (b.mono yX)
  replace yX := Nat.le_trans yX b.size
  replace kX := (b.block _ sX).trans kX
  replace sX := Nat.lt_of_lt_of_le sX b.size
  replace rQ := rQ.below (b.mono yQ)
  replace yQ := Nat.le_trans yQ b.size
  replace kQ := (b.block _ sQ).trans kQ
  replace sQ := Nat.lt_of_lt_of_le sQ b.size
  clear b
  have rY := ow.reads
  have yY : w4.heap.size ≤ w4.heap.size := Nat.le_refl _
  obtain ⟨oY, cY, rfl⟩ := ow.forms
  clear ow
  have b : Below w4.heap.size w4 (w4.alloc (.cells #[.int .i64 ny, .slice oY my.length cY] 26)) := bw_alloc (Below.refl _ _)
  have kY := heap_alloc_new w4 (.cells #[.int .i64 ny, .slice oY my.length cY] 26)
  have sY : w4.heap.size < (w4.alloc (.cells #[.int .i64 ny, .slice oY my.length cY] 26)).heap.size := by simp
  replace d := bw_call d b
  replace rP := rP.below (b.mono yP)
  replace yP := Nat.le_trans yP b.size
  replace kP := (b.block _ sP).trans kP
  replace sP := Nat.lt_of_lt_of_le sP b.size
  replace rX := rX.below (b.mono yX)
  replace yX := Nat.le_trans yX b.size
  replace kX := (b.block _ sX).trans kX
  replace sX := Nat.lt_of_lt_of_le sX b.size
  replace rQ := rQ.below (b.mono yQ)
  replace yQ := Nat.le_trans yQ b.size
  replace kQ := (b.block _ sQ).trans kQ
  replace sQ := Nat.lt_of_lt_of_le sQ b.size
  replace rY := rY.below (b.mono yY)
  replace yY := Nat.le_trans yY b.size
  clear b
  have pP0 := at_cell kP 0
  have pP1 := at_cell kP 1
  go_wp2_with fail
  generalize w4.alloc (.cells #[.int .i64 ny, .slice oY my.length cY] 26) = WY at *
  generalize w4.heap.size = nY at *
  clear pP0 pP1
  refine (specWithoutV_any np _ mp hp _ (rP.mono yP).r).mono ?_
  rw [HFD.out]
  simp only
  rintro e w5 ⟨s2, rfl, ow, b⟩
  replace d := bw_call d b
  replace rP := rP.below (b.mono yP)
  replace yP := Nat.le_trans yP b.size
  replace kP := (b.block _ sP).trans kP
  replace sP := Nat.lt_of_lt_of_le sP b.size
  replace rX := rX.below (b.mono yX)
  replace yX := Nat.le_trans yX b.size
  replace kX := (b.block _ sX).trans kX
  replace sX := Nat.lt_of_lt_of_le sX b.size
  replace rQ := rQ.below (b.mono yQ)
  replace yQ := Nat.le_trans yQ b.size
  replace kQ := (b.block _ sQ).trans kQ
  replace sQ := Nat.lt_of_lt_of_le sQ b.size
  replace rY := rY.below (b.mono yY)
  replace yY := Nat.le_trans yY b.size
  replace kY := (b.block _ sY).trans kY
  replace sY := Nat.lt_of_lt_of_le sY b.size
  clear b
  have rS := ow.reads
  have yS : w5.heap.size ≤ w5.heap.size := Nat.le_refl _
  obtain ⟨oS, cS, rfl⟩ := ow.forms
  clear ow
  have b : Below w5.heap.size w5 (w5.alloc (.cells #[.int .i64 nx, .slice oS mx.length cS] 26)) := bw_alloc (Below.refl _ _)
  have kS := heap_alloc_new w5 (.cells #[.int .i64 nx, .slice oS mx.length cS] 26)
  have sS : w5.heap.size < (w5.alloc (.cells #[.int .i64 nx, .slice oS mx.length cS] 26)).heap.size := by simp
  replace d := bw_call d b
  replace rP := rP.below (b.mono yP)
  replace yP := Nat.le_trans yP b.size
  replace kP := (b.block _ sP).trans kP
  replace sP := Nat.lt_of_lt_of_le sP b.size
  replace rX := rX.below (b.mono yX)
  replace yX := Nat.le_trans yX b.size
  replace kX := (b.block _ sX).trans kX
  replace sX := Nat.lt_of_lt_of_le sX b.size
  replace rQ := rQ.below (b.mono yQ)
  replace yQ := Nat.le_trans yQ b.size
  replace kQ := (b.block _ sQ).trans kQ
  replace sQ := Nat.lt_of_lt_of_le sQ b.size
  replace rY := rY.below (b.mono yY)
  replace yY := Nat.le_trans yY b.size
  replace kY := (b.block _ sY).trans kY
  replace sY := Nat.lt_of_lt_of_le sY b.size
  replace rS := rS.below (b.mono yS)
  replace yS := Nat.le_trans yS b.size
  clear b
  go_wp2_with fail
  generalize w5.alloc (.cells #[.int .i64 nx, .slice oS mx.length cS] 26) = WS at *
  generalize w5.heap.size = nS at *
  have kXd : WS.drew.heap[nX]? = _ := kX
  have RXd : RVw WS.drew.heap.size WS.drew (.slice oX mx.length cX) mx := (rX.mono yX).below ((Below.refl _ _).drew)
  have kSd : WS.drew.heap[nS]? = _ := kS
  have RSd : RVw WS.drew.heap.size WS.drew (.slice oS mx.length cS) mx := (rS.mono yS).below ((Below.refl _ _).drew)
  have kPd : WS.drew.heap[nP]? = _ := kP
  have RPd : RVw WS.drew.heap.size WS.drew (.slice oP mp.length cP) mp := (rP.mono yP).below ((Below.refl _ _).drew)
  have T0 : WS.drew.cell? ⟨nX, 0, none⟩ = some (.int .i64 nx) ∧ WS.drew.cell? ⟨nX, 1, none⟩ = some (.slice oX mx.length cX) ∧ WS.drew.cell? ⟨nS, 0, none⟩ = some (.int .i64 nx) ∧ WS.drew.cell? ⟨nS, 1, none⟩ = some (.slice oS mx.length cS) ∧ WS.drew.cell? ⟨nP, 0, none⟩ = some (.int .i64 np) ∧ WS.drew.cell? ⟨nP, 1, none⟩ = some (.slice oP mp.length cP) := ⟨at_cell kXd 0, at_cell kXd 1, at_cell kSd 0, at_cell kSd 1, at_cell kPd 0, at_cell kPd 1⟩
  go_region_held3 (fun w' => w'.cell? ⟨nX, 0, none⟩ = some (.int .i64 nx) ∧ w'.cell? ⟨nX, 1, none⟩ = some (.slice oX mx.length cX) ∧ w'.cell? ⟨nS, 0, none⟩ = some (.int .i64 nx) ∧ w'.cell? ⟨nS, 1, none⟩ = some (.slice oS mx.length cS) ∧ w'.cell? ⟨nP, 0, none⟩ = some (.int .i64 np) ∧ w'.cell? ⟨nP, 1, none⟩ = some (.slice oP mp.length cP))
    ((first | exact T0 | exact T1 | exact T2 | exact T3))
    ((first | (go_at_call 18; refine (likeView_any nx nx _ _ mx mx _ RXd RSd).mono ?_; rintro e wi ⟨rfl, bi⟩; have kXi := (bi.block _ (heap_lt kXd)).trans kXd; have kSi := (bi.block _ (heap_lt kSd)).trans kSd; have kPi := (bi.block _ (heap_lt kPd)).trans kPd; have RXi := (RXd.below bi).mono bi.size; have RSi := (RSd.below bi).mono bi.size; have RPi := (RPd.below bi).mono bi.size; have T1 : wi.cell? ⟨nX, 0, none⟩ = some (.int .i64 nx) ∧ wi.cell? ⟨nX, 1, none⟩ = some (.slice oX mx.length cX) ∧ wi.cell? ⟨nS, 0, none⟩ = some (.int .i64 nx) ∧ wi.cell? ⟨nS, 1, none⟩ = some (.slice oS mx.length cS) ∧ wi.cell? ⟨nP, 0, none⟩ = some (.int .i64 np) ∧ wi.cell? ⟨nP, 1, none⟩ = some (.slice oP mp.length cP) := ⟨at_cell kXi 0, at_cell kXi 1, at_cell kSi 0, at_cell kSi 1, at_cell kPi 0, at_cell kPi 1⟩) | (go_at_call 19; refine (implViewOk_any np _ mp _ RPi.r).mono ?_; rintro e wj ⟨rfl, bj⟩; have kXj := (bj.block _ (heap_lt kXi)).trans kXi; have kSj := (bj.block _ (heap_lt kSi)).trans kSi; have kPj := (bj.block _ (heap_lt kPi)).trans kPi; have RXj := (RXi.below bj).mono bj.size; have RSj := (RSi.below bj).mono bj.size; have RPj := (RPi.below bj).mono bj.size; have T2 : wj.cell? ⟨nX, 0, none⟩ = some (.int .i64 nx) ∧ wj.cell? ⟨nX, 1, none⟩ = some (.slice oX mx.length cX) ∧ wj.cell? ⟨nS, 0, none⟩ = some (.int .i64 nx) ∧ wj.cell? ⟨nS, 1, none⟩ = some (.slice oS mx.length cS) ∧ wj.cell? ⟨nP, 0, none⟩ = some (.int .i64 np) ∧ wj.cell? ⟨nP, 1, none⟩ = some (.slice oP mp.length cP) := ⟨at_cell kXj 0, at_cell kXj 1, at_cell kSj 0, at_cell kSj 1, at_cell kPj 0, at_cell kPj 1⟩) | (go_at_call 20; refine (specViewOk_any np _ mp _ RPj.r).mono ?_; rintro e wk ⟨rfl, bk⟩; have kXk := (bk.block _ (heap_lt kXj)).trans kXj; have kSk := (bk.block _ (heap_lt kSj)).trans kSj; have kPk := (bk.block _ (heap_lt kPj)).trans kPj; have RXk := (RXj.below bk).mono bk.size; have RSk := (RSj.below bk).mono bk.size; have RPk := (RPj.below bk).mono bk.size; have T3 : wk.cell? ⟨nX, 0, none⟩ = some (.int .i64 nx) ∧ wk.cell? ⟨nX, 1, none⟩ = some (.slice oX mx.length cX) ∧ wk.cell? ⟨nS, 0, none⟩ = some (.int .i64 nx) ∧ wk.cell? ⟨nS, 1, none⟩ = some (.slice oS mx.length cS) ∧ wk.cell? ⟨nP, 0, none⟩ = some (.int .i64 np) ∧ wk.cell? ⟨nP, 1, none⟩ = some (.slice oP mp.length cP) := ⟨at_cell kXk 0, at_cell kXk 1, at_cell kSk 0, at_cell kSk 1, at_cell kPk 0, at_cell kPk 1⟩)))
  have b : Below WS.heap.size WS wk := bw_call (bw_call (bw_call (bw_drew (Below.refl _ _)) bi) bj) bk
  clear T0 T1 T2 T3 kXd RXd kXi RXi kXj RXj kXk RXk kSd RSd kSi RSi kSj RSj kSk RSk kPd RPd kPi RPi kPj RPj kPk RPk bi bj bk
  replace d := bw_call d b
  replace rP := rP.below (b.mono yP)
  replace yP := Nat.le_trans yP b.size
  replace kP := (b.block _ sP).trans kP
  replace sP := Nat.lt_of_lt_of_le sP b.size
  replace rX := rX.below (b.mono yX)
  replace yX := Nat.le_trans yX b.size
  replace kX := (b.block _ sX).trans kX
  replace sX := Nat.lt_of_lt_of_le sX b.size
  replace rQ := rQ.below (b.mono yQ)
  replace yQ := Nat.le_trans yQ b.size
  replace kQ := (b.block _ sQ).trans kQ
  replace sQ := Nat.lt_of_lt_of_le sQ b.size
  replace rY := rY.below (b.mono yY)
  replace yY := Nat.le_trans yY b.size
  replace kY := (b.block _ sY).trans kY
  replace sY := Nat.lt_of_lt_of_le sY b.size
  replace rS := rS.below (b.mono yS)
  replace yS := Nat.le_trans yS b.size
  replace kS := (b.block _ sS).trans kS
  replace sS := Nat.lt_of_lt_of_le sS b.size
  clear b
  clear rS yS kS sS
  have pQ0 := at_cell kQ 0
  have pQ1 := at_cell kQ 1
  go_wp2_with fail
  clear pQ0 pQ1
  refine (specJoinedV_any nq _ mq hq _ (rQ.mono yQ).r).mono ?_
  rw [HFE.out]
  simp only
  rintro e w6 ⟨j2, rfl, ow, b⟩
  replace d := bw_call d b
  replace rP := rP.below (b.mono yP)
  replace yP := Nat.le_trans yP b.size
  replace kP := (b.block _ sP).trans kP
  replace sP := Nat.lt_of_lt_of_le sP b.size
  replace rX := rX.below (b.mono yX)
  replace yX := Nat.le_trans yX b.size
  replace kX := (b.block _ sX).trans kX
  replace sX := Nat.lt_of_lt_of_le sX b.size
  replace rQ := rQ.below (b.mono yQ)
  replace yQ := Nat.le_trans yQ b.size
  replace kQ := (b.block _ sQ).trans kQ
  replace sQ := Nat.lt_of_lt_of_le sQ b.size
  replace rY := rY.below (b.mono yY)
  replace yY := Nat.le_trans yY b.size
  replace kY := (b.block _ sY).trans kY
  replace sY := Nat.lt_of_lt_of_le sY b.size
  clear b
  have rJ := ow.reads
  have yJ : w6.heap.size ≤ w6.heap.size := Nat.le_refl _
  obtain ⟨oJ, cJ, rfl⟩ := ow.forms
  clear ow
  have b : Below w6.heap.size w6 (w6.alloc (.cells #[.int .i64 ny, .slice oJ my.length cJ] 26)) := bw_alloc (Below.refl _ _)
  have kJ := heap_alloc_new w6 (.cells #[.int .i64 ny, .slice oJ my.length cJ] 26)
  have sJ : w6.heap.size < (w6.alloc (.cells #[.int .i64 ny, .slice oJ my.length cJ] 26)).heap.size := by simp
  replace d := bw_call d b
  replace rP := rP.below (b.mono yP)
  replace yP := Nat.le_trans yP b.size
  replace kP := (b.block _ sP).trans kP
  replace sP := Nat.lt_of_lt_of_le sP b.size
  replace rX := rX.below (b.mono yX)
  replace yX := Nat.le_trans yX b.size
  replace kX := (b.block _ sX).trans kX
  replace sX := Nat.lt_of_lt_of_le sX b.size
  replace rQ := rQ.below (b.mono yQ)
  replace yQ := Nat.le_trans yQ b.size
  replace kQ := (b.block _ sQ).trans kQ
  replace sQ := Nat.lt_of_lt_of_le sQ b.size
  replace rY := rY.below (b.mono yY)
  replace yY := Nat.le_trans yY b.size
  replace kY := (b.block _ sY).trans kY
  replace sY := Nat.lt_of_lt_of_le sY b.size
  replace rJ := rJ.below (b.mono yJ)
  replace yJ := Nat.le_trans yJ b.size
  clear b
  have pY0 := at_cell kY 0
  have pY1 := at_cell kY 1
  have pJ0 := at_cell kJ 0
  have pJ1 := at_cell kJ 1
  go_wp2_with fail
  generalize w6.alloc (.cells #[.int .i64 ny, .slice oJ my.length cJ] 26) = WJ at *
  generalize w6.heap.size = nJ at *
  clear pY0 pY1 pJ0 pJ1
  refine (likeView_any ny ny _ _ my my _ (rY.mono yY) (rJ.mono yJ)).mono ?_
  rintro e w7 ⟨rfl, b⟩
  rw [show (decide (ny = ny) && decide (my = my)) = true by simp]
  replace d := bw_call d b
  replace rP := rP.below (b.mono yP)
  replace yP := Nat.le_trans yP b.size
  replace kP := (b.block _ sP).trans kP
  replace sP := Nat.lt_of_lt_of_le sP b.size
  replace rX := rX.below (b.mono yX)
  replace yX := Nat.le_trans yX b.size
  replace kX := (b.block _ sX).trans kX
  replace sX := Nat.lt_of_lt_of_le sX b.size
  replace rQ := rQ.below (b.mono yQ)
  replace yQ := Nat.le_trans yQ b.size
  replace kQ := (b.block _ sQ).trans kQ
  replace sQ := Nat.lt_of_lt_of_le sQ b.size
  replace rY := rY.below (b.mono yY)
  replace yY := Nat.le_trans yY b.size
  replace kY := (b.block _ sY).trans kY
  replace sY := Nat.lt_of_lt_of_le sY b.size
  replace rJ := rJ.below (b.mono yJ)
  replace yJ := Nat.le_trans yJ b.size
  replace kJ := (b.block _ sJ).trans kJ
  replace sJ := Nat.lt_of_lt_of_le sJ b.size
  clear b
  clear rJ yJ kJ sJ
  go_wp2_with fail
  cases is2_
  · have hne := BelowOf.any w7
    clear rQ yQ kQ sQ rY yY kY sY
    refine wp_region_of (by kernel_rfl) (by kernel_rfl) ?_
    repeat (go_big_quiet_step ((first | rfl)))
    refine wpQuiet_nil ?_
    intro w8 hw12
    obtain ⟨⟨wx, cx⟩, hwx⟩ := hw12
    have b : Below w7.heap.size w7 w8 := by rw [hwx]; exact cx
    clear hwx cx wx hne
    replace d := bw_call d b
    replace rP := rP.below (b.mono yP)
    replace yP := Nat.le_trans yP b.size
    replace kP := (b.block _ sP).trans kP
    replace sP := Nat.lt_of_lt_of_le sP b.size
    replace rX := rX.below (b.mono yX)
    replace yX := Nat.le_trans yX b.size
    replace kX := (b.block _ sX).trans kX
    replace sX := Nat.lt_of_lt_of_le sX b.size
    clear b
    cases is_
    · rcases without_not HFD.out with ⟨hv, e1, e2⟩ | ⟨hv, e1, e2⟩
      · skip
        have E1 : Hid _ := e1
        have E2 : Hid _ := e2
        clear e1 e2
        have pP0 := at_cell kP 0
        have pP1 := at_cell kP 1
        go_wp2_with fail
        clear pP0 pP1
        refine (specViewOk_any np _ mp _ (rP.mono yP).r).mono ?_
        rw [hv]
        rintro e w8 ⟨rfl, b⟩
        replace d := bw_call d b
        replace rP := rP.below (b.mono yP)
        replace yP := Nat.le_trans yP b.size
        replace kP := (b.block _ sP).trans kP
        replace sP := Nat.lt_of_lt_of_le sP b.size
        replace rX := rX.below (b.mono yX)
        replace yX := Nat.le_trans yX b.size
        replace kX := (b.block _ sX).trans kX
        replace sX := Nat.lt_of_lt_of_le sX b.size
        clear b
        have pX0 := at_cell kX 0
        have pX1 := at_cell kX 1
        go_wp2_with fail
        clear pX0 pX1
        refine (likeView_any nx 0 _ (.slice none 0 0) mx [] _ (rX.mono yX) (RVw.nil _ _)).mono ?_
        rintro e w9 ⟨rfl, b⟩
        rw [show (decide (nx = 0) && decide (mx = [])) = true by simp [E1.out, E2.out]]
        replace d := bw_call d b
        replace rP := rP.below (b.mono yP)
        replace yP := Nat.le_trans yP b.size
        replace kP := (b.block _ sP).trans kP
        replace sP := Nat.lt_of_lt_of_le sP b.size
        replace rX := rX.below (b.mono yX)
        replace yX := Nat.le_trans yX b.size
        replace kX := (b.block _ sX).trans kX
        replace sX := Nat.lt_of_lt_of_le sX b.size
        clear b
        clear E1 E2
        go_wp2_with fail
        go_ret
        exact ⟨rfl, d⟩
      · skip
        have E1 : Hid _ := e1
        have E2 : Hid _ := e2
        clear e1 e2
        have pP0 := at_cell kP 0
        have pP1 := at_cell kP 1
        go_wp2_with fail
        clear pP0 pP1
        refine (specViewOk_any np _ mp _ (rP.mono yP).r).mono ?_
        rw [hv]
        rintro e w8 ⟨rfl, b⟩
        replace d := bw_call d b
        replace rP := rP.below (b.mono yP)
        replace yP := Nat.le_trans yP b.size
        replace kP := (b.block _ sP).trans kP
        replace sP := Nat.lt_of_lt_of_le sP b.size
        replace rX := rX.below (b.mono yX)
        replace yX := Nat.le_trans yX b.size
        replace kX := (b.block _ sX).trans kX
        replace sX := Nat.lt_of_lt_of_le sX b.size
        clear b
        have pX0 := at_cell kX 0
        have pX1 := at_cell kX 1
        have pP0 := at_cell kP 0
        have pP1 := at_cell kP 1
        go_wp2_with fail
        clear pX0 pX1 pP0 pP1
        refine (likeView_any nx np _ _ mx mp _ (rX.mono yX) (rP.mono yP)).mono ?_
        rintro e w9 ⟨rfl, b⟩
        rw [show (decide (nx = np) && decide (mx = mp)) = true by simp [E1.out, E2.out]]
        replace d := bw_call d b
        replace rP := rP.below (b.mono yP)
        replace yP := Nat.le_trans yP b.size
        replace kP := (b.block _ sP).trans kP
        replace sP := Nat.lt_of_lt_of_le sP b.size
        replace rX := rX.below (b.mono yX)
        replace yX := Nat.le_trans yX b.size
        replace kX := (b.block _ sX).trans kX
        replace sX := Nat.lt_of_lt_of_le sX b.size
        clear b
        clear E1 E2
        go_wp2_with fail
        go_ret
        exact ⟨rfl, d⟩
    · obtain ⟨e1, e2, e3, e4, e5, e6⟩ := without_facts HFD.out
      have hmx := (reads_capI rP.r).2
      unfold maxLen at hmx
      have hwn : IntKind.i64.wrap (np + 1) = nx := by rw [IntKind.wrap_i64]; omega
      have hwl : IntKind.i64.wrap ((mp.length : Int) - 1) = (mx.length : Int) := by rw [IntKind.wrap_i64]; omega
      clear e1 e5 e6
      have pX0 := at_cell kX 0
      have pX1 := at_cell kX 1
      go_wp2_with fail
      clear pX0 pX1
      refine (implViewOk_any nx _ mx _ (rX.mono yX).r).mono ?_
      rw [e2]
      rintro e w8 ⟨rfl, b⟩
      replace d := bw_call d b
      replace rP := rP.below (b.mono yP)
      replace yP := Nat.le_trans yP b.size
      replace kP := (b.block _ sP).trans kP
      replace sP := Nat.lt_of_lt_of_le sP b.size
      replace rX := rX.below (b.mono yX)
      replace yX := Nat.le_trans yX b.size
      replace kX := (b.block _ sX).trans kX
      replace sX := Nat.lt_of_lt_of_le sX b.size
      clear b
      have pX0 := at_cell kX 0
      have pX1 := at_cell kX 1
      go_wp2_with fail
      clear pX0 pX1
      refine (has_below _ mx hp _ (rX.mono yX).r).mono ?_
      rw [decide_eq_false e3]
      rintro e w9 ⟨rfl, b⟩
      replace d := bw_call d b
      replace rP := rP.below (b.mono yP)
      replace yP := Nat.le_trans yP b.size
      replace kP := (b.block _ sP).trans kP
      replace sP := Nat.lt_of_lt_of_le sP b.size
      replace rX := rX.below (b.mono yX)
      replace yX := Nat.le_trans yX b.size
      replace kX := (b.block _ sX).trans kX
      replace sX := Nat.lt_of_lt_of_le sX b.size
      clear b
      have pP0 := at_cell kP 0
      have pP1 := at_cell kP 1
      go_wp2_with fail
      clear pP0 pP1
      refine (has_below _ mp hp _ (rP.mono yP).r).mono ?_
      rw [decide_eq_true e4]
      rintro e w10 ⟨rfl, b⟩
      replace d := bw_call d b
      replace rP := rP.below (b.mono yP)
      replace yP := Nat.le_trans yP b.size
      replace kP := (b.block _ sP).trans kP
      replace sP := Nat.lt_of_lt_of_le sP b.size
      replace rX := rX.below (b.mono yX)
      replace yX := Nat.le_trans yX b.size
      replace kX := (b.block _ sX).trans kX
      replace sX := Nat.lt_of_lt_of_le sX b.size
      clear b
      clear e2 e3 e4
      have pX0 := at_cell kX 0
      have pX1 := at_cell kX 1
      have pP0 := at_cell kP 0
      have pP1 := at_cell kP 1
      go_wp2_with fail
      go_ret
      exact ⟨rfl, d⟩
  · obtain ⟨e1, e2, e3, e4, e5⟩ := joined_facts HFE.out
    have hmq := (reads_capI rQ.r).2
    unfold maxLen at hmq
    have hly : my.length = mq.length + 1 := by rw [e2]; simp
    have hwn : IntKind.i64.wrap (nq + 1) = ny := by rw [IntKind.wrap_i64]; omega
    have hl4 := (viewOk_parts e3).2.2.2.2
    have hwl : IntKind.i64.wrap ((mq.length : Int) + 1) = (my.length : Int) := by rw [IntKind.wrap_i64]; omega
    clear hl4
    obtain ⟨gY, fY, rfl⟩ := reads_some rY.r (by omega)
    have hcy := (reads_capI rY.r).1
    have j0 : (0 : Int) ≤ (mq.length : Int) := by omega
    have j1 : (mq.length : Int) ≤ (cY : Int) := by omega
    have hne := BelowOf.any w7
    have gY0 := BelowOf.cell (at_cell kY 0) sY
    have gY1 := BelowOf.cell (at_cell kY 1) sY
    have gQ0 := BelowOf.cell (at_cell kQ 0) sQ
    have gQ1 := BelowOf.cell (at_cell kQ 1) sQ
    have HVO : ∀ p : BelowOf w7, Calls Try.prog 19 #[.agg #[.int .i64 ny, .slice (some ⟨gY, fY, none⟩) my.length cY]] p.w' fun e w' => e = .returned (.bool true) ∧ Below p.w'.heap.size p.w' w' := fun p => by have h := implViewOk_any ny _ my p.w' (rY.of yY p).r; rwa [e3] at h
    have HTO : ∀ p : BelowOf w7, Calls Try.prog 22 #[.agg #[.int .i64 ny, .slice (some ⟨gY, fY, none⟩) my.length cY]] p.w' fun e w' => e = .returned (.int .i64 hq) ∧ Below p.w'.heap.size p.w' w' := fun p => by have h := implTailOf_any ny _ my p.w' (rY.of yY p).r; rwa [e4] at h
    have HLI : ∀ p : BelowOf w7, Calls Try.prog 23 #[.slice (some ⟨gY, fY, none⟩) mq.length cY, .slice oQ mq.length cQ] p.w' fun e w' => e = .returned (.bool true) ∧ Below p.w'.heap.size p.w' w' := fun p => by
      have h := likeInts_any (.slice (some ⟨gY, fY, none⟩) mq.length cY) _ mq mq p.w' (by have q := (rY.of yY p).r; rw [e2] at q; exact reads_front q) (rQ.of yQ p).r
      rwa [decide_eq_true rfl] at h
    clear e1 e2 e3 e4 e5 hly
    refine wp_region_of (by kernel_rfl) (by kernel_rfl) ?_
    repeat (go_big_quiet_step ((first | (go_at_call 19; exact calls_of (HVO _)) | (go_at_call 22; exact calls_of (HTO _)) | (go_at_call 23; exact calls_of (HLI _)) | rfl)))
    refine wpQuiet_nil ?_
    intro w8 hw12
    obtain ⟨⟨wx, cx⟩, hwx⟩ := hw12
    have b : Below w7.heap.size w7 w8 := by rw [hwx]; exact cx
    clear hwx cx wx hne gY0 gY1 gQ0 gQ1 HVO HTO HLI hwn hwl hcy j0 j1 hmq
    replace d := bw_call d b
    replace rP := rP.below (b.mono yP)
    replace yP := Nat.le_trans yP b.size
    replace kP := (b.block _ sP).trans kP
    replace sP := Nat.lt_of_lt_of_le sP b.size
    replace rX := rX.below (b.mono yX)
    replace yX := Nat.le_trans yX b.size
    replace kX := (b.block _ sX).trans kX
    replace sX := Nat.lt_of_lt_of_le sX b.size
    replace rQ := rQ.below (b.mono yQ)
    replace yQ := Nat.le_trans yQ b.size
    replace kQ := (b.block _ sQ).trans kQ
    replace sQ := Nat.lt_of_lt_of_le sQ b.size
    replace rY := rY.below (b.mono yY)
    replace yY := Nat.le_trans yY b.size
    replace kY := (b.block _ sY).trans kY
    replace sY := Nat.lt_of_lt_of_le sY b.size
    clear b
    clear rQ yQ kQ sQ rY yY kY sY
    cases is_
    · rcases without_not HFD.out with ⟨hv, e1, e2⟩ | ⟨hv, e1, e2⟩
      · skip
        have E1 : Hid _ := e1
        have E2 : Hid _ := e2
        clear e1 e2
        have pP0 := at_cell kP 0
        have pP1 := at_cell kP 1
        go_wp2_with fail
        clear pP0 pP1
        refine (specViewOk_any np _ mp _ (rP.mono yP).r).mono ?_
        rw [hv]
        rintro e w8 ⟨rfl, b⟩
        replace d := bw_call d b
        replace rP := rP.below (b.mono yP)
        replace yP := Nat.le_trans yP b.size
        replace kP := (b.block _ sP).trans kP
        replace sP := Nat.lt_of_lt_of_le sP b.size
        replace rX := rX.below (b.mono yX)
        replace yX := Nat.le_trans yX b.size
        replace kX := (b.block _ sX).trans kX
        replace sX := Nat.lt_of_lt_of_le sX b.size
        clear b
        have pX0 := at_cell kX 0
        have pX1 := at_cell kX 1
        go_wp2_with fail
        clear pX0 pX1
        refine (likeView_any nx 0 _ (.slice none 0 0) mx [] _ (rX.mono yX) (RVw.nil _ _)).mono ?_
        rintro e w9 ⟨rfl, b⟩
        rw [show (decide (nx = 0) && decide (mx = [])) = true by simp [E1.out, E2.out]]
        replace d := bw_call d b
        replace rP := rP.below (b.mono yP)
        replace yP := Nat.le_trans yP b.size
        replace kP := (b.block _ sP).trans kP
        replace sP := Nat.lt_of_lt_of_le sP b.size
        replace rX := rX.below (b.mono yX)
        replace yX := Nat.le_trans yX b.size
        replace kX := (b.block _ sX).trans kX
        replace sX := Nat.lt_of_lt_of_le sX b.size
        clear b
        clear E1 E2
        go_wp2_with fail
        go_ret
        exact ⟨rfl, d⟩
      · skip
        have E1 : Hid _ := e1
        have E2 : Hid _ := e2
        clear e1 e2
        have pP0 := at_cell kP 0
        have pP1 := at_cell kP 1
        go_wp2_with fail
        clear pP0 pP1
        refine (specViewOk_any np _ mp _ (rP.mono yP).r).mono ?_
        rw [hv]
        rintro e w8 ⟨rfl, b⟩
        replace d := bw_call d b
        replace rP := rP.below (b.mono yP)
        replace yP := Nat.le_trans yP b.size
        replace kP := (b.block _ sP).trans kP
        replace sP := Nat.lt_of_lt_of_le sP b.size
        replace rX := rX.below (b.mono yX)
        replace yX := Nat.le_trans yX b.size
        replace kX := (b.block _ sX).trans kX
        replace sX := Nat.lt_of_lt_of_le sX b.size
        clear b
        have pX0 := at_cell kX 0
        have pX1 := at_cell kX 1
        have pP0 := at_cell kP 0
        have pP1 := at_cell kP 1
        go_wp2_with fail
        clear pX0 pX1 pP0 pP1
        refine (likeView_any nx np _ _ mx mp _ (rX.mono yX) (rP.mono yP)).mono ?_
        rintro e w9 ⟨rfl, b⟩
        rw [show (decide (nx = np) && decide (mx = mp)) = true by simp [E1.out, E2.out]]
        replace d := bw_call d b
        replace rP := rP.below (b.mono yP)
        replace yP := Nat.le_trans yP b.size
        replace kP := (b.block _ sP).trans kP
        replace sP := Nat.lt_of_lt_of_le sP b.size
        replace rX := rX.below (b.mono yX)
        replace yX := Nat.le_trans yX b.size
        replace kX := (b.block _ sX).trans kX
        replace sX := Nat.lt_of_lt_of_le sX b.size
        clear b
        clear E1 E2
        go_wp2_with fail
        go_ret
        exact ⟨rfl, d⟩
    · obtain ⟨e1, e2, e3, e4, e5, e6⟩ := without_facts HFD.out
      have hmx := (reads_capI rP.r).2
      unfold maxLen at hmx
      have hwn : IntKind.i64.wrap (np + 1) = nx := by rw [IntKind.wrap_i64]; omega
      have hwl : IntKind.i64.wrap ((mp.length : Int) - 1) = (mx.length : Int) := by rw [IntKind.wrap_i64]; omega
      clear e1 e5 e6
      have pX0 := at_cell kX 0
      have pX1 := at_cell kX 1
      go_wp2_with fail
      clear pX0 pX1
      refine (implViewOk_any nx _ mx _ (rX.mono yX).r).mono ?_
      rw [e2]
      rintro e w8 ⟨rfl, b⟩
      replace d := bw_call d b
      replace rP := rP.below (b.mono yP)
      replace yP := Nat.le_trans yP b.size
      replace kP := (b.block _ sP).trans kP
      replace sP := Nat.lt_of_lt_of_le sP b.size
      replace rX := rX.below (b.mono yX)
      replace yX := Nat.le_trans yX b.size
      replace kX := (b.block _ sX).trans kX
      replace sX := Nat.lt_of_lt_of_le sX b.size
      clear b
      have pX0 := at_cell kX 0
      have pX1 := at_cell kX 1
      go_wp2_with fail
      clear pX0 pX1
      refine (has_below _ mx hp _ (rX.mono yX).r).mono ?_
      rw [decide_eq_false e3]
      rintro e w9 ⟨rfl, b⟩
      replace d := bw_call d b
      replace rP := rP.below (b.mono yP)
      replace yP := Nat.le_trans yP b.size
      replace kP := (b.block _ sP).trans kP
      replace sP := Nat.lt_of_lt_of_le sP b.size
      replace rX := rX.below (b.mono yX)
      replace yX := Nat.le_trans yX b.size
      replace kX := (b.block _ sX).trans kX
      replace sX := Nat.lt_of_lt_of_le sX b.size
      clear b
      have pP0 := at_cell kP 0
      have pP1 := at_cell kP 1
      go_wp2_with fail
      clear pP0 pP1
      refine (has_below _ mp hp _ (rP.mono yP).r).mono ?_
      rw [decide_eq_true e4]
      rintro e w10 ⟨rfl, b⟩
      replace d := bw_call d b
      replace rP := rP.below (b.mono yP)
      replace yP := Nat.le_trans yP b.size
      replace kP := (b.block _ sP).trans kP
      replace sP := Nat.lt_of_lt_of_le sP b.size
      replace rX := rX.below (b.mono yX)
      replace yX := Nat.le_trans yX b.size
      replace kX := (b.block _ sX).trans kX
      replace sX := Nat.lt_of_lt_of_le sX b.size
      clear b
      clear e2 e3 e4
      have pX0 := at_cell kX 0
      have pX1 := at_cell kX 1
      have pP0 := at_cell kP 0
      have pP1 := at_cell kP 1
      go_wp2_with fail
      go_ret
      exact ⟨rfl, d⟩

set_option maxRecDepth 100000 in
theorem lifted (os : Os) (started : os.Started) (H : Type) (enc : TypeId × Value → H) :
    ReturnsInHanded {} Try.checked os 3 .any (Rows.fnViewsSpec.pre6 enc Try.prog Try.f3 Rows.fnViewsRow.domain false) (Rows.fnViewsSpec.post enc Try.prog Try.f3 false true false false) := by
  refine returnsInHanded_of_change (C := Try.checked) own started (by kernel_rfl) Try.func3
    (ChangeSpec.witness6 (enc := enc) (C := Try.checked) false ⟨#[], #[.slice none 0 0], []⟩ 8 (by kernel_rfl) (by kernel_rfl) (by kernel_rfl) (by kernel_rfl)) ?_
  intro W base args ds gs before hval0 hW hcnd _
  have hval : ∀ (j : Nat) t v, Try.f3.params[j]? = some t → args[j]? = some v → Value.okWide Try.prog W .any base t v := hval0
  have hW' := hW
  obtain ⟨p, q, hA0, hV, rfl, hfz, hnd⟩ := hW
  have hA : DataW.TrodAll enc Try.prog W 0 (fun _ => true) true Try.f3.params.toList args.toList ds p := hA0
  rw [Try.params3] at hA hval
  obtain ⟨v0, vs0, d0, ds0, p0, q0, hargs, rfl, rfl, h0, r0⟩ := trodAll_cons hA
  obtain ⟨rfl, rfl, rfl⟩ := trodAll_nil r0
  obtain rfl : args = #[v0] := by cases args; simp_all
  obtain ⟨rfl, rfl⟩ := trodVars_none hV
  obtain ⟨a0, len0, cap0, rfl⟩ := okWide_slice Try.underlying22 (hval 0 22 v0 rfl rfl)
  have k0 := h0
  have lt0 : ∀ x ∈ p0, x.block < W.heap.size := by obtain ⟨m, hm⟩ := k0; exact DataW.trod_lt m _ _ _ hm
  obtain ⟨z0, w0⟩ : ∃ zs, IsRow .u8 W a0 len0 cap0 zs := by
    obtain ⟨fuel, hf⟩ := h0
    rcases open_ints Try.underlying22 Try.underlying5 (by kernel_rfl) hf with ⟨hcs, _⟩ | ⟨x, l, c, zs, hcs, _, hl, hm, hz, _, hcell, hwz⟩
    · simp [Value.cells] at hcs
      obtain ⟨rfl, rfl, rfl⟩ := hcs
      exact ⟨[], .inl ⟨rfl, rfl, rfl, rfl⟩⟩
    · simp [Value.cells] at hcs
      obtain ⟨rfl, rfl, rfl⟩ := hcs
      exact ⟨zs, .inr ⟨_, rfl, hl, hm, by simpa using hz, hcell, hwz⟩⟩
  clear hA0 hval0
  refine (walk a0 len0 cap0 z0 W w0).mono fun e W' ⟨he, bel⟩ => ?_
  subst he
  exact ⟨_, rfl, _, _, _, [], _, [], hW', trodAll_mk1 (shut_bool Try.underlying4 _), (trodAll_cons_mk (Below.trod laidOut (by kernel_rfl) (of_decide_eq_true (by kernel_rfl)) k0 bel lt0) trodAll_mk0), rfl, bel.frame _, fun h => by cases h⟩

theorem over : Rows.fnViewsRow.holds Try.pinned (OpenSpec.ofChange Rows.fnViewsSpec) :=
  OpenClaim.holds_of_wide 3 Try.f3 rfl rfl rfl rfl rfl rfl rfl ⟨rfl, rfl, rfl, rfl, rfl⟩ rfl rfl rfl rfl rfl (by kernel_rfl) Try.func3 (by kernel_rfl)
    (of_decide_eq_true (by kernel_rfl)) (by unfold Func.isWrapper; first | (rw [if_pos (by decide +kernel)]; kernel_rfl) | (rw [if_neg (by decide +kernel)]; exact ⟨rfl, rfl⟩))
    (fun os started H enc _ => lifted os started H enc)

theorem proved : Rows.FnViewsSaid := over
#print axioms proved
end Go.Proofs.Ytijmmenkcemggaa.fnViews
