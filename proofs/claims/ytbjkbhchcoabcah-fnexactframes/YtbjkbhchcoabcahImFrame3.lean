/-
  The program's Frames: it goes through its iterator; the texts, in memory of their own, and where they end.
-/
import Derived.RangeFuncNested
import Derived.RangeFuncLeaves
import Derived.RangeFuncBox
import Derived.Shelf.Abstract
import Derived.OwnWalkIn
import Derived.TacticsInMore
import Derived.LoopNIn
import Derived.LoopIn
import Derived.Maps.AppendAt
import Derived.Test.YtbjkbhchcoabcahImFrame2
import Derived.Test.YtbjkbhchcoabcahFrame3
namespace Go.Proofs.Ytbjkbhchcoabcah
open Go.RowKit
set_option linter.unusedVariables false

/-- What lies in a cell of the iterator's own lies on. -/
def KeepsCell (b : Nat) (W W' : World) : Prop := ∀ v, W.cell? ⟨b, 0, none⟩ = some v → W'.cell? ⟨b, 0, none⟩ = some v
theorem keepsCell_t {b : Nat} {A B C : World} (h : KeepsCell b A B) (k : KeepsCell b B C) : KeepsCell b A C := fun v hv => k v (h v hv)
theorem keepsCell_b {b : Nat} (W : World) (l : Nat) (o o' : Obj) (h : W.heap[l]? = some o) (ho : o.isCells = false) : KeepsCell b W (W.putObj l o') := by
  intro v hv
  refine cell_kept hv (grownBy_putObj' W l o') ?_
  intro r e
  cases e
  exact ⟨o, h, ho⟩

/-- A frame's text and the place behind it; the text is never all of s. -/
abbrev Step (s : ByteArray) : Type := { x : ByteArray × Int // x.1 ≠ s }
abbrev stepV {s : ByteArray} (x : Step s) : Array Value := #[.string x.1.1, .int .i64 x.1.2]
def textsOf {s : ByteArray} (l : List (Step s)) : List ByteArray := l.map fun x => x.1.1
def lastE {s : ByteArray} (l : List (Step s)) : Int := (l.getLast?.map fun x => x.1.2).getD 0
theorem textsOf_snoc {s : ByteArray} (l : List (Step s)) (x : Step s) : textsOf (l ++ [x]) = textsOf l ++ [x.1.1] := by simp [textsOf]
theorem lastE_snoc {s : ByteArray} (l : List (Step s)) (x : Step s) : lastE (l ++ [x]) = x.1.2 := by simp [lastE]
theorem textsOf_length {s : ByteArray} (l : List (Step s)) : (textsOf l).length = l.length := by simp [textsOf]

theorem frText_ne (s : ByteArray) (q : Nat) (h : ¬ Fr.frEnd s q < 0) : Fr.frText s q ≠ s := by
  intro e
  have hb := Fr.frEnd_bd s q
  obtain ⟨l, post, hl, hL, hT, hE⟩ := Fr.frEnd_has s q (by omega)
  have h1 : (Fr.frText s q).size = l.length := Fr.size_list _ _ hT
  have h2 := congrArg List.length hL
  rw [List.length_append, List.length_append, Fr.fl_length] at h2
  rw [e] at h1
  simp only [Array.length_toList] at h2
  have : s.data.size = s.size := rfl
  omega

theorem cell_lt {W : World} {b : Nat} {v : Value} (h : W.cell? ⟨b, 0, none⟩ = some v) : b < W.heap.size := by
  unfold World.cell? at h
  cases e : W.heap[b]? with
  | none => simp [e] at h
  | some o => exact (Array.getElem?_eq_some_iff.1 e).1

/-- How much of s is still to come, told by the place behind a frame. -/
def aheadI (s : ByteArray) (a : Int) : Nat := if a < 0 then 0 else s.size + 1 - a.toNat
def ahead (s : ByteArray) (v : Value) : Nat := aheadI s (intOf v)
theorem ahead_lt (s : ByteArray) (a b : Int) (h1 : 0 ≤ a) (h2 : a ≤ s.size) (h3 : b < 0 ∨ a < b) : ahead s (.int .i64 b) < ahead s (.int .i64 a) := by
  show aheadI s b < aheadI s a
  unfold aheadI
  rw [if_neg (show ¬ a < 0 by omega)]
  split <;> omega

set_option maxRecDepth 100000 in
set_option maxHeartbeats 2000000 in
theorem framesOf1_in (n : Nat) (hn : 1 ≤ n) (l b : Nat) (s : ByteArray) (hs : s.size ≤ 1099511627776) (J Jx : List (Step s) → World → Prop) (W : World) (hJ : AbidesFrom W.heap.size J)
    (hY : ∀ pre x W1, J pre W1 → pre.length < s.size + 1 → YieldAt Fence.wide (n - 1) Try.prog l (stepV x) W1 fun e W' =>
      (e = .returned (.bool true) ∧ J (pre ++ [x]) W' ∧ KeepsCell b W1 W') ∨ (e = .returned (.bool false) ∧ Jx (pre ++ [x]) W'))
    (hc : W.cell? ⟨b, 0, none⟩ = some (.string s)) (h0 : J [] W) :
    CallsIn Fence.wide n Try.prog 51 #[.func (.yield l) #[] #[], .pointer (some ⟨b, 0, none⟩)] W fun e W' => (∃ v, e = .returned v) ∧
      ((∃ ys, Fr.frAll s = (textsOf ys, (lastE ys).toNat) ∧ 0 ≤ lastE ys ∧ J ys W') ∨ (∃ pre, True ∧ Jx pre W')) := by
  refine callsIn_of_wp Try.func51 rfl trivial ?_ rfl
  simp only [Try.ntmps51, List.size_toArray, List.length_cons, List.length_nil, Nat.reduceAdd, Nat.reduceSub, Array.replicate_succ, Array.replicate_zero, List.push_toArray, List.append_toArray, List.nil_append, List.cons_append]
  gi_wp2_with fail
  refine ⟨trivial, ?_⟩
  refine (callsIn_wide.2 (implFrame_any s 0 _ hs)).mono ?_
  rintro e w1 ⟨rfl, b1⟩
  have hc1 : w1.cell? ⟨b, 0, none⟩ = some (.string s) := (b1.cell (p := ⟨b, 0, none⟩) (cell_lt hc)).trans hc
  have hJ1 : J [] w1 := hJ _ _ _ none h0 ⟨b1.1, b1.2, b1.3, b1.4, fun k hk _ => b1.5 k hk⟩ (by simp)
  clear hc h0 b1
  gi_wp2_with fail
  gi_loopw [3, 4] (fun tx bh wr => ∃ (pre : List (Step s)) (q : Nat), tx = .string (Fr.frText s q) ∧ bh = .int .i64 (Fr.frEnd s q) ∧ Fr.Upon s (textsOf pre) q ∧ lastE pre = q ∧ J pre wr ∧ wr.cell? ⟨b, 0, none⟩ = some (.string s)) (fun _ bh _ => ahead s bh)
  case atStart => exact ⟨[], 0, rfl, rfl, Fr.upon_start s, rfl, hJ1, hc1⟩
  case round =>
    obtain ⟨pre, q, rfl, rfl, hup, hla, hJs, hcs⟩ := hrel
    have HU : Hid (Fr.Upon s (textsOf pre) q) := hup
    have hle := Fr.upon_le s _ q hup
    rw [textsOf_length] at hle
    have hbd := Fr.frEnd_bd s q
    clear hup
    by_cases he : Fr.frEnd s q < 0
    · have HF : Hid (Fr.frAll s = (textsOf pre, q)) := Fr.upon_end s _ q HU.out he
      gi_wp2_with fail
      refine ⟨fun _ h => (by cases h), ?_⟩
      gi_wp2_with fail
      go_end0
      exact ⟨⟨_, rfl⟩, .inl ⟨pre, by rw [hla]; exact HF.out, by rw [hla]; omega, hJs⟩⟩
    · obtain ⟨fn, tmps, assign, body, hy, hR⟩ := hY pre ⟨(Fr.frText s q, Fr.frEnd s q), frText_ne s q he⟩ wr hJs (by omega)
      dsimp only [stepV] at hy
      have HS : Hid (Fr.Upon s (textsOf (pre ++ [⟨(Fr.frText s q, Fr.frEnd s q), frText_ne s q he⟩])) (Fr.frEnd s q).toNat) := by
        rw [textsOf_snoc]
        exact Fr.upon_step s _ q HU.out he
      gi_wp2_with fail
      refine hR.mono ?_
      rintro e W3 (⟨rfl, hJ3, hk3⟩ | ⟨rfl, hJx3⟩)
      · have hc3 := hk3 _ hcs
        gi_wp2_with fail
        refine ⟨trivial, ?_⟩
        refine (callsIn_wide.2 (implFrame_any s (Fr.frEnd s q) _ hs)).mono ?_
        rintro e W4 ⟨rfl, b4⟩
        have hc4 : W4.cell? ⟨b, 0, none⟩ = some (.string s) := (b4.cell (p := ⟨b, 0, none⟩) (cell_lt hc3)).trans hc3
        have hJ4 := hJ _ _ _ none hJ3 ⟨b4.1, b4.2, b4.3, b4.4, fun k hk _ => b4.5 k hk⟩ (by simp)
        have hq : ((Fr.frEnd s q).toNat : Int) = Fr.frEnd s q := by omega
        have hb2 := Fr.frEnd_bd s (Fr.frEnd s q)
        gi_wp2_with fail
        go_roundw
        case rel => exact ⟨_, (Fr.frEnd s q).toNat, by rw [hq], by rw [hq], HS.out, by rw [lastE_snoc, hq], hJ4, hc4⟩
        case measure => exact ahead_lt s _ _ (by omega) (by omega) (by omega)
      · gi_wp2_with fail
        go_end0
        exact ⟨⟨_, rfl⟩, .inr ⟨_, trivial, hJx3⟩⟩

theorem framesOf_in (n : Nat) (s : ByteArray) (w : World) :
    CallsIn Fence.wide n Try.prog 35 #[.string s] w fun e w' => e = .returned (.func (.func 51) #[] #[.pointer (some ⟨w.heap.size, 0, none⟩)]) ∧ w' = w.alloc (.cells #[.string s] 9) := by
  refine callsIn_of_wp Try.func35 rfl trivial ?_ rfl
  simp only [Try.ntmps35, List.size_toArray, List.length_cons, List.length_nil, Nat.reduceAdd, Nat.reduceSub, Array.replicate_succ, Array.replicate_zero, List.push_toArray, List.append_toArray, List.nil_append, List.cons_append]
  gi_wp2_with fail
  go_ret
  exact ⟨rfl, rfl⟩

theorem framesOf_stops (n : Nat) (hn : 1 ≤ n) (b : Nat) (s : ByteArray) (hs : s.size ≤ 1099511627776) (w : World) (hc : w.cell? ⟨b, 0, none⟩ = some (.string s)) :
    SeqStopsK Fence.wide n Try.prog 51 #[.pointer (some ⟨b, 0, none⟩)] (stepV (s := s)) (KeepsCell b) (fun ys => Fr.frAll s = (textsOf ys, (lastE ys).toNat) ∧ 0 ≤ lastE ys) (fun _ => True) (s.size + 1) w := fun l J Jx W hW hJ _ hY h0 => by
  have h := framesOf1_in n hn l b s hs J Jx W hJ hY ((hW.cell (p := ⟨b, 0, none⟩) (cell_lt hc)).trans hc) h0
  refine h.mono ?_
  rintro e W' ⟨hv, ⟨ys, h1, h2, h3⟩ | ⟨pre, _, h3⟩⟩
  · exact ⟨hv, .inl ⟨ys, ⟨h1, h2⟩, h3⟩⟩
  · exact ⟨hv, .inr ⟨pre, trivial, h3⟩⟩

/-- A row that is longer by a text which isn't s doesn't lie in the box that holds s. -/
theorem row_not_box {W : World} {b base k : Nat} {t : TypeId} {v : Value} {xs : List Value} {s tx : ByteArray} (hb : Boxed W b t (.string s)) (hown : W.ownsRow base t 1 v (k + 1) (xs ++ [.string tx])) (hne : tx ≠ s) : some b ≠ v.ownBlock := by
  rcases hown.2 with ⟨_, h0⟩ | ⟨g, cap, cur, rfl, _, hg, hn, _, hcs, htk⟩
  · omega
  · intro e
    obtain rfl : b = g := by simpa [Value.ownBlock] using e
    have h := (show W.heap[b]? = _ from hb).symm.trans hg
    simp at h
    subst h
    have hl := hown.1
    simp at hl hcs
    obtain rfl : k = 0 := by omega
    obtain rfl : xs = [] := List.eq_nil_of_length_eq_zero (by omega)
    simp at htk
    exact hne htk.symm

theorem boxed_new {w : World} {n : Nat} (h : w.heap.size = n) (t : TypeId) (v : Value) : Boxed (w.alloc (.cells #[v] t)) n t v := by rw [← h]; exact Boxed.new w t v

theorem start_world (w : World) (s : ByteArray) : ∃ W0, W0 = (((w.alloc (.cells #[] 9)).alloc (.cells #[.slice (some ⟨w.heap.size, 0, none⟩) 0 0] 22)).alloc (.cells #[.int .i64 0] 2)).alloc (.cells #[.string s] 9) ∧
    Boxed W0 (w.heap.size + 1) 22 (.slice (some ⟨w.heap.size, 0, none⟩) 0 0) ∧ Boxed W0 (w.heap.size + 1 + 1) 2 (.int .i64 0) ∧ Boxed W0 (w.heap.size + 1 + 1 + 1) 9 (.string s) ∧
    W0.ownsRow w.heap.size 9 1 (.slice (some ⟨w.heap.size, 0, none⟩) 0 0) 0 [] ∧ Below w.heap.size w W0 ∧ W0.heap.size = w.heap.size + 1 + 1 + 1 + 1 := by
  have own0 : (w.alloc (.cells #[] 9)).ownsRow w.heap.size 9 1 (.slice (some ⟨w.heap.size, 0, none⟩) 0 0) 0 [] := World.ownsRow_lit w #[] 0 (Nat.le_refl _) (Nat.zero_le _) rfl
  refine ⟨_, rfl, ((boxed_new (by simp) _ _).alloc _).alloc _, (boxed_new (by simp) _ _).alloc _, boxed_new (by simp) _ _, ((own0.alloc _).alloc _).alloc _, ?_, by simp⟩
  exact ((((Below.refl _ w).alloc (Nat.le_refl _) _).alloc (by simp) _).alloc (by simp; omega) _).alloc (by simp; omega) _

set_option maxRecDepth 100000 in
set_option maxHeartbeats 4000000 in
theorem implFrames_in (n : Nat) (hn : 3 ≤ n) (s : ByteArray) (w : World) (hs : s.size ≤ 1099511627776) :
    CallsIn Fence.wide n Try.prog 10 #[.string s] w fun e w' => ∃ v : Value, e = .returned (.tuple #[v, .int .i64 (Fr.frAll s).2]) ∧ w'.ownsRow w.heap.size 9 1 v (Fr.frAll s).1.length ((Fr.frAll s).1.map Value.string) ∧ Below w.heap.size w w' := by
  have h1 : 1 ≤ n := by omega
  obtain ⟨i0, hi, hz0, hz1, hz2⟩ := info_parts Try.infoStr
  obtain ⟨W0, hW0, bT, bE, bS, own0, bd0, sz0⟩ := start_world w s
  have HW0 : Hid (W0 = _) := hW0
  clear hW0
  refine callsIn_of_wp_marks Try.func10 rfl trivial ?_ rfl
  simp only [Try.ntmps10, List.size_toArray, List.length_cons, List.length_nil, Nat.reduceAdd, Nat.reduceSub, Array.replicate_succ, Array.replicate_zero, List.push_toArray, List.append_toArray, List.nil_append, List.cons_append]
  gi_wp2_with fail
  refine ⟨trivial, ?_⟩
  refine (framesOf_in (n - 1) s _).mono ?_
  rintro e w' ⟨rfl, rfl⟩
  simp only [World.size_alloc]
  rw [← HW0.out]
  clear HW0
  gi_wp2_with fail
  refine wpIn_rangeFunc_ownG rfl h1 (gf := 51) (lb := #[.pointer (some ⟨w.heap.size + 1 + 1 + 1, 0, none⟩)]) rfl trivial (enters_of Try.func51 (by kernel_rfl) rfl)
    (framesOf_stops (n - 1) (by omega) (w.heap.size + 1 + 1 + 1) s hs W0 bS.cell) keepsCell_t (fun W l o o' _ h ho _ => keepsCell_b W l o o' h ho) (Below.refl _ _) (fun _ => rfl)
    (fun pre W => (∃ v, Boxed W (w.heap.size + 1) 22 v ∧ W.ownsRow w.heap.size 9 1 v pre.length ((textsOf pre).map Value.string) ∧ some (w.heap.size + 1 + 1 + 1) ≠ v.ownBlock) ∧ Boxed W (w.heap.size + 1 + 1) 2 (.int .i64 (lastE pre)) ∧ Boxed W (w.heap.size + 1 + 1 + 1) 9 (.string s) ∧ Below w.heap.size w W)
    (fun _ _ _ => False)
    (OwnFrom.and (Own.from (holdsRow_own w.heap.size (w.heap.size + 1) 22 9 1 (fun pre => pre.length) (fun pre => (textsOf pre).map Value.string) (fun _ v => some (w.heap.size + 1 + 1 + 1) ≠ v.ownBlock)) _) (OwnFrom.and (Own.from (boxed_own _ _ (fun pre => .int .i64 (lastE pre))) _) (OwnFrom.and (Own.from (boxed_own _ _ (fun _ => .string s)) _) (ownFrom_below (Nat.le_refl _) (by omega)))))
    (fun _ _ _ _ _ hs _ _ => hs)
    ⟨⟨_, bT, own0, by simp [Value.ownBlock]; omega⟩, bE, bS, bd0⟩
    (fun x => { tmps := #[.string s, undef, .slice none 0 0, .int .i64 0, .pointer (some ⟨w.heap.size + 1, 0, none⟩), .pointer (some ⟨w.heap.size + 1 + 1, 0, none⟩), .string x.1.1, .int .i64 x.1.2, .slice (some ⟨w.heap.size, 0, none⟩) 0 0, .string s, .func (.func 51) #[] #[.pointer (some ⟨w.heap.size + 1 + 1 + 1, 0, none⟩)], .string x.1.1, .int .i64 x.1.2, undef, undef, undef, undef, undef, undef, undef], defers := [] }) ?assign ?body ?done ?stop
  case assign =>
    intro l x W K hK
    have hso := @Oper.semAt_some
    gi_wp2_with fail
    exact hK
  case body =>
    rintro l pre x W ⟨⟨v, hv, hrow, hnb⟩, hE, hS, hB⟩ hlt
    have hc := hv.cell
    have hsz := hB.size
    have hso := @Oper.semAt_some
    gi_wp2_with (gi_at_builtin; refine wpListIn_append_own _ rfl _ _ 22 rfl w.heap.size 9 i0 (.string ByteArray.empty) 1 16 Try.underlying22 hi hz0 hz1 hz2 rfl (by decide) _ _ _ rfl (hrow.alloc _) ⟨W.heap.size, 0, none⟩ 1 1 [.string x.1.1] rfl rfl (cell_one_new _ _ _) (by simp [Value.oneCell']) (by unfold maxLen; omega) (by omega) (by simp; omega) ?_; intro v' w1 hown' hgrow _; obtain ⟨g', cap', rfl⟩ := ownsRow_succ hown'; obtain ⟨hv1, hv2, hr2, hk2, hb2⟩ := hv.appended (by decide) hrow hB.size (by omega) hown' hgrow; have hE1 := (hE.alloc _).kept hgrow (hE.not_row (by decide) hrow); have hS1 := (hS.alloc _).kept hgrow hnb; have hc1 := hv1.cell; have hf1 := hv1.frozen; have hcE := hE1.cell; have hfE := hE1.frozen)
    have hE2 := hE1.other (B' := w.heap.size + 1) (by omega) (.slice (some ⟨g', 0, none⟩) (pre.length + 1) cap')
    have hS2 := hS1.other (B' := w.heap.size + 1) (by omega) (.slice (some ⟨g', 0, none⟩) (pre.length + 1) cap')
    have hS3 := hS2.other (B' := w.heap.size + 1 + 1) (by omega) (.int .i64 x.1.2)
    refine ⟨(hk2.trans (KeepsOthers.setCell _ _ _)).from _, ?_, ⟨_, hv2.other (by omega) _, ?_, row_not_box hS1 hown' x.2⟩, ?_, hS3, hB.trans (hb2.setCell (p := ⟨w.heap.size + 1 + 1, 0, none⟩) (by simp only; omega) _)⟩
    · intro u hu
      rw [hS.cell] at hu
      cases hu
      exact hS3.cell
    · rw [textsOf_snoc, List.map_append, List.length_append]
      exact hr2.kept (grownBy_setCell' _ _ _) (.inr (hE2.not_row (by decide) hr2).symm)
    · rw [lastE_snoc]
      exact hE2.set _
  case done =>
    rintro D ys W hD ⟨hall, hpos⟩ ⟨⟨v, hv, hrow, _⟩, hE, hS, hB⟩ hK
    have hc := hv.cell
    have hc2 := hE.cell
    gi_wp2_with fail
    gi_region
    gi_wp2_with fail
    have hK' : W.drew.heap[D]? = some (.deferred (some [])) := hK
    have bdr : Below w.heap.size W W.drew := ⟨rfl, rfl, rfl, Nat.le_refl _, fun _ _ => rfl⟩
    have hrow' : W.drew.ownsRow w.heap.size 9 1 v ys.length ((textsOf ys).map Value.string) := hrow
    have hz : ((lastE ys).toNat : Int) = lastE ys := by omega
    refine ⟨by simp, .inl ⟨_, _, rfl, run_takeDeferred hK', ?_⟩⟩
    refine ⟨_, results_tmp2 rfl _ _ _, v, ?_, ?_, (hB.trans bdr).trans (belowK_b (w := w) (Nat.le_refl _) W.drew D _ _ (by omega) hK' rfl rfl)⟩
    · rw [hall]
      exact ret_two rfl (congrArg (Value.int .i64) hz.symm)
    · rw [hall]
      show World.ownsRow _ _ _ _ _ (textsOf ys).length _
      rw [textsOf_length]
      exact ownsRow_putObj hrow' _ hK' rfl
  case stop =>
    rintro D c pre W _ _ h _
    exact h.elim

theorem implFrames_any (s : ByteArray) (w : World) (hs : s.size ≤ 1099511627776) :
    Calls Try.prog 10 #[.string s] w fun e w' => ∃ v : Value, e = .returned (.tuple #[v, .int .i64 (Fr.frAll s).2]) ∧ w'.ownsRow w.heap.size 9 1 v (Fr.frAll s).1.length ((Fr.frAll s).1.map Value.string) ∧ Below w.heap.size w w' :=
  callsIn_wide.1 (implFrames_in 3 (by decide) s w hs)

end Go.Proofs.Ytbjkbhchcoabcah
