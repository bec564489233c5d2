/-
  Chapter 14: the line's view: emptied into a View's members.
-/
import Derived.Test.YtijmmenkcemggaaImHp8
import Derived.Test.YtijmmenkcemggaaPool2
import Derived.Test.YtijmmenkcemggaaSteps
namespace Go.Proofs.Ytijmmenkcemggaa
open Go.RowKit
set_option linter.unusedVariables false
set_option maxRecDepth 100000

/-- How memory lies while the line is emptied: its box, the answer's box, the View's box and its row. -/
structure DrSt (S : Nat → Prop) (base b0 : Nat) (w W : World) (n : Int) (mv : Value) (ms : List Int) (L : List Mb) : Prop where
  hp : Hp S base W b0 L
  own : W.ownsRow b0 2 1 mv ms.length (ms.map (Value.int .i64))
  kR : W.heap[b0 + 1]? = some (.cells #[.int .i64 0, .slice none 0 0] 26 (0, 0))
  kV : W.heap[b0 + 1 + 1 + 1]? = some (.cells #[.int .i64 n, mv] 26 (0, 0))
  u : Only (fun k => S k ∨ b0 ≤ k) w W
theorem DrSt.nb {S : Nat → Prop} {base b0 : Nat} {w W : World} {n : Int} {mv : Value} {ms : List Int} {L : List Mb} (h : DrSt S base b0 w W n mv ms L) : mv.ownBlock ≠ some b0 ∧ mv.ownBlock ≠ some (b0 + 1) ∧ mv.ownBlock ≠ some (b0 + 1 + 1 + 1) := by
  obtain ⟨v, k, -⟩ := h.hp.box
  exact ⟨own_not_box h.own k (by decide), own_not_box h.own h.kR (by decide), own_not_box h.own h.kV (by decide)⟩
theorem DrSt.below {S : Nat → Prop} {base b0 : Nat} {w W W' : World} {n : Int} {mv : Value} {ms : List Int} {L : List Mb} (h : DrSt S base b0 w W n mv ms L) (b : Below W.heap.size W W') : DrSt S base b0 w W' n mv ms L :=
  ⟨h.hp.below b, owns_below h.own b, (b.block _ (heap_lt h.kR)).trans h.kR, (b.block _ (heap_lt h.kV)).trans h.kV, h.u.below b⟩
/-- One is taken off the line. -/
theorem DrSt.take {S : Nat → Prop} {base b0 : Nat} {w W W' : World} {n : Int} {mv : Value} {ms : List Int} {L L' : List Mb} (h : DrSt S base b0 w W n mv ms L) (hS : ∀ k, S k → k ≤ b0) (hp : Hp S base W' b0 L') (u : Only S W W') : DrSt S base b0 w W' n mv ms L' := by
  obtain ⟨n0, n1, n2⟩ := h.nb
  refine ⟨hp, own_only h.own u (fun g hg hs => ?_), (u.block _ (heap_lt h.kR) (fun hs => by have := hS _ hs; omega)).trans h.kR, (u.block _ (heap_lt h.kV) (fun hs => by have := hS _ hs; omega)).trans h.kV, h.u.trans (u.mono (fun k hk => .inl hk))⟩
  have h1 := (h.own.lt g hg).1
  have h2 := hS g hs
  exact n0 (by rw [hg]; congr 1; omega)
/-- And put behind the members. -/
theorem DrSt.more {S : Nat → Prop} {base b0 : Nat} {w W W' : World} {n : Int} {mv mv' : Value} {ms : List Int} {L : List Mb} (h : DrSt S base b0 w W n mv ms L) (hS : ∀ k, S k → k ≤ b0) (g : W.grownBy W' mv.ownBlock) (x : Int) (own : W'.ownsRow b0 2 1 mv' (ms.length + 1) (ms.map (Value.int .i64) ++ [.int .i64 x])) :
    W'.heap[b0 + 1 + 1 + 1]? = some (.cells #[.int .i64 n, mv] 26 (0, 0)) ∧ DrSt S base b0 w (W'.setCell ⟨b0 + 1 + 1 + 1, 1, none⟩ mv') n mv' (ms ++ [x]) L := by
  obtain ⟨n0, n1, n2⟩ := h.nb
  have e : ms.map (Value.int .i64) ++ [.int .i64 x] = (ms ++ [x]).map (Value.int .i64) := by simp
  have e2 : ms.length + 1 = (ms ++ [x]).length := by simp
  rw [e, e2] at own
  have gu : Only (fun k => mv.ownBlock = some k) W W' := only_grown (Only.refl _ W) g (fun k hk => hk)
  have kV := (gu.block _ (heap_lt h.kV) n2).trans h.kV
  have u2 : Only (fun k => k = b0 + 1 + 1 + 1) W' (W'.setCell ⟨b0 + 1 + 1 + 1, 1, none⟩ mv') := (Only.refl (fun k => k = b0 + 1 + 1 + 1) _).setCell ⟨b0 + 1 + 1 + 1, 1, none⟩ rfl _
  have nb' : mv'.ownBlock ≠ some (b0 + 1 + 1 + 1) := own_not_box own kV (by decide)
  have hp1 : Hp S base W' b0 L := h.hp.same gu (fun k hk hs => by
    have h1 := (h.own.lt k hs).1
    have h2 := hS k hk
    exact n0 (by rw [hs]; congr 1; omega))
  refine ⟨kV, hp1.same u2 (fun k hk hs => by have := hS k hk; omega), own_only own u2 (fun q hq hs => nb' (by rw [hq, hs])), (u2.block _ (heap_lt ((gu.block _ (heap_lt h.kR) n1).trans h.kR)) (by omega)).trans ((gu.block _ (heap_lt h.kR) n1).trans h.kR), set_1 kV _, ?_⟩
  exact (h.u.trans (gu.mono (fun k hk => .inr (h.own.lt k hk).1))).trans (u2.mono (fun k hk => .inr (by omega)))
def inLine (v : Value) (b : Nat) (k : Nat) : Prop := v.ownBlock = some k ∨ k = b
theorem drainP_go (L : List Mb) (h : 0 < L.length) : drainP L.length L = (popP L).2.2 :: drainP (popP L).1.length (popP L).1 := by
  have hl := popP_len L
  obtain ⟨q, hq⟩ : ∃ q, L.length = q + 1 := ⟨L.length - 1, by omega⟩
  rw [hq, drainP, if_neg (by omega), hl, hq, Nat.add_sub_cancel]

theorem made_roomV (n : Nat) (hn : n ≤ 1048576) : ∃ M : Array Value, (∀ W : World, (Instr.makeSlice 24 (.int .i64 0) (.int .i64 (n : Int))).run Try.prog W = .ok (.slice (some ⟨W.heap.size, 0, none⟩) 0 n) (W.alloc (.cells M 2))) ∧
    ∀ (W : World) (base : Nat), base ≤ W.heap.size → (W.alloc (.cells M 2)).ownsRow base 2 1 (.slice (some ⟨W.heap.size, 0, none⟩) 0 n) 0 [] := by
  obtain ⟨i0, hi, hz0, hz1, hz2⟩ := info_parts Try.infoI64
  refine ⟨madeCells (Value.int .i64 0).cells (n * 1), fun W => ?_, fun W base hb => ?_⟩
  · have h := run_make (P := Try.prog) W 24 2 i0 (.int .i64 0) Try.underlying24 hi hz0 .i64 .i64 0 (n : Int) (by omega) (by omega) (by rw [hz2]; omega) (by omega)
    rw [hz1, Int.toNat_natCast] at h
    simpa using h
  · exact ⟨rfl, .inr ⟨_, n, _, rfl, hb, heap_alloc_new W _, Nat.zero_le _, by unfold maxLen; omega, by rw [size_madeCells], by simp⟩⟩

set_option maxHeartbeats 3200000 in
theorem implView_any (base : Nat) (v : Value) (l : List Mb) (n : Int) (w : World) (own : OwnM base w v l) (hl : l.length ≤ 60) (hbase : base ≤ w.heap.size) :
    Calls Try.prog 42 #[v, .int .i64 n] w fun e w' => ∃ v', e = .returned (.agg #[.int .i64 n, v']) ∧ w'.ownsRow w.heap.size 2 1 v' (drainP l.length l).length ((drainP l.length l).map (Value.int .i64)) ∧ Below base w w' := by
  obtain ⟨o, cap, rfl⟩ := own_slice own
  obtain ⟨i0, hi, hz0, hz1, hz2⟩ := info_parts Try.infoI64
  obtain ⟨M, hmk, hown⟩ := made_roomV l.length (by omega)
  obtain ⟨W0, hW0, k0, k1, d0, z0⟩ := box2 w #[.slice o l.length cap] #[.int .i64 0, .slice none 0 0] 45 26
  have HW0 : Hid (W0 = _) := hW0
  have hown1 := hown W0 w.heap.size (by omega)
  rw [z0] at hown1
  have dA : Below w.heap.size w (W0.alloc (.cells M 2)) := bw_alloc d0
  have zA : (W0.alloc (.cells M 2)).heap.size = w.heap.size + 1 + 1 + 1 := by simp [z0]
  have k0A := (Below.heap_alloc W0 (.cells M 2) _ (heap_lt k0)).trans k0
  have k1A := (Below.heap_alloc W0 (.cells M 2) _ (heap_lt k1)).trans k1
  have p0 := at_cell k0 0
  have HG : Hid (∀ g, (Value.slice o l.length cap).ownBlock = some g → base ≤ g ∧ g < w.heap.size) := fun g hg => own.lt g hg
  have ownA := owns_below own dA
  clear hW0 hown
  go_enter Try.func42, Try.ntmps42
  go_upto_region 1 with fail
  rw [← HW0.out]
  go_wp2_with (go_at_call 40; refine (implLen_any _ _ _ _).mono ?_)
  rintro e w2 ⟨rfl, rfl⟩
  clear HW0
  go_upto_region 2 with fail
  have kV := heap_alloc_new (w2.alloc (.cells M 2)) (.cells #[.int .i64 n, .slice (some ⟨w.heap.size + 1 + 1, 0, none⟩) 0 l.length] 26)
  rw [zA] at kV
  have d4 : Below w.heap.size w ((w2.alloc (.cells M 2)).alloc (.cells #[.int .i64 n, .slice (some ⟨w.heap.size + 1 + 1, 0, none⟩) 0 l.length] 26)) := bw_alloc dA
  have dq : Below (w2.alloc (.cells M 2)).heap.size (w2.alloc (.cells M 2)) ((w2.alloc (.cells M 2)).alloc (.cells #[.int .i64 n, .slice (some ⟨w.heap.size + 1 + 1, 0, none⟩) 0 l.length] 26)) := bw_alloc (Below.refl _ _)
  have st0 : DrSt (inLine (.slice o l.length cap) w.heap.size) base w.heap.size w ((w2.alloc (.cells M 2)).alloc (.cells #[.int .i64 n, .slice (some ⟨w.heap.size + 1 + 1, 0, none⟩) 0 l.length] 26)) n (.slice (some ⟨w.heap.size + 1 + 1, 0, none⟩) 0 l.length) [] l :=
    ⟨⟨.inr rfl, _, (dq.block _ (by omega)).trans k0A, owns_below ownA dq, fun g hg => .inl hg⟩, owns_below hown1 dq, (dq.block _ (by omega)).trans k1A, kV, (Only.refl _ w).below d4⟩
  have HS : Hid (∀ k, inLine (.slice o l.length cap) w.heap.size k → k ≤ w.heap.size) := fun k hk => by
    rcases hk with hk | hk
    · have := (HG.out k hk).2; omega
    · omega
  have HB : Hid (∀ W, Only (fun k => inLine (.slice o l.length cap) w.heap.size k ∨ w.heap.size ≤ k) w W → Below base w W) := fun W u => u.toBelow hbase (fun k hk => by
    rcases hk with (hk | hk) | hk
    · exact (HG.out k hk).1
    · omega
    · omega)
  clear hmk kV d4 dq k0 k1 k0A k1A d0 z0 dA zA hown1 own ownA p0 HG
  generalize (w2.alloc (.cells M 2)).alloc (.cells #[.int .i64 n, .slice (some ⟨w.heap.size + 1 + 1, 0, none⟩) 0 l.length] 26) = W4 at *
  generalize inLine (.slice o l.length cap) w.heap.size = S at st0 HS HB
  go_loopw [11] (fun _ wr => ∃ (mv : Value) (ms : List Int) (L : List Mb), DrSt S base w.heap.size w wr n mv ms L ∧ drainP l.length l = ms ++ drainP L.length L ∧ ms.length + L.length ≤ l.length) (fun _ wr => boxLen wr w.heap.size)
  case atStart => exact ⟨_, [], l, st0, rfl, by simp⟩
  case round =>
    clear st0
    obtain ⟨mv, ms, L, st, hv, hml⟩ := hrel
    have hbl := st.hp.boxLen
    obtain ⟨o', N, cap', n1, n2, c0⟩ := st.hp.head
    obtain ⟨o3, c3, rfl⟩ := own_slice st.own
    go_wp2_with (go_at_call 40; refine (implLen_any _ _ _ _).mono ?_)
    rintro e w2 ⟨rfl, rfl⟩
    by_cases h0 : 0 < N
    · have h0' : (0 : Int) < (N : Int) := by omega
      have hpl := popP_len L
      have hgo := drainP_go L (by omega)
      have HDV : Hid (drainP l.length l = (ms ++ [(popP L).2.2]) ++ drainP (popP L).1.length (popP L).1) := by rw [Hid, hv, hgo]; simp
      have HPL : Hid ((popP L).1.length < L.length) := by rw [Hid]; omega
      have HBL : Hid _ := hbl
      have hLp : 0 < L.length := by omega
      have hL60 : L.length ≤ 60 := by omega
      have hm60 : ms.length ≤ 60 := by omega
      obtain ⟨R, hR⟩ : ∃ R, R = ms.length + 1 := ⟨_, rfl⟩
      have HRR : Hid (R = ms.length + 1) := hR
      have HST : Hid _ := st
      have S1 := at_cell (st.below ((Below.refl _ _).drew)).kV 1
      clear c0 hpl hbl hv hgo hR st n1 n2 h0
      go_wp2_with fail
      go_region_law (first
        | (go_simp; go_at_call 67; refine (takeFirst_any S base w.heap.size L _ (HST.out.below ((Below.refl _ _).drew)).hp hL60 hLp).mono ?_; rintro e w5 ⟨rfl, hp5, u5⟩; have st5 := (HST.out.below ((Below.refl _ _).drew)).take HS.out hp5 u5; have st6 := st5.below (bw_alloc (o := .cells #[.int .i64 (popP L).2.2] 2) (Below.refl _ _)); have r1 := at_cell st5.kV 1; have r2 := at_cell st6.kV 1; dsimp only)
        | (refine step_append rfl (.tmp 15) (.tmp 17) 24 rfl w.heap.size 2 i0 (.int .i64 0) 1 8 Try.underlying24 hi hz0 hz1 hz2 rfl (by decide) (.slice o3 ms.length c3) ms.length (ms.map (Value.int .i64)) ?e1 st6.own ⟨w5.heap.size, 0, none⟩ 1 1 [.int .i64 (popP L).2.2] ?e2 rfl ?hn ?h1 ?h63 ?hb ?hbase ?_
           case e1 => first | rfl | simp [Act.eval]
           case e2 => first | rfl | simp [Act.eval]
           case hn => exact new_one w5 _ _
           case h1 => intro u hu; simp at hu; subst hu; rfl
           case h63 => unfold maxLen; omega
           case hb => omega
           case hbase => have := heap_lt st6.kR; omega
           intro v6 w6 own6 grow6 nil6
           have own6' := own6
           rw [← HRR.out] at own6
           obtain ⟨o6, c6, rfl⟩ := own_slice own6
           obtain ⟨k6, st7⟩ := st6.more HS.out grow6 (popP L).2.2 own6'
           have q1 := at_cell k6 1
           have f1 := at_open k6 1))
      all_goals
        have HE : Hid _ := st7
        have HBD : Hid (boxLen (w6.setCell ⟨w.heap.size + 1 + 1 + 1, 1, none⟩ (.slice o6 R c6)) w.heap.size < boxLen w2 w.heap.size) := by rw [Hid, st7.hp.boxLen, HBL.out]; exact HPL.out
        have HLD : Hid ((ms ++ [(popP L).2.2]).length + (popP L).1.length ≤ l.length) := by have := HPL.out; rw [Hid, List.length_append]; simp only [List.length_cons, List.length_nil]; omega
        clear S1 st5 st6 st7 r1 r2 q1 f1 k6 own6 own6' grow6 nil6 hp5 u5 HST HBL
        go_wp2_with fail
        go_roundw
        case rel => exact ⟨_, _, _, HE.out, HDV.out, HLD.out⟩
        case measure => exact HBD.out
    · have HR : Hid (drainP l.length l = ms) := by
        rw [Hid, hv]
        cases hq : L.length with
        | zero => simp [drainP]
        | succ q => omega
      have h0' : ¬ (0 : Int) < (N : Int) := by omega
      have kR := st.kR
      have kV := st.kV
      have p0 := at_cell kV 0
      have p1 := at_cell kV 1
      have q0 := at_cell kR 0
      have q1 := at_cell kR 1
      have f0 := at_open kR 0
      have f1 := at_open kR 1
      obtain ⟨s1, u1⟩ := set_two kR (.int .i64 n) (.slice o3 ms.length c3)
      have nb := st.nb.2.1
      have u2 : Only (fun k => k = w.heap.size + 1) w2 ((w2.setCell ⟨w.heap.size + 1, 0, none⟩ (.int .i64 n)).setCell ⟨w.heap.size + 1, 1, none⟩ (.slice o3 ms.length c3)) := only_upto u1 rfl
      have own8 := own_only st.own u2 (fun g hg hs => nb (by rw [hg, hs]))
      have HO : Hid _ := And.intro s1 (And.intro own8 (HB.out _ (st.u.trans (u2.mono (fun k hk => .inr (by omega))))))
      clear kR kV s1 u1 nb u2 own8 st hv hbl c0 HB HS
      go_wp2_with fail
      exact bodyPost_ret (v := .agg #[.int .i64 n, .slice o3 ms.length c3]) (by simp [results, Try.results42, go_sem, at_cell HO.out.1]) rfl ⟨_, rfl, by rw [HR.out]; exact HO.out.2.1, HO.out.2.2⟩

end Go.Proofs.Ytijmmenkcemggaa
