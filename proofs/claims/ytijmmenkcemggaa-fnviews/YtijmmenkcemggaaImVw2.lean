/-
  Chapter 14: the program's Without and Joined, at every argument.
-/
import Derived.Test.YtijmmenkcemggaaImVw
namespace Go.Proofs.Ytijmmenkcemggaa
open Go.RowKit Nums
set_option linter.unusedVariables false
set_option maxRecDepth 100000

/-- How memory lies in Without and Joined: the View's box, the answer's, the line's. -/
structure WoSt (w W : World) (n : Int) (v : Value) (b : Nat) (L : List Mb) : Prop where
  hp : Hp (fun k => w.heap.size + 1 + 1 ≤ k) (w.heap.size + 1 + 1 + 1) W b L
  kP : W.heap[w.heap.size]? = some (.cells #[.int .i64 n, v] 26 (0, 0))
  kR : W.heap[w.heap.size + 1]? = some (.cells #[.int .i64 0, .slice none 0 0] 26 (0, 0))
  d : Below w.heap.size w W
  sz : w.heap.size + 1 + 1 + 1 ≤ W.heap.size
theorem WoSt.below {w W W' : World} {n : Int} {v : Value} {b : Nat} {L : List Mb} (h : WoSt w W n v b L) (k : Below W.heap.size W W') : WoSt w W' n v b L :=
  ⟨h.hp.below k, (k.block _ (heap_lt h.kP)).trans h.kP, (k.block _ (heap_lt h.kR)).trans h.kR, bw_call h.d k, Nat.le_trans h.sz k.size⟩
theorem WoSt.turn {w W W' : World} {n : Int} {v : Value} {b : Nat} {L L' : List Mb} (h : WoSt w W n v b L) (hp : Hp (fun k => w.heap.size + 1 + 1 ≤ k) (w.heap.size + 1 + 1 + 1) W' b L') (u : Only (fun k => w.heap.size + 1 + 1 ≤ k) W W') : WoSt w W' n v b L' :=
  ⟨hp, (u.block _ (heap_lt h.kP) (by omega)).trans h.kP, (u.block _ (heap_lt h.kR) (by omega)).trans h.kR, h.d.trans (u.toBelow (by have := h.sz; omega) (fun k hk => by omega)), Nat.le_trans h.sz u.size⟩
/-- The answer is written into its box. -/
theorem wo_end {w W W' : World} {n N : Int} {v v3 : Value} {b : Nat} {L : List Mb} {D : List Int} (h : WoSt w W n v b L) (own : W'.ownsRow W.heap.size 2 1 v3 D.length (D.map (Value.int .i64))) (k : Below (w.heap.size + 1 + 1 + 1) W W') :
    W'.heap[w.heap.size + 1]? = some (.cells #[.int .i64 0, .slice none 0 0] 26 (0, 0)) ∧ ((W'.setCell ⟨w.heap.size + 1, 0, none⟩ (.int .i64 N)).setCell ⟨w.heap.size + 1, 1, none⟩ v3).heap[w.heap.size + 1]? = some (.cells #[.int .i64 N, v3] 26 (0, 0)) ∧
    OwnVw w.heap.size ((W'.setCell ⟨w.heap.size + 1, 0, none⟩ (.int .i64 N)).setCell ⟨w.heap.size + 1, 1, none⟩ v3) v3 D ∧ Below w.heap.size w ((W'.setCell ⟨w.heap.size + 1, 0, none⟩ (.int .i64 N)).setCell ⟨w.heap.size + 1, 1, none⟩ v3) := by
  have kR := (k.block _ (by omega)).trans h.kR
  obtain ⟨s1, u1⟩ := set_two kR (.int .i64 N) v3
  have hsz := h.sz
  exact ⟨kR, s1, ⟨owns_mono (ownsRow_upto own u1 (by omega)) (by omega)⟩, (h.d.trans (k.mono (by omega))).trans (u1.toBelow (by have := h.d.size; have := k.size; omega) (by omega))⟩
/-- The zero View is the answer. -/
theorem wo_zero {w W : World} {n : Int} {v : Value} {b : Nat} {L : List Mb} (h : WoSt w W n v b L) :
    ((W.setCell ⟨w.heap.size + 1, 0, none⟩ (.int .i64 0)).setCell ⟨w.heap.size + 1, 1, none⟩ (.slice none 0 0)).heap[w.heap.size + 1]? = some (.cells #[.int .i64 0, .slice none 0 0] 26 (0, 0)) ∧
    OwnVw w.heap.size ((W.setCell ⟨w.heap.size + 1, 0, none⟩ (.int .i64 0)).setCell ⟨w.heap.size + 1, 1, none⟩ (.slice none 0 0)) (.slice none 0 0) [] ∧ Below w.heap.size w ((W.setCell ⟨w.heap.size + 1, 0, none⟩ (.int .i64 0)).setCell ⟨w.heap.size + 1, 1, none⟩ (.slice none 0 0)) := by
  obtain ⟨s1, u1⟩ := set_two h.kR (.int .i64 0) (.slice none 0 0)
  exact ⟨s1, ⟨World.ownsRow_nil _ _ _ _⟩, h.d.trans (u1.toBelow (by have := h.d.size; omega) (by omega))⟩
theorem line_len {n : Int} {ms : List Int} (h : viewOk n ms = true) : (lineP 1 n ms).length = ms.length := by rw [lineP_ok h, lineFrom_len]; simp
theorem line_idx {n : Int} {ms : List Int} (h : viewOk n ms = true) (x : Int) : idxP x (lineP 1 n ms) 0 = vAt ms x := by rw [lineP_ok h]; exact idx_line ms x (viewOk_parts h).2.2.2.2
theorem line_drain {n : Int} {ms : List Int} (h : viewOk n ms = true) : drainP (lineP 1 n ms).length (lineP 1 n ms) = ms := by
  have hl := (viewOk_parts h).2.2.2.2
  rw [drainP_fuel _ 5 _ (Nat.le_refl _) (by rw [line_len h]; omega), lineP_ok h, drain_line ms hl]
theorem line_less {n : Int} {ms : List Int} (h : viewOk n ms = true) (i : Nat) (hi : i < ms.length) : drainP (removeP (lineP 1 n ms) i).length (removeP (lineP 1 n ms) i) = lessV ms i := by
  have hl := (viewOk_parts h).2.2.2.2
  rw [drainP_fuel _ 5 _ (Nat.le_refl _) (by rw [removeP_len, line_len h]; omega), lineP_ok h, drain_remove ms i hl hi]
  rfl
theorem line_more {n : Int} {ms : List Int} (h : viewOk n ms = true) (x : Int) : drainP (pushP (lineP 1 n ms) ((ms.length : Int), x)).length (pushP (lineP 1 n ms) ((ms.length : Int), x)) = ms ++ [x] := by
  have hl := (viewOk_parts h).2.2.2.2
  rw [drainP_fuel _ 5 _ (Nat.le_refl _) (by rw [pushP_len, line_len h]; omega), lineP_ok h, drain_push ms x hl]

set_option maxHeartbeats 3200000 in
theorem implWithoutV_any (n : Int) (v : Value) (ms : List Int) (h : Int) (w : World) (r : Reads w.heap.size w v (ms.map (Value.int .i64))) :
    Calls Try.prog 14 #[.agg #[.int .i64 n, v], .int .i64 h] w fun e w' => ∃ v' : Value, e = .returned (.tuple #[.agg #[.int .i64 (withoutV n ms h).1.1, v'], .bool (withoutV n ms h).2]) ∧ OwnVw w.heap.size w' v' (withoutV n ms h).1.2 ∧ Below w.heap.size w w' := by
  obtain ⟨o1, cap1, rfl⟩ : ∃ o c, v = .slice o ms.length c := by obtain ⟨o, c, e, -⟩ := r; exact ⟨o, c, by rw [e, List.length_map]⟩
  obtain ⟨W0, hW0, k0, k1, d0, z0⟩ := box2 w #[.int .i64 n, .slice o1 ms.length cap1] #[.int .i64 0, .slice none 0 0] 26 26
  have r0 := (r.below d0).mono d0.size
  have p0 := at_cell k0 0
  have p1 := at_cell k0 1
  have HW0 : Hid (W0 = _) := hW0
  clear hW0 r
  go_enter Try.func14, Try.ntmps14
  go_upto_region 1 with fail
  rw [← HW0.out]
  clear HW0
  go_upto_region 2 with (go_at_call 39; refine (lineOf_any 1 n _ ms _ (.inl rfl) r0).mono ?_; rintro e w1 ⟨v1, rfl, own1, b1⟩; rw [z0] at own1; obtain ⟨oA, capA, eA⟩ := own_slice own1; subst eA; dsimp only)
  have kB := heap_alloc_new w1 (.cells #[.slice oA (lineP 1 n ms).length capA] 45)
  have dB : Below w1.heap.size w1 (w1.alloc (.cells #[.slice oA (lineP 1 n ms).length capA] 45)) := bw_alloc (Below.refl _ _)
  have st2 : WoSt w (w1.alloc (.cells #[.slice oA (lineP 1 n ms).length capA] 45)) n (.slice o1 ms.length cap1) w1.heap.size (lineP 1 n ms) :=
    ⟨⟨by have := b1.size; show w.heap.size + 1 + 1 ≤ w1.heap.size; omega, _, kB, owns_below own1 dB, fun g hg => by have := (own1.lt g hg).1; show w.heap.size + 1 + 1 ≤ g; omega⟩, (dB.block _ (by have := b1.size; omega)).trans ((b1.block _ (by omega)).trans k0), (dB.block _ (by have := b1.size; omega)).trans ((b1.block _ (by omega)).trans k1), bw_alloc (bw_call d0 b1), by have := b1.size; simp; omega⟩
  clear kB dB own1 b1 k0 k1 d0 z0 r0 p0 p1
  generalize w1.alloc (.cells #[.slice oA (lineP 1 n ms).length capA] 45) = w2 at *
  generalize w1.heap.size = b at *
  have hsz0 : w.heap.size + 1 + 1 + 1 ≤ w2.heap.size := st2.sz
  have HLN : Hid ((lineP 1 n ms).length ≤ 4) := lineP_len
  have hbne : ¬ b = w.heap.size + 1 := by have := st2.hp.inS; omega
  have hbne2 : ¬ w.heap.size + 1 = b := fun e => hbne e.symm
  cases hok : viewOk n ms
  · obtain ⟨oB, NB, cB, n1, n2, c0⟩ := st2.hp.head
    have HV : Hid (withoutV n ms h = ((0, []), false)) := (withoutV_bad hok).1
    have hl0 : (lineP 1 n ms).length = 0 := by rw [lineP_bad hok]; rfl
    have e0 : NB = 0 := by omega
    subst e0
    have HE : Hid _ := wo_zero st2
    have q0 := at_cell st2.kR 0
    have q1 := at_cell st2.kR 1
    have f0 := at_open st2.kR 0
    have f1 := at_open st2.kR 1
    clear hok hl0 n1 n2 st2
    go_wp2_with (go_at_call 40; refine (implLen_any _ _ _ _).mono ?_)
    rintro e wz ⟨rfl, rfl⟩
    go_wp2_with fail
    exact bodyPost_ret (v := .tuple #[.agg #[.int .i64 0, .slice none 0 0], .bool false]) (by simp [results, Try.results14, go_sem, at_cell HE.out.1]) rfl ⟨_, by rw [HV.out], by rw [HV.out]; exact HE.out.2.1, HE.out.2.2⟩
  · have hll := line_len hok
    have hvp := viewOk_parts hok
    have m1 : (lineP 1 n ms).length ≤ ms.length := by omega
    have m2 : ms.length ≤ (lineP 1 n ms).length := by omega
    have m3 : 1 ≤ ms.length := hvp.2.2.2.1
    have hnn : 1 ≤ n ∧ n ≤ 1000 := hvp.2.2.1
    have HDR : Hid _ := line_drain hok
    have HIX : Hid _ := line_idx hok h
    have HLS : Hid _ := line_less hok
    have HLM : Hid _ := line_more hok h
    have HOK : Hid (viewOk n ms = true) := hok
    have HRG : Hid _ := vAt_range ms h
    clear hll hvp hok
    obtain ⟨vB, kB, ownB, -⟩ := st2.hp.box
    generalize lineP 1 n ms = L at *
    have c0 := at_cell kB 0
    obtain ⟨oB, cB, eB⟩ := own_slice ownB
    subst eB
    have hNB : ((L.length : Int) == 0) = false := by rw [beq_eq_false_iff_ne]; omega
    clear kB
    go_wp2_with (go_at_call 40; refine (implLen_any _ _ _ _).mono ?_)
    rintro e wz ⟨rfl, rfl⟩
    go_wp2_with (go_at_call 41; refine (implIndexOf_any _ _ L h _ ownB (by have := HLN.out; omega)).mono ?_)
    rintro e w3 ⟨rfl, b3⟩
    have st3 := st2.below b3
    rw [HIX.out]
    obtain ⟨a, ha⟩ : ∃ a, vAt ms h = a := ⟨_, rfl⟩
    have HA : Hid (vAt ms h = a) := ha
    rw [ha] at HRG
    rw [ha]
    clear st2 b3 ownB c0 hNB ha HIX hsz0
    obtain ⟨vB, kB, ownB, -⟩ := st3.hp.box
    have c0 := at_cell kB 0
    obtain ⟨oB, cB, eB⟩ := own_slice ownB
    subst eB
    clear kB ownB
    have p0 := at_cell st3.kP 0
    by_cases ha : a < 0
    · have HV : Hid (withoutV n ms h = ((n, ms), false)) := withoutV_stay HOK.out (fun q => by have h1 := q.1; rw [HA.out] at h1; omega)
      clear HOK HA HRG HLS HLM

      go_upto_region 6 with fail
      clear ha c0 p0
      have p0 := at_cell st3.kP 0
      have hpv := st3.hp
      obtain ⟨vL, kL, ownL, -⟩ := hpv.box
      have cL := at_cell kL 0
      have HST : Hid _ := st3
      have HLL : Hid (L.length ≤ 60) := by have := HLN.out; rw [Hid]; omega
      have hszL := st3.sz
      obtain ⟨oL, cpL, eL⟩ := own_slice ownL
      subst eL
      clear st3 hpv kL
      go_wp2_with (go_at_call 42; refine (implView_any _ _ L n _ ownL HLL.out hszL).mono ?_)
      rintro e wv ⟨v3, rfl, own3, b3⟩
      rw [HDR.out] at own3
      obtain ⟨o3, c3, rfl⟩ := own_slice own3
      have HE : Hid _ := wo_end (N := n) HST.out own3 b3
      have q0 := at_cell HE.out.1 0
      have q1 := at_cell HE.out.1 1
      have f0 := at_open HE.out.1 0
      have f1 := at_open HE.out.1 1
      clear own3 b3 HST ownL cL p0
      go_wp2_with fail
      exact bodyPost_ret (v := .tuple #[.agg #[.int .i64 n, .slice o3 ms.length c3], .bool false]) (by simp [results, Try.results14, go_sem, at_cell HE.out.2.1]) rfl ⟨_, by rw [HV.out], by rw [HV.out]; exact HE.out.2.2.1, HE.out.2.2.2⟩
    · by_cases h1 : L.length = 1
      · have hb1 : ((L.length : Int) == 1) = true := by rw [h1]; rfl
        have HL1 : Hid (ms.length = 1) := by rw [Hid]; omega
        have HV : Hid (withoutV n ms h = ((n, ms), false)) := withoutV_stay HOK.out (fun q => q.2.1 HL1.out)
        clear HOK HA HRG HLS HLM

        clear h1
        go_upto_region 6 with (go_at_call 40; refine (implLen_any _ _ _ _).mono ?_; rintro e wz ⟨rfl, rfl⟩)
        clear hb1 ha c0 p0
        have p0 := at_cell st3.kP 0
        have hpv := st3.hp
        obtain ⟨vL, kL, ownL, -⟩ := hpv.box
        have cL := at_cell kL 0
        have HST : Hid _ := st3
        have HLL : Hid (L.length ≤ 60) := by have := HLN.out; rw [Hid]; omega
        have hszL := st3.sz
        obtain ⟨oL, cpL, eL⟩ := own_slice ownL
        subst eL
        clear st3 hpv kL
        go_wp2_with (go_at_call 42; refine (implView_any _ _ L n _ ownL HLL.out hszL).mono ?_)
        rintro e wv ⟨v3, rfl, own3, b3⟩
        rw [HDR.out] at own3
        obtain ⟨o3, c3, rfl⟩ := own_slice own3
        have HE : Hid _ := wo_end (N := n) HST.out own3 b3
        have q0 := at_cell HE.out.1 0
        have q1 := at_cell HE.out.1 1
        have f0 := at_open HE.out.1 0
        have f1 := at_open HE.out.1 1
        clear own3 b3 HST ownL cL p0
        go_wp2_with fail
        exact bodyPost_ret (v := .tuple #[.agg #[.int .i64 n, .slice o3 ms.length c3], .bool false]) (by simp [results, Try.results14, go_sem, at_cell HE.out.2.1]) rfl ⟨_, by rw [HV.out], by rw [HV.out]; exact HE.out.2.2.1, HE.out.2.2.2⟩
      · have hb1 : ((L.length : Int) == 1) = false := by rw [beq_eq_false_iff_ne]; omega
        by_cases h2 : n = 1000
        · have hb2 : (n == 1000) = true := by rw [h2]; rfl
          have HN : Hid (n = 1000) := h2
          have HV : Hid (withoutV n ms h = ((n, ms), false)) := withoutV_stay HOK.out (fun q => q.2.2 HN.out)
          clear HOK HA HRG HLS HLM

          clear h2
          go_upto_region 6 with (go_at_call 40; refine (implLen_any _ _ _ _).mono ?_; rintro e wz ⟨rfl, rfl⟩)
          clear hb1 hb2 ha h1 c0 p0
          have p0 := at_cell st3.kP 0
          have hpv := st3.hp
          obtain ⟨vL, kL, ownL, -⟩ := hpv.box
          have cL := at_cell kL 0
          have HST : Hid _ := st3
          have HLL : Hid (L.length ≤ 60) := by have := HLN.out; rw [Hid]; omega
          have hszL := st3.sz
          obtain ⟨oL, cpL, eL⟩ := own_slice ownL
          subst eL
          clear st3 hpv kL
          go_wp2_with (go_at_call 42; refine (implView_any _ _ L n _ ownL HLL.out hszL).mono ?_)
          rintro e wv ⟨v3, rfl, own3, b3⟩
          rw [HDR.out] at own3
          obtain ⟨o3, c3, rfl⟩ := own_slice own3
          have HE : Hid _ := wo_end (N := n) HST.out own3 b3
          have q0 := at_cell HE.out.1 0
          have q1 := at_cell HE.out.1 1
          have f0 := at_open HE.out.1 0
          have f1 := at_open HE.out.1 1
          clear own3 b3 HST ownL cL p0
          go_wp2_with fail
          exact bodyPost_ret (v := .tuple #[.agg #[.int .i64 n, .slice o3 ms.length c3], .bool false]) (by simp [results, Try.results14, go_sem, at_cell HE.out.2.1]) rfl ⟨_, by rw [HV.out], by rw [HV.out]; exact HE.out.2.2.1, HE.out.2.2.2⟩
        · have hb2 : (n == 1000) = false := by rw [beq_eq_false_iff_ne]; exact h2
          obtain ⟨i, hi, hai⟩ : ∃ i : Nat, i < ms.length ∧ a = (i : Int) := by
            rcases HRG.out with ⟨q, -⟩ | ⟨i, hi, q, -⟩
            · omega
            · exact ⟨i, hi, q⟩
          have hg : goes n ms h := ⟨by rw [HA.out]; omega, by omega, h2⟩
          have HV : Hid (withoutV n ms h = ((n + 1, lessV ms i), true)) := by rw [Hid, withoutV_go HOK.out hg, HA.out, hai, Int.toNat_natCast]
          have HD2 : Hid _ := HLS.out i hi
          have hiL : i < L.length := by omega
          have hn1 : IntKind.i64.wrap (n + 1) = n + 1 := by rw [IntKind.wrap_i64]; omega
          have hrl := removeP_len L i
          have hr4 : (removeP L i).length ≤ 4 := by have := HLN.out; omega
          subst hai
          clear hg HOK HA HRG HLS HLM HDR h2 hrl
          go_upto_region 7 with (go_at_call 40; refine (implLen_any _ _ _ _).mono ?_; rintro e wz ⟨rfl, rfl⟩)
          clear hb1 hb2 c0 p0
          go_upto_region 8 with (go_at_call 43; refine (heapRemove_any _ _ _ L i _ st3.hp (by have := HLN.out; omega) hiL).mono ?_; rintro e w4 ⟨⟨vx, rfl⟩, hp4, u4⟩; dsimp only)
          have st4 := st3.turn hp4 u4
          clear st3 hp4 u4 hiL
          generalize removeP L i = LR at *
          have HLN : Hid (LR.length ≤ 4) := hr4
          have p0 := at_cell st4.kP 0
          have hpv := st4.hp
          obtain ⟨vL, kL, ownL, -⟩ := hpv.box
          have cL := at_cell kL 0
          have HST : Hid _ := st4
          have HLL : Hid (LR.length ≤ 60) := by have := HLN.out; rw [Hid]; omega
          have hszL := st4.sz
          obtain ⟨oL, cpL, eL⟩ := own_slice ownL
          subst eL
          clear st4 hpv kL
          go_wp2_with (go_at_call 42; refine (implView_any _ _ LR (n + 1) _ ownL HLL.out hszL).mono ?_)
          rintro e wv ⟨v3, rfl, own3, b3⟩
          rw [HD2.out] at own3
          obtain ⟨o3, c3, rfl⟩ := own_slice own3
          have HE : Hid _ := wo_end (N := (n + 1)) HST.out own3 b3
          have q0 := at_cell HE.out.1 0
          have q1 := at_cell HE.out.1 1
          have f0 := at_open HE.out.1 0
          have f1 := at_open HE.out.1 1
          clear own3 b3 HST ownL cL p0
          go_wp2_with fail
          exact bodyPost_ret (v := .tuple #[.agg #[.int .i64 (n + 1), .slice o3 (lessV ms i).length c3], .bool true]) (by simp [results, Try.results14, go_sem, at_cell HE.out.2.1]) rfl ⟨_, by rw [HV.out], by rw [HV.out]; exact HE.out.2.2.1, HE.out.2.2.2⟩

set_option maxHeartbeats 3200000 in
theorem implJoinedV_any (n : Int) (v : Value) (ms : List Int) (h : Int) (w : World) (r : Reads w.heap.size w v (ms.map (Value.int .i64))) :
    Calls Try.prog 16 #[.agg #[.int .i64 n, v], .int .i64 h] w fun e w' => ∃ v' : Value, e = .returned (.tuple #[.agg #[.int .i64 (joinedV n ms h).1.1, v'], .bool (joinedV n ms h).2]) ∧ OwnVw w.heap.size w' v' (joinedV n ms h).1.2 ∧ Below w.heap.size w w' := by
  obtain ⟨o1, cap1, rfl⟩ : ∃ o c, v = .slice o ms.length c := by obtain ⟨o, c, e, -⟩ := r; exact ⟨o, c, by rw [e, List.length_map]⟩
  obtain ⟨W0, hW0, k0, k1, d0, z0⟩ := box2 w #[.int .i64 n, .slice o1 ms.length cap1] #[.int .i64 0, .slice none 0 0] 26 26
  have r0 := (r.below d0).mono d0.size
  have p0 := at_cell k0 0
  have p1 := at_cell k0 1
  have HW0 : Hid (W0 = _) := hW0
  clear hW0 r
  go_enter Try.func16, Try.ntmps16
  go_upto_region 1 with fail
  rw [← HW0.out]
  clear HW0
  go_upto_region 2 with (go_at_call 39; refine (lineOf_any 1 n _ ms _ (.inl rfl) r0).mono ?_; rintro e w1 ⟨v1, rfl, own1, b1⟩; rw [z0] at own1; obtain ⟨oA, capA, eA⟩ := own_slice own1; subst eA; dsimp only)
  have kB := heap_alloc_new w1 (.cells #[.slice oA (lineP 1 n ms).length capA] 45)
  have dB : Below w1.heap.size w1 (w1.alloc (.cells #[.slice oA (lineP 1 n ms).length capA] 45)) := bw_alloc (Below.refl _ _)
  have st2 : WoSt w (w1.alloc (.cells #[.slice oA (lineP 1 n ms).length capA] 45)) n (.slice o1 ms.length cap1) w1.heap.size (lineP 1 n ms) :=
    ⟨⟨by have := b1.size; show w.heap.size + 1 + 1 ≤ w1.heap.size; omega, _, kB, owns_below own1 dB, fun g hg => by have := (own1.lt g hg).1; show w.heap.size + 1 + 1 ≤ g; omega⟩, (dB.block _ (by have := b1.size; omega)).trans ((b1.block _ (by omega)).trans k0), (dB.block _ (by have := b1.size; omega)).trans ((b1.block _ (by omega)).trans k1), bw_alloc (bw_call d0 b1), by have := b1.size; simp; omega⟩
  clear kB dB own1 b1 k0 k1 d0 z0 r0 p0 p1
  generalize w1.alloc (.cells #[.slice oA (lineP 1 n ms).length capA] 45) = w2 at *
  generalize w1.heap.size = b at *
  have hsz0 : w.heap.size + 1 + 1 + 1 ≤ w2.heap.size := st2.sz
  have HLN : Hid ((lineP 1 n ms).length ≤ 4) := lineP_len
  have hbne : ¬ b = w.heap.size + 1 := by have := st2.hp.inS; omega
  have hbne2 : ¬ w.heap.size + 1 = b := fun e => hbne e.symm
  cases hok : viewOk n ms
  · obtain ⟨oB, NB, cB, n1, n2, c0⟩ := st2.hp.head
    have HV : Hid (joinedV n ms h = ((0, []), false)) := (withoutV_bad hok).2
    have hl0 : (lineP 1 n ms).length = 0 := by rw [lineP_bad hok]; rfl
    have e0 : NB = 0 := by omega
    subst e0
    have HE : Hid _ := wo_zero st2
    have q0 := at_cell st2.kR 0
    have q1 := at_cell st2.kR 1
    have f0 := at_open st2.kR 0
    have f1 := at_open st2.kR 1
    clear hok hl0 n1 n2 st2
    go_wp2_with (go_at_call 40; refine (implLen_any _ _ _ _).mono ?_)
    rintro e wz ⟨rfl, rfl⟩
    go_wp2_with fail
    exact bodyPost_ret (v := .tuple #[.agg #[.int .i64 0, .slice none 0 0], .bool false]) (by simp [results, Try.results16, go_sem, at_cell HE.out.1]) rfl ⟨_, by rw [HV.out], by rw [HV.out]; exact HE.out.2.1, HE.out.2.2⟩
  · have hll := line_len hok
    have hvp := viewOk_parts hok
    have m1 : (lineP 1 n ms).length ≤ ms.length := by omega
    have m2 : ms.length ≤ (lineP 1 n ms).length := by omega
    have m3 : 1 ≤ ms.length := hvp.2.2.2.1
    have hnn : 1 ≤ n ∧ n ≤ 1000 := hvp.2.2.1
    have HDR : Hid _ := line_drain hok
    have HIX : Hid _ := line_idx hok h
    have HLS : Hid _ := line_less hok
    have HLM : Hid _ := line_more hok h
    have HOK : Hid (viewOk n ms = true) := hok
    have HRG : Hid _ := vAt_range ms h
    clear hll hvp hok
    obtain ⟨vB, kB, ownB, -⟩ := st2.hp.box
    generalize lineP 1 n ms = L at *
    have c0 := at_cell kB 0
    obtain ⟨oB, cB, eB⟩ := own_slice ownB
    subst eB
    have hNB : ((L.length : Int) == 0) = false := by rw [beq_eq_false_iff_ne]; omega
    clear kB
    go_wp2_with (go_at_call 40; refine (implLen_any _ _ _ _).mono ?_)
    rintro e wz ⟨rfl, rfl⟩
    go_wp2_with (go_at_call 41; refine (implIndexOf_any _ _ L h _ ownB (by have := HLN.out; omega)).mono ?_)
    rintro e w3 ⟨rfl, b3⟩
    have st3 := st2.below b3
    rw [HIX.out]
    obtain ⟨a, ha⟩ : ∃ a, vAt ms h = a := ⟨_, rfl⟩
    have HA : Hid (vAt ms h = a) := ha
    rw [ha] at HRG
    rw [ha]
    clear st2 b3 ownB c0 hNB ha HIX hsz0
    obtain ⟨vB, kB, ownB, -⟩ := st3.hp.box
    have c0 := at_cell kB 0
    obtain ⟨oB, cB, eB⟩ := own_slice ownB
    subst eB
    clear kB ownB
    have p0 := at_cell st3.kP 0
    have HJ := vAt_neg (ms := ms) (h := h)
    rw [HA.out] at HJ
    clear HJ
    by_cases ha : 0 ≤ a
    · have hap : a ≥ 0 := ha
      have HV : Hid (joinedV n ms h = ((n, ms), false)) := joinedV_stay HOK.out (fun q => by have h1 := q.2.1; rw [HA.out] at h1; omega)
      clear HOK HA HRG HLS HLM

      go_upto_region 5 with fail
      clear ha hap c0 p0
      have p0 := at_cell st3.kP 0
      have hpv := st3.hp
      obtain ⟨vL, kL, ownL, -⟩ := hpv.box
      have cL := at_cell kL 0
      have HST : Hid _ := st3
      have HLL : Hid (L.length ≤ 60) := by have := HLN.out; rw [Hid]; omega
      have hszL := st3.sz
      obtain ⟨oL, cpL, eL⟩ := own_slice ownL
      subst eL
      clear st3 hpv kL
      go_wp2_with (go_at_call 42; refine (implView_any _ _ L n _ ownL HLL.out hszL).mono ?_)
      rintro e wv ⟨v3, rfl, own3, b3⟩
      rw [HDR.out] at own3
      obtain ⟨o3, c3, rfl⟩ := own_slice own3
      have HE : Hid _ := wo_end (N := n) HST.out own3 b3
      have q0 := at_cell HE.out.1 0
      have q1 := at_cell HE.out.1 1
      have f0 := at_open HE.out.1 0
      have f1 := at_open HE.out.1 1
      clear own3 b3 HST ownL cL p0
      go_wp2_with fail
      exact bodyPost_ret (v := .tuple #[.agg #[.int .i64 n, .slice o3 ms.length c3], .bool false]) (by simp [results, Try.results16, go_sem, at_cell HE.out.2.1]) rfl ⟨_, by rw [HV.out], by rw [HV.out]; exact HE.out.2.2.1, HE.out.2.2.2⟩
    · have han : ¬ a ≥ 0 := ha
      cases h1 : inB h 0 3
      · have HH : Hid (¬ (0 ≤ h ∧ h ≤ 3)) := by rw [Hid]; intro q; have := (inB_iff h 0 3).2 q; rw [h1] at this; exact absurd this (by decide)
        have HV : Hid (joinedV n ms h = ((n, ms), false)) := joinedV_stay HOK.out (fun q => HH.out q.1)
        clear HOK HA HRG HLS HLM

        go_upto_region 5 with (go_at_call 44; refine (houseIdOk_any h _).mono ?_; rintro e wz ⟨rfl, rfl⟩; rw [h1])
        clear ha han h1 c0 p0
        have p0 := at_cell st3.kP 0
        have hpv := st3.hp
        obtain ⟨vL, kL, ownL, -⟩ := hpv.box
        have cL := at_cell kL 0
        have HST : Hid _ := st3
        have HLL : Hid (L.length ≤ 60) := by have := HLN.out; rw [Hid]; omega
        have hszL := st3.sz
        obtain ⟨oL, cpL, eL⟩ := own_slice ownL
        subst eL
        clear st3 hpv kL
        go_wp2_with (go_at_call 42; refine (implView_any _ _ L n _ ownL HLL.out hszL).mono ?_)
        rintro e wv ⟨v3, rfl, own3, b3⟩
        rw [HDR.out] at own3
        obtain ⟨o3, c3, rfl⟩ := own_slice own3
        have HE : Hid _ := wo_end (N := n) HST.out own3 b3
        have q0 := at_cell HE.out.1 0
        have q1 := at_cell HE.out.1 1
        have f0 := at_open HE.out.1 0
        have f1 := at_open HE.out.1 1
        clear own3 b3 HST ownL cL p0
        go_wp2_with fail
        exact bodyPost_ret (v := .tuple #[.agg #[.int .i64 n, .slice o3 ms.length c3], .bool false]) (by simp [results, Try.results16, go_sem, at_cell HE.out.2.1]) rfl ⟨_, by rw [HV.out], by rw [HV.out]; exact HE.out.2.2.1, HE.out.2.2.2⟩
      · have HH : Hid (0 ≤ h ∧ h ≤ 3) := (inB_iff h 0 3).1 h1
        by_cases h2 : n = 1000
        · have hb2 : (n == 1000) = true := by rw [h2]; rfl
          have HN : Hid (n = 1000) := h2
          have HV : Hid (joinedV n ms h = ((n, ms), false)) := joinedV_stay HOK.out (fun q => q.2.2 HN.out)
          clear HOK HA HRG HLS HLM

          clear h2
          go_upto_region 5 with (go_at_call 44; refine (houseIdOk_any h _).mono ?_; rintro e wz ⟨rfl, rfl⟩; rw [h1])
          clear hb2 ha han h1 c0 p0
          have p0 := at_cell st3.kP 0
          have hpv := st3.hp
          obtain ⟨vL, kL, ownL, -⟩ := hpv.box
          have cL := at_cell kL 0
          have HST : Hid _ := st3
          have HLL : Hid (L.length ≤ 60) := by have := HLN.out; rw [Hid]; omega
          have hszL := st3.sz
          obtain ⟨oL, cpL, eL⟩ := own_slice ownL
          subst eL
          clear st3 hpv kL
          go_wp2_with (go_at_call 42; refine (implView_any _ _ L n _ ownL HLL.out hszL).mono ?_)
          rintro e wv ⟨v3, rfl, own3, b3⟩
          rw [HDR.out] at own3
          obtain ⟨o3, c3, rfl⟩ := own_slice own3
          have HE : Hid _ := wo_end (N := n) HST.out own3 b3
          have q0 := at_cell HE.out.1 0
          have q1 := at_cell HE.out.1 1
          have f0 := at_open HE.out.1 0
          have f1 := at_open HE.out.1 1
          clear own3 b3 HST ownL cL p0
          go_wp2_with fail
          exact bodyPost_ret (v := .tuple #[.agg #[.int .i64 n, .slice o3 ms.length c3], .bool false]) (by simp [results, Try.results16, go_sem, at_cell HE.out.2.1]) rfl ⟨_, by rw [HV.out], by rw [HV.out]; exact HE.out.2.2.1, HE.out.2.2.2⟩
        · have hb2 : (n == 1000) = false := by rw [beq_eq_false_iff_ne]; exact h2
          have hc : comes n ms h := ⟨HH.out, by rw [HA.out]; omega, h2⟩
          have HV : Hid (joinedV n ms h = ((n + 1, ms ++ [h]), true)) := joinedV_come HOK.out hc
          have HD2 : Hid _ := HLM.out
          have hn1 : IntKind.i64.wrap (n + 1) = n + 1 := by rw [IntKind.wrap_i64]; omega
          have hLm : (L.length : Int) = (ms.length : Int) := by omega
          have HLM2 : Hid ((L.length : Int) = (ms.length : Int)) := hLm
          clear hc HOK HA HRG HLS HLM HDR h2 hLm
          go_upto_region 6 with (go_at_call 44; refine (houseIdOk_any h _).mono ?_; rintro e wz ⟨rfl, rfl⟩; rw [h1])
          clear hb2 p0
          go_upto_region 7 with (first | (go_at_call 40; refine (implLen_any _ _ _ _).mono ?_; rintro e wy ⟨rfl, rfl⟩; dsimp only) | (go_at_call 45; refine (heapPush_any _ _ _ L (L.length : Int) h _ st3.hp (by have := HLN.out; omega) (fun k hk => by show w.heap.size + 1 + 1 ≤ k; omega) st3.sz).mono ?_; rintro e w4 ⟨rfl, hp4, u4⟩; dsimp only))
          have st4 := st3.turn hp4 u4
          have hrl := pushP_len L ((L.length : Int), h)
          have hr5 : (pushP L ((L.length : Int), h)).length ≤ 5 := by have := HLN.out; omega
          rw [← HLM2.out] at HD2
          generalize ms ++ [h] = MH at HD2 HV
          clear st3 hp4 u4 hrl c0
          generalize pushP L ((L.length : Int), h) = LR at *
          have HLN : Hid (LR.length ≤ 5) := hr5
          have p0 := at_cell st4.kP 0
          have hpv := st4.hp
          obtain ⟨vL, kL, ownL, -⟩ := hpv.box
          have cL := at_cell kL 0
          have HST : Hid _ := st4
          have HLL : Hid (LR.length ≤ 60) := by have := HLN.out; rw [Hid]; omega
          have hszL := st4.sz
          obtain ⟨oL, cpL, eL⟩ := own_slice ownL
          subst eL
          clear st4 hpv kL
          go_wp2_with (go_at_call 42; refine (implView_any _ _ LR (n + 1) _ ownL HLL.out hszL).mono ?_)
          rintro e wv ⟨v3, rfl, own3, b3⟩
          rw [HD2.out] at own3
          obtain ⟨o3, c3, rfl⟩ := own_slice own3
          have HE : Hid _ := wo_end (N := (n + 1)) HST.out own3 b3
          have q0 := at_cell HE.out.1 0
          have q1 := at_cell HE.out.1 1
          have f0 := at_open HE.out.1 0
          have f1 := at_open HE.out.1 1
          clear own3 b3 HST ownL cL p0
          go_wp2_with fail
          exact bodyPost_ret (v := .tuple #[.agg #[.int .i64 (n + 1), .slice o3 MH.length c3], .bool true]) (by simp [results, Try.results16, go_sem, at_cell HE.out.2.1]) rfl ⟨_, by rw [HV.out], by rw [HV.out]; exact HE.out.2.2.1, HE.out.2.2.2⟩

end Go.Proofs.Ytijmmenkcemggaa
