/-
  Chapter 14: container/heap's Remove; the line's indexOf and after.
-/
import Derived.Test.YtijmmenkcemggaaImHp6
import Derived.Test.YtijmmenkcemggaaImVo
namespace Go.Proofs.Ytijmmenkcemggaa
open Go.RowKit
set_option linter.unusedVariables false
set_option maxRecDepth 100000

theorem Hp.same {S T : Nat → Prop} {base : Nat} {w w' : World} {b : Nat} {l : List Mb} (h : Hp S base w b l) (u : Only T w w') (hd : ∀ k, S k → ¬ T k) : Hp S base w' b l := by
  obtain ⟨v, k1, k2, k3⟩ := h.box
  exact ⟨h.inS, v, (u.block b (heap_lt k1) (hd b h.inS)).trans k1, own_only k2 u (fun g hg => hd g (k3 g hg)), k3⟩
theorem takenP_out (l : List Mb) (i n : Nat) (h1 : n + 1 ≤ l.length) (h2 : l.length ≤ n + 1) : removeP l i = (if n = i then l else fixP (swapP l i n) i n).take n := by
  rw [removeP, takenP, show l.length - 1 = n by omega]

set_option maxHeartbeats 1600000 in
theorem heapRemove_any (S : Nat → Prop) (base b : Nat) (l : List Mb) (i : Nat) (w : World) (hp : Hp S base w b l) (hl : l.length ≤ 60) (hi : i < l.length) :
    Calls Try.prog 43 #[.iface 51 (.pointer (some ⟨b, 0, none⟩)), .int .i64 (i : Int)] w fun e w' => (∃ v, e = .returned v) ∧ Hp S base w' b (removeP l i) ∧ Only S w w' := by
  have hlo := hp.inS
  have HP0 : Hid _ := hp
  obtain ⟨v, kb, own, hSg0⟩ := hp.box
  have hSg : Hid _ := hSg0
  clear hSg0
  obtain ⟨g, cap, rfl⟩ := own_form own (by omega)
  obtain ⟨n, hn⟩ : ∃ n, n = l.length - 1 := ⟨_, rfl⟩
  have hn1 : n + 1 ≤ l.length := by omega
  have hn2 : l.length ≤ n + 1 := by omega
  have c0 := at_cell kb 0
  have hm := meth_Len b _ _ _ w c0
  have HPO : Hid (removeP l i = _) := takenP_out l i n hn1 hn2
  have hw1 : IntKind.i64.wrap ((l.length : Int) - 1) = (n : Int) := by rw [IntKind.wrap_i64]; omega
  have e1 : (l.length : Int) - 1 = (n : Int) := by omega
  have hw2 : IntKind.i64.wrap (n : Int) = (n : Int) := by rw [IntKind.wrap_i64]; omega
  clear hn hp
  go_enter Try.func43, Try.ntmps43
  go_wp2_with (go_at_call 40; refine (implLen_any _ _ _ _).mono ?_)
  rintro e w2 ⟨rfl, rfl⟩
  clear hm
  by_cases hni : n = i
  · have hbe : ((n : Int) == (i : Int)) = true := by rw [hni]; simp
    have hbe2 : ((n : Int) == (n : Int)) = true := by simp
    have HV : Hid (removeP l i = l.take n) := by rw [Hid, HPO.out, if_pos hni]
    have hm := meth_Pop b w2
    subst hni
    clear HPO kb own c0 hw1 e1
    go_wp2_with (go_at_call 95; refine (implPop_any S base b l n _ HP0.out (by omega) hn1 hn2).mono ?_)
    rintro e w5 ⟨rfl, hp5, b5⟩
    have HE : Hid _ := And.intro hp5 b5
    clear hp5 b5 hm HP0
    generalize mbAt l n = x at *
    go_wp2_with fail
    go_ret
    exact ⟨⟨_, rfl⟩, by rw [HV.out]; exact HE.out.1, HE.out.2⟩
  · have hbe : ((n : Int) == (i : Int)) = false := by rw [beq_eq_false_iff_ne]; omega
    have HV : Hid (removeP l i = (fixP (swapP l i n) i n).take n) := by rw [Hid, HPO.out, if_neg hni]
    have hm := meth_Swap b _ _ _ w2 c0
    clear HPO HP0
    go_wp2_with (go_at_call 94; refine (implSwap_any base _ l i n w2 own (by omega) (by omega)).mono ?_)
    rintro e w3 ⟨rfl, own3, u3⟩
    obtain ⟨hp3, b3⟩ := Hp.swap hlo kb own hSg.out (by omega) own3 u3
    have hsl := swapP_len l i n
    have hs1 : (swapP l i n).length ≤ 60 := by omega
    have hs2 : n ≤ (swapP l i n).length := by omega
    have hs3 : (swapP l i n).length ≤ n + 1 := by omega
    have hs4 : n + 1 ≤ (swapP l i n).length := by omega
    clear hm c0 kb own own3 u3 hsl hw1 e1
    generalize swapP l i n = L at *
    go_wp2_with (go_at_call 68; refine (heapDown_any S base b L i n w3 hp3 (by omega) (by omega) hs2).mono ?_)
    rintro e w4 ⟨rfl, hp4, b4⟩
    have hdl : (downAll L i n).1.length = L.length := by rw [downAll, downP_len]
    have hd1 : (downAll L i n).1.length ≤ n + 1 := by omega
    have hd2 : n + 1 ≤ (downAll L i n).1.length := by omega
    have b34 := b3.trans b4
    have HFX : Hid (fixP L i n = if i < (downAll L i n).2 then (downAll L i n).1 else upP (i + 1) (downAll L i n).1 i) := rfl
    clear hdl b3 b4 hp3
    by_cases hmv : i < (downAll L i n).2
    · rw [decide_eq_true hmv]
      have HV2 : Hid (removeP l i = ((downAll L i n).1).take n) := by rw [Hid, HV.out, HFX.out, if_pos hmv]
      have hm := meth_Pop b w4
      clear HV HFX hmv
      generalize (downAll L i n).1 = D at *
      go_wp2_with (go_at_call 95; refine (implPop_any S base b D n _ hp4 (by omega) hd2 hd1).mono ?_)
      rintro e w5 ⟨rfl, hp5, b5⟩
      have HE : Hid _ := And.intro hp5 (b34.trans b5)
      clear hp4 hp5 b34 b5 hm
      generalize mbAt D n = x at *
      go_wp2_with fail
      go_ret
      exact ⟨⟨_, rfl⟩, by rw [HV2.out]; exact HE.out.1, HE.out.2⟩
    · rw [decide_eq_false hmv]
      have HV2 : Hid (removeP l i = (upP (i + 1) (downAll L i n).1 i).take n) := by rw [Hid, HV.out, HFX.out, if_neg hmv]
      clear HV HFX hmv
      generalize (downAll L i n).1 = D at *
      have hul := upP_len (i + 1) D i
      have hu1 : (upP (i + 1) D i).length ≤ n + 1 := by omega
      have hu2 : n + 1 ≤ (upP (i + 1) D i).length := by omega
      clear hul
      go_wp2_with (go_at_call 69; refine (heapUp_any S base b D i _ hp4 (by omega)).mono ?_)
      rintro e w5 ⟨rfl, hp5, b5⟩
      have b35 := b34.trans b5
      have hm := meth_Pop b w5
      clear hp4 b34 b5
      generalize upP (i + 1) D i = U at *
      go_wp2_with (go_at_call 95; refine (implPop_any S base b U n _ hp5 (by omega) hu2 hu1).mono ?_)
      rintro e w6 ⟨rfl, hp6, b6⟩
      have HE : Hid _ := And.intro hp6 (b35.trans b6)
      clear hp5 hp6 b35 b6 hm
      generalize mbAt U n = x at *
      go_wp2_with fail
      go_ret
      exact ⟨⟨_, rfl⟩, by rw [HV2.out]; exact HE.out.1, HE.out.2⟩

/-- How long the line in a box is. -/
def boxLen (w : World) (b : Nat) : Nat := match w.cell? ⟨b, 0, none⟩ with
  | some (.slice _ n _) => n
  | _ => 0
theorem Hp.boxLen {S : Nat → Prop} {base : Nat} {w : World} {b : Nat} {l : List Mb} (h : Hp S base w b l) : boxLen w b = l.length := by
  obtain ⟨v, k1, k2, k3⟩ := h.box
  obtain ⟨o, c, rfl⟩ := own_slice k2
  have := at_cell k1 0
  rw [Go.Proofs.Ytijmmenkcemggaa.boxLen, this]
  rfl

set_option maxHeartbeats 1600000 in
theorem implAfter_any (S : Nat → Prop) (base : Nat) (v : Value) (l : List Mb) (h : Int) (w : World) (own : OwnM base w v l) (hS : ∀ g, v.ownBlock = some g → S g) (hSb : S w.heap.size) (hl : l.length ≤ 60) :
    Calls Try.prog 57 #[v, .int .i64 h] w fun e w' => e = .returned (.int .i64 (afterP l.length l h)) ∧ Only S w w' := by
  obtain ⟨o, cap, rfl⟩ := own_slice own
  obtain ⟨W0, hW0, k0, d0, z0⟩ := box1 w #[.slice o l.length cap] 45
  have hp0 : Hp S base W0 w.heap.size l := ⟨hSb, _, k0, owns_below own d0, hS⟩
  have u0 : Only S w W0 := (Only.refl S w).below d0
  have HW0 : Hid (W0 = _) := hW0
  clear hW0 k0 own hS d0 z0
  go_enter Try.func57, Try.ntmps57
  go_upto_region 1 with fail
  rw [← HW0.out]
  clear HW0
  generalize w.heap.size = b at *
  go_loopw [5] (fun _ wr => ∃ L : List Mb, L.length ≤ l.length ∧ afterP l.length l h = afterP L.length L h ∧ Hp S base wr b L ∧ Only S w wr) (fun _ wr => boxLen wr b)
  case atStart => exact ⟨l, Nat.le_refl _, rfl, hp0, u0⟩
  case round =>
    clear hp0 u0
    obtain ⟨L, hLl, hv, hp, hb⟩ := hrel
    have hbl := hp.boxLen
    obtain ⟨o', N, cap', n1, n2, c0⟩ := hp.head
    go_wp2_with (go_at_call 40; refine (implLen_any _ _ _ _).mono ?_)
    rintro e w2 ⟨rfl, rfl⟩
    by_cases h0 : 0 < N
    · have h0' : (0 : Int) < (N : Int) := by omega
      have hpl := popP_len L
      have HF : Hid (afterP L.length L h = if (popP L).2.2 = h then firstP (popP L).1 else afterP (popP L).1.length (popP L).1 h) := by
        obtain ⟨q, hq⟩ : ∃ q, L.length = q + 1 := ⟨L.length - 1, by omega⟩
        rw [Hid, hq, afterP, if_neg (by omega)]
        by_cases hx : (popP L).2.2 = h
        · rw [if_pos hx, if_pos hx]
        · rw [if_neg hx, if_neg hx, hpl, hq, Nat.add_sub_cancel]
      have HPL : Hid ((popP L).1.length < L.length) := by rw [Hid]; omega
      have HBL : Hid _ := hbl
      have HV : Hid _ := hv
      clear c0 hpl hbl hv
      go_wp2_with (go_at_call 67; refine (takeFirst_any S base b L _ hp (by omega) (by omega)).mono ?_)
      rintro e w3 ⟨rfl, hp3, b3⟩
      have hb3 := hb.trans b3
      clear hp hb b3
      obtain ⟨x, hx⟩ : ∃ x, (popP L).2.2 = x := ⟨_, rfl⟩
      obtain ⟨D, hD⟩ : ∃ D, (popP L).1 = D := ⟨_, rfl⟩
      rw [hx, hD] at HF
      rw [hD] at HPL hp3
      rw [hx]
      clear hx hD
      by_cases hxh : x = h
      · have hbe : (x == h) = true := by simpa using hxh
        have hbe2 : (h == h) = true := by simp
        have HR : Hid (afterP l.length l h = firstP D) := by rw [Hid, HV.out, HF.out, if_pos hxh]
        obtain ⟨v3, k3, own3, -⟩ := hp3.box
        have c3 := at_cell k3 0
        have HU : Hid _ := hb3
        obtain ⟨o3, cap3, rfl⟩ := own_slice own3
        clear HF HV hb3 hp3 k3 HPL HBL
        go_wp2_with (go_at_call 53; refine (implFirst_any base _ D _ own3).mono ?_)
        rintro e w4 ⟨rfl, rfl⟩
        generalize firstP D = fd at *
        clear own3
        go_wp2_with fail
        go_ret
        exact ⟨ret_int HR.out.symm, HU.out⟩
      · have hbe : (x == h) = false := by simpa using hxh
        have HR : Hid (afterP l.length l h = afterP D.length D h) := by rw [Hid, HV.out, HF.out, if_neg hxh]
        have HE : Hid _ := And.intro hp3 hb3
        have HBD : Hid (boxLen w3 b < boxLen w2 b) := by rw [Hid, hp3.boxLen, HBL.out]; exact HPL.out
        have HLD : Hid (D.length ≤ l.length) := by have := HPL.out; rw [Hid]; omega
        clear HF HV hb3 hp3 HPL HBL hxh
        go_wp2_with fail
        go_roundw
        case rel => exact ⟨D, HLD.out, HR.out, HE.out.1, HE.out.2⟩
        case measure => exact HBD.out
    · have HR : Hid (afterP l.length l h = -1) := by
        rw [Hid, hv]
        cases hq : L.length with
        | zero => rfl
        | succ q => omega
      have h0' : ¬ (0 : Int) < (N : Int) := by omega
      have HE : Hid _ := hb
      clear hv hp hb c0 hbl
      go_wp2_with fail
      go_ret
      exact ⟨ret_int HR.out.symm, HE.out⟩

end Go.Proofs.Ytijmmenkcemggaa
