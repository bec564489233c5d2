import Derived.Deep.DeepCutAuto
import Derived.Test.YtcefcglonooelaaGreatDoorA01
import Derived.Test.YtcefcglonooelaaGreatDoorA05
import Derived.Test.YtcefcglonooelaaGreatDoorA08
import Derived.Test.YtcefcglonooelaaGreatDoorA11
namespace Go.Proofs.YtcefcglonooelaaGreatDoor
open Go.RowKit
set_option linter.unusedVariables false
theorem upto_undrew {c : Nat} {w w' : World} (u : Upto c w.drew w') : Upto c w w' := ⟨u.os,u.tape,u.output,u.size,u.block⟩
structure MapSt (c : Nat) (x : Option Addr) (len cap : Nat) (w W : World) (g cp : Nat) (rs : List (Int × Int × Int)) : Prop where
  own : W.ownsRow w.heap.size 129 3 (.slice (some ⟨g,0,none⟩) rs.length cp) rs.length (rs.flatMap runC)
  few : rs.length <= 17
  fit : FitRuns rs
  kc : Cur W c x len cap
  u : Upto c w W
  lt : c < w.heap.size
theorem MapSt.step {c g cp : Nat} {x : Option Addr} {len cap : Nat} {w W W' : World} {rs : List (Int × Int × Int)} (h : MapSt c x len cap w W g cp rs) (u : Upto c W W') (kc : Cur W' c x len cap) : MapSt c x len cap w W' g cp rs :=
  ⟨ownsRow_upto h.own u h.lt,h.few,h.fit,kc,h.u.trans u,h.lt⟩
theorem MapSt.alloc {c g cp : Nat} {x : Option Addr} {len cap : Nat} {w W : World} {rs : List (Int × Int × Int)} (h : MapSt c x len cap w W g cp rs) (o : Obj) : MapSt c x len cap w (W.alloc o) g cp rs :=
  h.step ((Upto.refl c W).alloc o) (h.kc.alloc o)
theorem MapSt.lo {c g cp : Nat} {x : Option Addr} {len cap : Nat} {w W : World} {rs : List (Int × Int × Int)} (h : MapSt c x len cap w W g cp rs) : w.heap.size <= g /\ g < W.heap.size := h.own.lt g rfl
theorem MapSt.fit0 {c g cp : Nat} {x : Option Addr} {len cap : Nat} {w W : World} {r : Int × Int × Int} {tl : List (Int × Int × Int)} (h : MapSt c x len cap w W g cp (r :: tl)) : I64 r.1 /\ I64 r.2.1 /\ I64 r.2.2 := h.fit r (List.mem_cons_self ..)
theorem MapSt.cell0 {c g cp : Nat} {x : Option Addr} {len cap : Nat} {w W : World} {r : Int × Int × Int} {tl : List (Int × Int × Int)} (h : MapSt c x len cap w W g cp (r :: tl)) (j : Nat) (hj : j < 3) : W.cell? ⟨g,j,none⟩ = (runC r)[j]? := by
  have := (own_cell runC_len h.own 0 j r rfl hj).1
  rwa [Nat.zero_mul,Nat.zero_add] at this
theorem MapSt.open0 {c g cp : Nat} {x : Option Addr} {len cap : Nat} {w W : World} {rs : List (Int × Int × Int)} (h : MapSt c x len cap w W g cp rs) (j : Nat) : W.frozen? ⟨g,j,none⟩ = false := h.own.frozenAt j
theorem MapSt.put0 {c g cp : Nat} {x : Option Addr} {len cap : Nat} {w W : World} {r : Int × Int × Int} {tl : List (Int × Int × Int)} (h : MapSt c x len cap w W g cp (r :: tl)) (j : Nat) (y : Int × Int × Int) (v : Value) (hj : j < 3) (hy : (runC r).set j v = runC y) (hf : I64 y.1 /\ I64 y.2.1 /\ I64 y.2.2) : MapSt c x len cap w (W.setCell ⟨g,j,none⟩ v) g cp (y :: tl) := by
  have h1 := own_put runC_len h.own 0 j r y v rfl hj hy;rw [Nat.zero_mul,Nat.zero_add] at h1;have hlo := h.lo;have := h.lt;refine ⟨h1,h.few,fun q hq => ?_,h.kc.same (((Upto.refl g W).setCell ⟨g,j,none⟩ (.inl rfl) _).toBelow h.kc.lt (by omega)),h.u.setCell ⟨g,j,none⟩ (.inr hlo.1) _,h.lt⟩;rcases List.mem_cons.1 hq with rfl | hq
  · exact hf
  · exact h.fit q (List.mem_cons_of_mem _ hq)
theorem pick_lt {w w1 : World} {c : Nat} {o : Obj} (u : Upto c (w.alloc o) w1) : w.heap.size < w1.heap.size := by have := u.size;simp at this;omega
theorem one_run (r : Int × Int × Int) : ∀ u ∈ runC r,u.oneCell' = true := fun u hu => by
  simp [runC] at hu;rcases hu with rfl | rfl | rfl <;> rfl
theorem MapSt.more {c g cp : Nat} {x : Option Addr} {len cap : Nat} {w W W' : World} {rs : List (Int × Int × Int)} {r : Int × Int × Int} {v : Value} (h : MapSt c x len cap w W g cp rs) (hl : rs.length <= 16) (hf : I64 r.1 /\ I64 r.2.1 /\ I64 r.2.2) (hown : W'.ownsRow w.heap.size 129 3 v (rs.length + 1) (rs.flatMap runC ++ runC r)) (hg : W.grownBy W' (some g)) (hn : v ≠ .slice none 0 0) :
    ∃ g' cp',v = .slice (some ⟨g',0,none⟩) (rs ++ [r]).length cp' /\ MapSt c x len cap w W' g' cp' (rs ++ [r]) := by
  have own3 : W'.ownsRow w.heap.size 129 3 v (rs ++ [r]).length ((rs ++ [r]).flatMap runC) := by simpa using hown
  have hlo := h.lo;have hlt := h.lt;have kl := h.kc.lt
  rcases own3.2 with ⟨e,_⟩ | ⟨g',cp',cur,e,h2⟩
  · exact absurd e hn
  · subst e
    refine ⟨g',cp',rfl,own3,by simp;omega,fun q hq => ?_,h.kc.same ((Below.refl _ _).grown hg kl (fun q hq => ?_)),h.u.grown hg (fun q hq => ?_),h.lt⟩
    · rcases List.mem_append.1 hq with hq | hq
      · exact h.fit q hq
      · simp at hq
        subst hq;exact hf
    · simp at hq;omega
    · simp at hq;left;omega
def PagesIn (l : List Int) : Prop := l.length = 16 /\ ∀ j,j < 16 -> -1 <= l.getD j 0 /\ l.getD j 0 <= 23
theorem PagesIn.set {l : List Int} (h : PagesIn l) (k : Nat) (hk : k < 16) (p : Int) (hp : -1 <= p /\ p <= 23) : PagesIn (l.set k p) := by
  refine ⟨by rw [List.length_set];exact h.1,fun j hj => ?_⟩;rw [getD_set16 _ _ _ _ (by rw [h.1];exact hk)];by_cases e : k = j
  · rw [if_pos e];exact hp
  · rw [if_neg e];exact h.2 j hj
theorem PagesIn.none : PagesIn none16 := ⟨rfl,fun j hj => by rw [none16_at j hj];omega⟩
theorem fit_mapOf (l : List Int) (h : PagesIn l) : FitRuns (mapOf l) := fun r hr => by
  have := okFrom_mem _ 0 Option.none (mapOk_from (mapOf_ok l h.1 h.2).1) (by omega) r hr;refine ⟨⟨?_,?_⟩,⟨?_,?_⟩,⟨?_,?_⟩⟩ <;> omega
theorem len_mapOf (l : List Int) (h : PagesIn l) : (mapOf l).length <= 16 := by
  have := (mapOf_ok l h.1 h.2).1;rw [mapOk,Bool.and_eq_true,decide_eq_true_iff] at this;exact this.2
set_option maxRecDepth 100000 in
set_option maxHeartbeats 6400000 in
theorem draw5_any (c : Nat) (x : Option Addr) (len cap : Nat) (w : World) (hc : Cur w c x len cap) :
    Calls Tryz.prog 139 #[.pointer (some ⟨c,0,none⟩)] w fun e w' => ∃ (g cp : Nat) (rs : List (Int × Int × Int)),e = .returned (.slice (some ⟨g,0,none⟩) rs.length cp) /\ MapSt c x len cap w w' g cp rs := by
  obtain ⟨i0,hi,hz0,hz1,hz2⟩ := info_parts Tryz.infoI64;have hcw := hc.lt;have own0 : (w.alloc (.cells #[] 2)).ownsRow w.heap.size 2 1 (.slice (some ⟨w.heap.size,0,none⟩) 0 0) 0 [] := World.ownsRow_lit w #[] 0 (Nat.le_refl _) (Nat.zero_le _) rfl;have d0 : Below w.heap.size w (w.alloc (.cells #[] 2)) := bw_alloc (Below.refl _ _)
  go_enter Tryz.func139,Tryz.ntmps139
  go_wp2_with fail
  go_loopw [3,4] (fun q i wr => ∃ (k g cp : Nat),k <= 16 /\ i = .int .i64 k /\ q = .slice (some ⟨g,0,none⟩) k cp /\ wr.ownsRow w.heap.size 2 1 (.slice (some ⟨g,0,none⟩) k cp) k ((List.replicate k (-1 : Int)).map (Value.int .i64)) /\ Below w.heap.size w wr) (fun _ i _ => 16 - (intOf i).toNat)
  case atStart => exact ⟨0,_,_,Nat.zero_le _,rfl,rfl,own0,d0⟩
  case round =>
    clear own0 d0;obtain ⟨k,g,cp,hk,rfl,rfl,own,hb⟩ := hrel;by_cases hlt : k < 16
    · have hk1 : (k : Int) < 16 := by omega
      go_wp2_with (at_builtin;refine wpList_append_own _ rfl _ _ 37 rfl w.heap.size 2 i0 (.int .i64 0) 1 8 Tryz.underlying37 hi hz0 hz1 hz2 rfl (by decide) _ _ _ rfl (own.alloc _) ⟨wr.heap.size,0,none⟩ 1 1 [.int .i64 (-1)] rfl rfl ?c1 ?c2 ?c3 ?c4 ?c5 ?_)
      case c1 => exact new_one _ _ _
      case c2 => intro u hu;simp at hu;subst hu;rfl
      case c3 => unfold maxLen;omega
      case c4 => omega
      case c5 => have := hb.size;simp;omega
      intro v' w3 hown' hgrow hnil;have hb3 : Below w.heap.size w w3 := (bw_alloc hb).grown hgrow (by have := hb.size;simp;omega) (fun q hq => (own.lt q hq).1);have e1 : (List.replicate k (-1 : Int)).map (Value.int .i64) ++ [.int .i64 (-1)] = (List.replicate (k + 1) (-1 : Int)).map (Value.int .i64) := by simp [List.replicate_succ']
      have own3 : w3.ownsRow w.heap.size 2 1 v' (k + 1) ((List.replicate (k + 1) (-1 : Int)).map (Value.int .i64)) := by rw [<- e1];simpa using hown'
      obtain ⟨g',cp',hv'⟩ := owns_form own3;subst hv';have HO : Hid _ := own3;clear hown' hgrow hnil own own3 e1
      go_wp2_with fail
      go_roundw
      case rel => exact ⟨k + 1,g',cp',by omega,by go_num,rfl,HO.out,hb3⟩
      case measure => simp [intOf];omega
    · obtain rfl : k = 16 := by omega
      have e16 : List.replicate 16 (-1 : Int) = none16 := rfl;rw [e16] at own;have hg0 := own.lt g rfl;have kc := hc.below hb;have u := Upto.ofBelow (c := c) hb;clear hc hb e16
      go_wp2_with fail
      refine (below_any c x len cap 6 _ (by omega) kc).mono ?_;rintro e w1 ⟨m,rfl,hm,u1,k1⟩;have hm6 : m < 6 := hm.2.1 (by omega);have hm0 := hm.1;replace own := ownsRow_upto own u1 hcw;replace u := u.trans u1;clear u1 hm kc hg0
      go_wp2_with fail
      go_loopw [5] (fun i wr => ∃ (m : Int) (l : List Int),(0 <= m /\ m < 6) /\ i = .int .i64 m /\ PagesIn l /\ wr.ownsRow w.heap.size 2 1 (.slice (some ⟨g,0,none⟩) 16 cp) 16 (l.map (Value.int .i64)) /\ Upto c w wr /\ Cur wr c x len cap) (fun i _ => (intOf i).toNat)
      case atStart => exact ⟨m,none16,by omega,rfl,PagesIn.none,own,u,k1⟩
      case round =>
        clear own u k1 hm6 hm0;obtain ⟨m,l,hm,rfl,hl,own,u,kc⟩ := hrel;by_cases hpos : 0 < m
        · go_wp2_with fail
          refine (below_any c x len cap 14 _ (by omega) kc).mono ?_;rintro e w2 ⟨at0,rfl,hat,u2,k2⟩;have hat1 : at0 < 14 := hat.2.1 (by omega);obtain ⟨A,rfl⟩ := Int.eq_ofNat_of_zero_le hat.1;replace own := ownsRow_upto own u2 hcw;replace u := u.trans u2;clear u2 hat kc
          go_wp2_with fail
          refine (below_any c x len cap 12 _ (by omega) k2).mono ?_;rintro e w3 ⟨pg,rfl,hpg,u3,k3⟩;have hpg1 : pg < 12 := hpg.2.1 (by omega);have hpg0 := hpg.1;replace own := ownsRow_upto own u3 hcw;replace u := u.trans u3;clear u3 hpg k2
          go_wp2_with fail
          refine (below_any c x len cap 4 _ (by omega) k3).mono ?_;rintro e w4 ⟨kk,rfl,hkk,u4,k4⟩;have hkk1 : kk < 4 := hkk.2.1 (by omega);have hkk0 := hkk.1;replace own := ownsRow_upto own u4 hcw;replace u := u.trans u4;clear u4 hkk k3
          go_wp2_with fail
          go_loopw [8] (fun i wr => ∃ (kk : Int) (l : List Int),(-1 <= kk /\ kk < 4) /\ i = .int .i64 kk /\ PagesIn l /\ wr.ownsRow w.heap.size 2 1 (.slice (some ⟨g,0,none⟩) 16 cp) 16 (l.map (Value.int .i64)) /\ Upto c w wr /\ Cur wr c x len cap) (fun i _ => (intOf i + 1).toNat)
          case atStart => exact ⟨kk,l,by omega,rfl,hl,own,u,k4⟩
          case round =>
            clear own u k4 hkk0 hkk1 hl;obtain ⟨kk,l,hkk,rfl,hl,own,u,kc⟩ := hrel;have hw0 : IntKind.i64.wrap (kk - 1) = kk - 1 := by rw [IntKind.wrap_i64];omega
            have hwm : IntKind.i64.wrap (m - 1) = m - 1 := by rw [IntKind.wrap_i64];omega
            by_cases hk0 : 0 <= kk
            · obtain ⟨K,rfl⟩ := Int.eq_ofNat_of_zero_le hk0
              have hw1 : IntKind.i64.wrap ((A : Int) + (K : Int)) = (A : Int) + (K : Int) := by rw [IntKind.wrap_i64];omega
              have hw2 : IntKind.i64.wrap (pg + (K : Int)) = pg + (K : Int) := by rw [IntKind.wrap_i64];omega
              by_cases hin : A + K < 16
              · have hin2 : (A : Int) + (K : Int) < 16 := by omega
                have hin0 : (0 : Int) <= (A : Int) + (K : Int) := by omega
                have hw3 : ((A : Int) + (K : Int)).toNat = A + K := by omega
                have t0 := own.cellAt (A + K) (by omega);have t1 := own.frozenAt (A + K);rw [List.getElem?_map,List.getElem?_eq_getElem (show A + K < l.length by rw [hl.1];exact hin)] at t0;simp only [Option.map_some] at t0;have hst := (own.stored (A + K) (.int .i64 (pg + K))).1;rw [<- List.map_set] at hst;have hl2 := hl.set (A + K) hin (pg + K) (by omega);have hgl := (own.lt g rfl).1;have hu2 : Upto c w (wr.setCell ⟨g,A + K,none⟩ (.int .i64 (pg + K))) := u.setCell ⟨g,A + K,none⟩ (.inr hgl) _;have hk2 : Cur (wr.setCell ⟨g,A + K,none⟩ (.int .i64 (pg + K))) c x len cap := kc.same (((Upto.refl g wr).setCell ⟨g,A + K,none⟩ (.inl rfl) _).toBelow kc.lt (by omega));have HO : Hid _ := And.intro hl2 (And.intro hst (And.intro hu2 hk2));generalize l[A + K]'(by rw [hl.1];exact hin) = y at t0;clear own hst hu2 hk2 hl2 hl u kc
                go_wp2_with fail
                go_roundw
                case rel => exact ⟨(K : Int) - 1,_,by omega,by first | rfl | go_num,HO.out.1,HO.out.2.1,HO.out.2.2.1,HO.out.2.2.2⟩
                case measure => simp [intOf] <;> omega
              · have hin2 : ¬ (A : Int) + (K : Int) < 16 := by omega
                go_wp2_with fail
                go_roundw
                case rel => exact ⟨(K : Int) - 1,l,by omega,by first | rfl | go_num,hl,own,u,kc⟩
                case measure => simp [intOf] <;> omega
            · go_wp2_with fail
              go_roundw
              case rel => exact ⟨m - 1,l,by omega,by first | rfl | go_num,hl,own,u,kc⟩
              case measure => simp [intOf];omega
        · have rd := Reads.of_own own
          have hlo := kc.lt;have hus := u.size
          go_wp2_with fail
          refine (l5Map_any _ l _ hl.1 hl.2 rd).mono ?_;rintro e w5 ⟨v',rfl,own5,hnn,b5⟩;have kc5 := kc.below b5;have u5 := u.below b5
          obtain ⟨g',cp',hv'⟩ : ∃ g' cp',v' = .slice (some ⟨g',0,none⟩) (mapOf l).length cp' := by
            rcases own5.2 with ⟨e,_⟩ | ⟨g',cp',_,e,_⟩
            · exact absurd e hnn
            · exact ⟨g',cp',e⟩
          subst hv'
          have st0 : MapSt c x len cap w w5 g' cp' (mapOf l) := ⟨owns_mono own5 hus,by have := len_mapOf l hl;omega,fit_mapOf l hl,kc5,u5,hcw⟩
          have hfew := len_mapOf l hl;generalize mapOf l = rs at *;clear own own5 rd u kc b5 u5 kc5 hnn hl hpos hm hi hz0 hz1 hz2;obtain ⟨i1,hi,hz0,hz1,hz2⟩ := info_parts Tryz.infoRun
          go_wp2_with fail
          refine (once_any c x len cap 10 _ (by omega) st0.kc).mono ?_;rintro e w6 ⟨y,rfl,u6,k6⟩;have st := st0.step u6 k6;clear st0 u6 k6
          go_upto_if 49 with fail
          go_cut [9] (fun q wx => ∃ (g cp : Nat) (rs : List (Int × Int × Int)),q = .slice (some ⟨g,0,none⟩) rs.length cp /\ MapSt c x len cap w wx g cp rs)
          case first =>
            cases y
            · go_wp2_with fail
              go_meet
              exact ⟨_,_,_,rfl,st⟩
            · go_wp2_with fail
              refine (below_any c x len cap 3 _ (by omega) st.kc).mono ?_;rintro e w7 ⟨m3,rfl,hm3,u7,k7⟩;have st7 := st.step u7 k7;have hm : m3 = 0 \/ m3 = 1 \/ m3 = 2 := by have := hm3.2.1 (by omega);omega
              clear u7 k7 st hm3;rcases hm with rfl | rfl | rfl
              · go_wp2_with fail
                have HL : Hid (∀ jn : Nat,jn < 5 -> ∃ z : Int,(#[.int .i64 (-1),.int .i64 3,.int .i64 15,.int .i64 16,.int .i64 4611686018427387904] : Array Value)[jn]? = some (.int .i64 z) /\ I64 z) := fun jn h => by
                  have h5 : jn = 0 \/ jn = 1 \/ jn = 2 \/ jn = 3 \/ jn = 4 := by omega
                  rcases h5 with rfl | rfl | rfl | rfl | rfl
                  · exact ⟨-1,rfl,by unfold I64;omega⟩
                  · exact ⟨3,rfl,by unfold I64;omega⟩
                  · exact ⟨15,rfl,by unfold I64;omega⟩
                  · exact ⟨16,rfl,by unfold I64;omega⟩
                  · exact ⟨4611686018427387904,rfl,by unfold I64;omega⟩
                have hne7 : w7.heap.size ≠ c := Nat.ne_of_gt st7.kc.lt;have HMX : Hid (rs.length + 1 <= maxLen) := by unfold maxLen;rw [Hid];omega
                have HBY : Hid ((rs.length + 1) * 24 <= 140737488355328) := by rw [Hid];omega
                go_region_law (first
                  | (go_simp;go_at_call 36;have q9 := k9;clear q9;refine (below_any c x len cap 26 _ (by omega) (by first | exact k9 | exact k9.alloc _)).mono ?_;rintro e wa ⟨ya,rfl,hya,ua,ka⟩;have hya3 := hya.2.1 (by omega);have hya0 := hya.1;have UA : Upto c w9 wa := (by first | exact ua | exact ((Upto.refl c w9).alloc _).trans ua);(first | (have hzr : wa.cell? ⟨w7.heap.size,jn,none⟩ = some (.int .i64 z) := (UA.cell hsq hne7).trans hzq) | (have hzr : wa.cell? ⟨w8.heap.size,jn,none⟩ = some (.int .i64 z) := (UA.cell hsq hne8).trans hzq) | (have hzr : wa.cell? ⟨w9.heap.size,jn,none⟩ = some (.int .i64 z) := (pick_cell ua k9.lt jn).trans hz) | skip);have sta := st9.step UA ka;dsimp only)
                  | (go_simp;go_at_call 36;have q8 := k8;clear q8;refine (below_any c x len cap 3 _ (by omega) (by first | exact k8 | exact k8.alloc _)).mono ?_;rintro e w9 ⟨y9,rfl,hy9,u9,k9⟩;have hy93 := hy9.2.1 (by omega);have hy90 := hy9.1;have U9 : Upto c w8 w9 := (by first | exact u9 | exact ((Upto.refl c w8).alloc _).trans u9);(first | (have hzq : w9.cell? ⟨w7.heap.size,jn,none⟩ = some (.int .i64 z) := (U9.cell hsp hne7).trans hzp;have hsq := Nat.lt_of_lt_of_le hsp U9.size) | (have hzq : w9.cell? ⟨w8.heap.size,jn,none⟩ = some (.int .i64 z) := (pick_cell u9 k8.lt jn).trans hz;have hsq : w8.heap.size < w9.heap.size := (pick_lt u9);have hne8 : w8.heap.size ≠ c := Nat.ne_of_gt k8.lt) | skip);have st9 := st8.step U9 k9;dsimp only)
                  | (go_simp;go_at_call 36;refine (below_any c x len cap 5 _ (by omega) (by first | exact st7.kc.drew | exact (st7.kc.alloc _).drew)).mono ?_;rintro e w8 ⟨y,rfl,hy,u8,k8⟩;have hy5 := hy.2.1 (by omega);obtain ⟨jn,rfl⟩ := Int.eq_ofNat_of_zero_le hy.1;obtain ⟨z,hz,hzf⟩ := HL.out jn (by omega);have hy6 : (0 : Int) <= (jn : Int) := (by omega);have hzA : ∀ W : World,(W.alloc (.cells #[.int .i64 (-1),.int .i64 3,.int .i64 15,.int .i64 16,.int .i64 4611686018427387904] 2)).cell? ⟨W.heap.size,jn,none⟩ = some (.int .i64 z) := (fun W => (World.cell?_alloc_mark W _ _ (0,0) jn).trans hz);have U8 : Upto c w7 w8 := (by first | exact upto_undrew u8 | exact ((Upto.refl c w7).alloc _).trans (upto_undrew u8));(first | (have hzp : w8.cell? ⟨w7.heap.size,jn,none⟩ = some (.int .i64 z) := (pick_cell (upto_undrew u8) st7.kc.lt jn).trans hz;have hsp : w7.heap.size < w8.heap.size := (pick_lt (upto_undrew u8))) | skip);have st8 := st7.step U8 k8;dsimp only)
                  | (refine step_append rfl (.tmp 54) (.tmp 65) 85 rfl w.heap.size 129 i1 (.agg #[.int .i64 0,.int .i64 0,.int .i64 0]) 3 24 Tryz.underlying85 hi hz0 hz1 hz2 rfl (by decide) (.slice (some ⟨g',0,none⟩) rs.length cp') rs.length (rs.flatMap runC) (by simp [Act.eval]) (sta.own.alloc _) ⟨wa.heap.size,0,none⟩ 1 1 (runC (z,y9,ya)) (by simp [Act.eval]) rfl (new_three _ (z,y9,ya) _) (one_run _) HMX.out HBY.out (by have h1 := sta.u.size;simp;omega) ?_;intro vb wb ownb growb nilb)
                  | (refine step_append rfl (.tmp 54) (.tmp 65) 85 rfl w.heap.size 129 i1 (.agg #[.int .i64 0,.int .i64 0,.int .i64 0]) 3 24 Tryz.underlying85 hi hz0 hz1 hz2 rfl (by decide) (.slice (some ⟨g',0,none⟩) rs.length cp') rs.length (rs.flatMap runC) (by simp [Act.eval]) ((sta.own.alloc _).alloc _) ⟨(wa.alloc (.cells #[.int .i64 (-1),.int .i64 3,.int .i64 15,.int .i64 16,.int .i64 4611686018427387904] 2)).heap.size,0,none⟩ 1 1 (runC (z,y9,ya)) (by simp [Act.eval]) rfl (new_three _ (z,y9,ya) _) (one_run _) HMX.out HBY.out (by have h1 := sta.u.size;simp;omega) ?_;intro vb wb ownb growb nilb))
                all_goals
                  have hfz : I64 z /\ I64 y9 /\ I64 ya := ⟨hzf,⟨by omega,by omega⟩,⟨by omega,by omega⟩⟩
                  have hnb : vb ≠ .slice none 0 0 := fun h => by have := nilb.1 h;simp at this
                  obtain ⟨g9,cp9,hv9,st9'⟩ : ∃ g' cp',vb = .slice (some ⟨g',0,none⟩) (rs ++ [(z,y9,ya)]).length cp' /\ MapSt c x len cap w wb g' cp' (rs ++ [(z,y9,ya)]) := by
                    first
                      | exact (sta.alloc _).more hfew hfz ownb growb hnb
                      | exact ((sta.alloc _).alloc _).more hfew hfz ownb growb hnb
                  subst hv9;have HST : Hid _ := st9';clear st9' ownb growb nilb hnb
                  go_wp2_with fail
                  go_meet
                  exact ⟨_,_,_,rfl,HST.out⟩
              · by_cases hE : rs = []
                · subst hE
                  go_wp2_with fail
                  go_meet
                  exact ⟨_,_,_,rfl,st7⟩
                · obtain ⟨⟨f,cc,p⟩,tl,rfl⟩ := List.exists_cons_of_ne_nil hE
                  have hpos : (0 : Int) < (((f,cc,p) :: tl).length : Int) := by simp only [List.length_cons];omega
                  have hpos2 : (0 : Int) < (tl.length : Int) + 1 := by omega
                  go_wp2_with fail
                  have HL : Hid (∀ jn : Nat,jn < 5 -> ∃ z : Int,(#[.int .i64 0,.int .i64 (-1),.int .i64 16,.int .i64 17,.int .i64 4611686018427387904] : Array Value)[jn]? = some (.int .i64 z) /\ I64 z) := fun jn h => by
                    have h5 : jn = 0 \/ jn = 1 \/ jn = 2 \/ jn = 3 \/ jn = 4 := by omega
                    rcases h5 with rfl | rfl | rfl | rfl | rfl
                    · exact ⟨0,rfl,by unfold I64;omega⟩
                    · exact ⟨-1,rfl,by unfold I64;omega⟩
                    · exact ⟨16,rfl,by unfold I64;omega⟩
                    · exact ⟨17,rfl,by unfold I64;omega⟩
                    · exact ⟨4611686018427387904,rfl,by unfold I64;omega⟩
                  refine (below_any c x len cap 5 _ (by omega) (st7.kc.alloc _)).mono ?_;rintro e w8 ⟨y,rfl,hy,u8,k8⟩;have hy5 := hy.2.1 (by omega);obtain ⟨jn,rfl⟩ := Int.eq_ofNat_of_zero_le hy.1;obtain ⟨z,hz,hzf⟩ := HL.out jn (by omega);have hy6 : (0 : Int) <= (jn : Int) := by omega
                  have hzp : w8.cell? ⟨w7.heap.size,jn,none⟩ = some (.int .i64 z) := (pick_cell u8 st7.kc.lt jn).trans hz;have st8 := st7.step (((Upto.refl c w7).alloc _).trans u8) k8;have C8 := st8.cell0 1 (by omega);have F8 := st8.open0 1;have HST : Hid _ := st8.put0 1 (f,z,p) (.int .i64 z) (by omega) rfl ⟨st8.fit0.1,hzf,st8.fit0.2.2⟩;clear u8 k8 hy
                  go_wp2_with fail
                  go_meet
                  exact ⟨_,_,_,rfl,HST.out⟩
              · by_cases hE : rs = []
                · subst hE
                  go_wp2_with fail
                  go_meet
                  exact ⟨_,_,_,rfl,st7⟩
                · obtain ⟨⟨f,cc,p⟩,tl,rfl⟩ := List.exists_cons_of_ne_nil hE
                  have hpos : (0 : Int) < (((f,cc,p) :: tl).length : Int) := by simp only [List.length_cons];omega
                  have hpos2 : (0 : Int) < (tl.length : Int) + 1 := by omega
                  go_wp2_with fail
                  have HL : Hid (∀ jn : Nat,jn < 4 -> ∃ z : Int,(#[.int .i64 (-1),.int .i64 23,.int .i64 24,.int .i64 4611686018427387904] : Array Value)[jn]? = some (.int .i64 z) /\ I64 z) := fun jn h => by
                    have h5 : jn = 0 \/ jn = 1 \/ jn = 2 \/ jn = 3 := by omega
                    rcases h5 with rfl | rfl | rfl | rfl
                    · exact ⟨-1,rfl,by unfold I64;omega⟩
                    · exact ⟨23,rfl,by unfold I64;omega⟩
                    · exact ⟨24,rfl,by unfold I64;omega⟩
                    · exact ⟨4611686018427387904,rfl,by unfold I64;omega⟩
                  refine (below_any c x len cap 4 _ (by omega) (st7.kc.alloc _)).mono ?_;rintro e w8 ⟨y,rfl,hy,u8,k8⟩;have hy5 := hy.2.1 (by omega);obtain ⟨jn,rfl⟩ := Int.eq_ofNat_of_zero_le hy.1;obtain ⟨z,hz,hzf⟩ := HL.out jn (by omega);have hy6 : (0 : Int) <= (jn : Int) := by omega
                  have hzp : w8.cell? ⟨w7.heap.size,jn,none⟩ = some (.int .i64 z) := (pick_cell u8 st7.kc.lt jn).trans hz;have st8 := st7.step (((Upto.refl c w7).alloc _).trans u8) k8;have C8 := st8.cell0 2 (by omega);have F8 := st8.open0 2;have HST : Hid _ := st8.put0 2 (f,cc,z) (.int .i64 z) (by omega) rfl ⟨st8.fit0.1,st8.fit0.2.1,hzf⟩;clear u8 k8 hy
                  go_wp2_with fail
                  go_meet
                  exact ⟨_,_,_,rfl,HST.out⟩
          case rest =>
            obtain ⟨g9,cp9,rs9,rfl,st9⟩ := hcut;clear st
            go_wp2_with fail
            go_ret;exact ⟨g9,cp9,rs9,rfl,st9⟩
end Go.Proofs.YtcefcglonooelaaGreatDoor
namespace Go.Proofs.YtcefcglonooelaaGreatDoor
set_option linter.unusedVariables false
set_option maxRecDepth 100000
theorem grow_len (k : Nat) (v : Int) (acc : List (Int × Int × Int)) : (grow k v acc).length <= acc.length + 1 := by
  unfold grow
  split
  · omega
  · cases h : acc.getLast? with
    | none => simp
    | some q =>
      simp only
      split <;> simp <;> omega
theorem upto_len (l : List Int) (n : Nat) : (upto l n).length <= n := by
  induction n with
  | zero => simp [upto]
  | succ n ih => have := grow_len n (l.getD n 0) (upto l n);rw [upto];omega
theorem mapOf_len (l : List Int) : (mapOf l).length <= l.length := upto_len l _
end Go.Proofs.YtcefcglonooelaaGreatDoor
