import Derived.Test.YtmnhnhjefocicaaGreatDoorM07
import Derived.Test.YtmnhnhjefocicaaGreatDoorM08
import Derived.Test.YtmnhnhjefocicaaGreatDoorM30
import Derived.Test.YtmnhnhjefocicaaGreatDoorM33
namespace Go.Proofs.YtmnhnhjefocicaaGreatDoor
open Go.RowKit
set_option linter.unusedVariables false
set_option maxRecDepth 100000
theorem arr_at (L : List Int) (c : Array Value) (h : c.toList = L.map (Value.int .i64)) (k : Nat) (hk : k < L.length) : c[k]? = some (.int .i64 (L.getD k 0)) := by
  rw [<- Array.getElem?_toList,h,List.getElem?_map,List.getElem?_eq_getElem hk,List.getD_eq_getElem?_getD,List.getElem?_eq_getElem hk]
  rfl
theorem arr_size (L : List Int) (c : Array Value) (h : c.toList = L.map (Value.int .i64)) : c.size = L.length := by rw [<- Array.length_toList,h,List.length_map]
theorem index16 (c : Array Value) (k : Nat) (y : Int) (hk : k < 16) (hck : c[k]? = some (.int .i64 y)) (w : World) : (Instr.index 198 (.agg c) (.int .i64 (k : Int))).run Tryz.prog w = .ok (.int .i64 y) w := by
  simp [Instr.index,part,go_sem,hck];intro h;exact absurd hk (by omega)
set_option maxHeartbeats 800000 in
theorem implPageOf_any (v : Value) (rs : List (Int × Int × Int)) (place : Int) (w : World) (hfit : FitRuns rs) (r : ReadsR 3 runC w.heap.size w v rs) :
    Calls Tryz.prog 175 #[v,.int .i64 place] w fun e w' => e = .returned (.int .i64 (pageOf rs place)) /\ Below w.heap.size w w' := by
  go_enter Tryz.func175,Tryz.ntmps175
  go_wp2_with fail
  refine (implMapOk_any v rs _ hfit r).mono ?_;rintro e w1 ⟨rfl,b1⟩;have r1 := (r.below b1).mono b1.size;cases hok : mapOk rs
  · have HV : Hid (pageOf rs place = -1) := by rw [Hid,pageOf,if_neg (fun q => by rw [hok] at q;cases q.1)]
    go_wp2_with fail
    go_ret;exact ⟨ret_int HV.out.symm,b1⟩
  · have HOK : Hid (mapOk rs = true) := hok
    clear hok
    go_wp2_with fail
    refine (placeOk_any place _).mono ?_;rintro e w2 ⟨rfl,rfl⟩;cases hp : (decide ((0 : Int) <= place) && decide (place <= 15))
    · have HV : Hid (pageOf rs place = -1) := by
        rw [Hid,pageOf,if_neg];rintro ⟨_,h1,h2⟩;simp [h1,h2] at hp
      go_wp2_with fail
      go_ret;exact ⟨ret_int HV.out.symm,b1⟩
    · have hp2 : 0 <= place /\ place <= 15 := by simpa using hp
      have hv : pageOf rs place = (pages rs).getD place.toNat 0 := by rw [pageOf,if_pos ⟨HOK.out,hp2⟩]
      obtain ⟨k,rfl⟩ := Int.eq_ofNat_of_zero_le hp2.1;rw [Int.toNat_natCast] at hv;have HV : Hid _ := hv;clear hv
      go_wp2_with fail
      refine (pageByPlace_any v rs _ HOK.out r1).mono ?_;rintro e w3 ⟨c,rfl,hcl,b3⟩;have hpl := pages_length rs;have hck := arr_at (pages rs) c hcl k (by omega);have hcs := arr_size (pages rs) c hcl;rw [hpl] at hcs;have hix := fun w => index16 c k _ (by omega) hck w
      clear hcl hpl hck;generalize (pages rs).getD k 0 = y at hix HV;have h0 : (0 : Int) <= (k : Int) := by omega
      have h1 : (k : Int) < 16 := by omega
      have bf := bw_call b1 b3
      go_wp2_with fail
      go_ret;exact ⟨ret_int HV.out.symm,bf⟩
theorem own_arr (w : World) (c : Array Value) (L : List Int) (hc : c.toList = L.map (Value.int .i64)) (hl : L.length = 16) : (w.alloc (.cells c 198)).ownsRow w.heap.size 198 1 (.slice (some ⟨w.heap.size,0,none⟩) 16 16) 16 (L.map (Value.int .i64)) := by
  have h := World.ownsRow_lit (e := 198) (size := 1) (base := w.heap.size) w c 16 (Nat.le_refl _) (by unfold maxLen;omega) (by rw [arr_size L c hc,hl])
  rwa [hc] at h
set_option maxHeartbeats 3200000 in
theorem implMapped_any (v : Value) (rs : List (Int × Int × Int)) (place page : Int) (w : World) (hfit : FitRuns rs) (r : ReadsR 3 runC w.heap.size w v rs) :
    Calls Tryz.prog 210 #[v,.int .i64 place,.int .i64 page] w fun e w' => ∃ v' : Value,e = .returned (.tuple #[v',.bool (mapped rs place page).2]) /\ w'.ownsRow w.heap.size 149 3 v' (mapped rs place page).1.length ((mapped rs place page).1.flatMap runC) /\ v' ≠ .slice none 0 0 /\ Below w.heap.size w w' := by
  obtain ⟨i0,hi,hz0,hz1,hz2⟩ := info_parts Tryz.infoRun
  go_enter Tryz.func210,Tryz.ntmps210
  go_wp2_with fail
  refine (implMapOk_any v rs _ hfit r).mono ?_;rintro e w1 ⟨rfl,b1⟩;have r1 := (r.below b1).mono b1.size;have bs := b1.size;cases hok : mapOk rs
  · have HV : Hid (mapped rs place page = ([],false)) := by rw [Hid,mapped,if_neg (by rw [hok];simp)]
    have HO : Hid ((w1.alloc (.cells #[] 149)).ownsRow w.heap.size 149 3 (.slice (some ⟨w1.heap.size,0,none⟩) 0 0) 0 []) := owns_mono (own_none w1) bs;have hb := bw_alloc (o := .cells #[] 149) b1;clear r r1
    go_wp2_with fail
    go_ret2
    exact ⟨.slice (some ⟨w1.heap.size,0,none⟩) 0 0,by rw [HV.out];rfl,by rw [HV.out];exact HO.out,by simp,hb⟩
  · have HOK : Hid (mapOk rs = true) := hok
    have hfew : rs.length <= 16 := by rw [mapOk,Bool.and_eq_true,decide_eq_true_iff] at hok;exact hok.2
    clear hok;obtain ⟨o,cap,rfl,hm,hc,hroom⟩ := r1
    have rr : ReadsR 3 runC w1.heap.size w1 (.slice o rs.length cap) rs := ⟨o,cap,rfl,hm,hc,hroom⟩
    have HR : Hid _ := rr
    have HSRC : Hid (∀ j u,(rs.flatMap runC)[j]? = some u -> ∃ g off,o = some ⟨g,off,none⟩ /\ (w1.alloc (.cells #[] 149)).cell? ⟨g,off + j,none⟩ = some u) := fun j u hj => by
      have hjl := (List.getElem?_eq_some_iff.1 hj).1;rw [flat_length runC_len] at hjl;have hi3 : j / 3 < rs.length := by omega
      obtain ⟨g,off,e,hg,hx⟩ := hc (j / 3) rs[j / 3] (List.getElem?_eq_getElem hi3);refine ⟨g,off,e,(Below.cell (bw_alloc (Below.refl _ _)) (p := ⟨g,off + j,none⟩) hg).trans ?_⟩;have hf := flat_get runC_len rs (j / 3) (j % 3) rs[j / 3] (List.getElem?_eq_getElem hi3) (by omega);rw [show j / 3 * 3 + j % 3 = j by omega] at hf;have := hx (j % 3) u (by rw [<- hf];exact hj)
      rwa [show off + j / 3 * 3 + j % 3 = off + j by omega] at this
    have HONE : Hid (∀ u ∈ rs.flatMap runC,u.oneCell' = true) := fun u hu => by
      obtain ⟨x,_,hx⟩ := List.mem_flatMap.1 hu;simp [runC] at hx;rcases hx with rfl | rfl | rfl <;> rfl
    have HLEN : Hid ((rs.flatMap runC).length = rs.length * 3) := flat_length runC_len rs;have hM : (0 + rs.length) <= maxLen := by unfold maxLen;omega
    have HM : Hid _ := hM;have HB : Hid ((0 + rs.length) * 24 <= 140737488355328) := by rw [Hid];omega
    have HS : Hid (w1.heap.size <= (w1.alloc (.cells #[] 149)).heap.size) := by rw [Hid];simp
    have HON : Hid ((w1.alloc (.cells #[] 149)).ownsRow w1.heap.size 149 3 (.slice (some ⟨w1.heap.size,0,none⟩) 0 0) 0 []) := own_none w1
    have asis : ∀ v' w3,w3.ownsRow w1.heap.size 149 3 v' (0 + rs.length) ([] ++ rs.flatMap runC) -> (w1.alloc (.cells #[] 149)).grownBy w3 (Value.slice (some ⟨w1.heap.size,0,none⟩) 0 0).ownBlock -> Hid (w3.ownsRow w.heap.size 149 3 v' rs.length (rs.flatMap runC) /\ Below w.heap.size w w3) := fun v' w3 h1 h2 => by
      refine ⟨owns_mono (by simpa using h1) bs,(bw_alloc b1).grown h2 (by simp;omega) (fun q hq => ?_)⟩;simp [Value.ownBlock] at hq
      omega
    have HAS : Hid _ := asis;clear asis hc hroom rr hM hm r;have hlen16 : rs.length <= 16 := hfew
    go_wp2_with fail
    refine (placeOk_any place _).mono ?_;rintro e w2 ⟨rfl,rfl⟩;cases hp : (decide ((0 : Int) <= place) && decide (place <= 15))
    · have HV : Hid (mapped rs place page = (rs,false)) := by
        rw [Hid,mapped,if_pos HOK.out,if_neg];rintro ⟨⟨h1,h2⟩,_⟩;simp [h1,h2] at hp
      go_wp2_with (at_builtin;refine wpList_append_reads rfl _ _ 94 rfl w2.heap.size 149 i0 (.agg #[.int .i64 0,.int .i64 0,.int .i64 0]) 3 24 Tryz.underlying94 hi hz0 hz1 hz2 rfl (by decide) (.slice (some ⟨w2.heap.size,0,none⟩) 0 0) 0 [] rfl HON.out o rs.length cap (rs.flatMap runC) rfl HLEN.out HSRC.out HONE.out HM.out HB.out HS.out ?_)
      intro v' w3 hown hgrow hnil;have HF := HAS.out v' w3 (by simpa using hown) hgrow;have HNN : Hid (v' ≠ .slice none 0 0) := hnil;clear hown hgrow hnil
      go_wp2_with fail
      go_ret2
      exact ⟨v',by rw [HV.out];rfl,by rw [HV.out];exact HF.out.1,HNN.out,HF.out.2⟩
    · have hp2 : 0 <= place /\ place <= 15 := by simpa using hp
      go_wp2_with fail
      refine (pageOrNoneOk_any page _).mono ?_;rintro e w2 ⟨rfl,rfl⟩;cases hg : (decide ((-1 : Int) <= page) && decide (page <= 23))
      · have HV : Hid (mapped rs place page = (rs,false)) := by
          rw [Hid,mapped,if_pos HOK.out,if_neg];rintro ⟨_,h1,h2⟩;simp [h1,h2] at hg
        go_wp2_with (at_builtin;refine wpList_append_reads rfl _ _ 94 rfl w2.heap.size 149 i0 (.agg #[.int .i64 0,.int .i64 0,.int .i64 0]) 3 24 Tryz.underlying94 hi hz0 hz1 hz2 rfl (by decide) (.slice (some ⟨w2.heap.size,0,none⟩) 0 0) 0 [] rfl HON.out o rs.length cap (rs.flatMap runC) rfl HLEN.out HSRC.out HONE.out HM.out HB.out HS.out ?_)
        intro v' w3 hown hgrow hnil;have HF := HAS.out v' w3 (by simpa using hown) hgrow;have HNN : Hid (v' ≠ .slice none 0 0) := hnil;clear hown hgrow hnil
        go_wp2_with fail
        go_ret2
        exact ⟨v',by rw [HV.out];rfl,by rw [HV.out];exact HF.out.1,HNN.out,HF.out.2⟩
      · have hg2 : -1 <= page /\ page <= 23 := by simpa using hg
        have hv : mapped rs place page = (mapOf ((pages rs).set place.toNat page),true) := by rw [mapped,if_pos HOK.out,if_pos ⟨hp2,hg2⟩]
        obtain ⟨k,rfl⟩ := Int.eq_ofNat_of_zero_le hp2.1;rw [Int.toNat_natCast] at hv;have HV : Hid _ := hv;have hk : k < 16 := by omega
        have HL : Hid (((pages rs).set k page).length = 16) := by rw [Hid,List.length_set,pages_length]
        have HRG : Hid (∀ j,j < ((pages rs).set k page).length -> -1 <= ((pages rs).set k page).getD j 0 /\ ((pages rs).set k page).getD j 0 <= 23) := fun j hj => set_range rs HOK.out k hk page hg2 j (by rw [HL.out] at hj;exact hj)
        have HL2 : Hid (((pages rs).set k page).length <= 16) := Nat.le_of_eq HL.out;clear hv HAS HON HSRC HONE HLEN HM HB HS
        go_wp2_with fail
        refine (pageByPlace_any _ rs _ HOK.out HR.out).mono ?_;rintro e w3 ⟨c,rfl,hcl,b3⟩;have hpl := pages_length rs;have hcs := arr_size (pages rs) c hcl;rw [hpl] at hcs;have H1 : Hid (c.all (·.oneCell') = true) := one_cells _ c hcl;have HI : Hid ((Tryz.prog.info? 198).map (·.size) = some c.size) := by rw [hcs];exact info16
        have HZ : Hid ((#[.int .i64 0,.int .i64 0,.int .i64 0,.int .i64 0,.int .i64 0,.int .i64 0,.int .i64 0,.int .i64 0,.int .i64 0,.int .i64 0,.int .i64 0,.int .i64 0,.int .i64 0,.int .i64 0,.int .i64 0,.int .i64 0] : Array Value).size = c.size) := by rw [hcs];rfl
        have HROW : Hid ((w3.alloc (.cells #[.int .i64 0,.int .i64 0,.int .i64 0,.int .i64 0,.int .i64 0,.int .i64 0,.int .i64 0,.int .i64 0,.int .i64 0,.int .i64 0,.int .i64 0,.int .i64 0,.int .i64 0,.int .i64 0,.int .i64 0,.int .i64 0] 198)).heap[w3.heap.size]? = some (.cells #[.int .i64 0,.int .i64 0,.int .i64 0,.int .i64 0,.int .i64 0,.int .i64 0,.int .i64 0,.int .i64 0,.int .i64 0,.int .i64 0,.int .i64 0,.int .i64 0,.int .i64 0,.int .i64 0,.int .i64 0,.int .i64 0] 198 (0,0))) := heap_alloc_new w3 _;have own := own_arr w3 c (pages rs) hcl hpl;have bA := bw_alloc (o := .cells c 198) b3;have c0 := own.cellAt k (by omega);have c1 := own.frozenAt k;rw [List.getElem?_map,List.getElem?_eq_getElem (show k < (pages rs).length by omega)] at c0;simp only [Option.map_some] at c0;have hst := own_arr w3 (c.setIfInBounds k (.int .i64 page)) ((pages rs).set k page) (by rw [Array.toList_setIfInBounds,hcl,List.map_set]) HL.out;have bset : Below w2.heap.size w2 (w3.alloc (.cells (c.setIfInBounds k (.int .i64 page)) 198)) := bw_alloc b3;have HRD : Hid _ := Reads.of_own hst;have HBS : Hid _ := bset;have hsw : (w3.alloc (.cells #[.int .i64 0,.int .i64 0,.int .i64 0,.int .i64 0,.int .i64 0,.int .i64 0,.int .i64 0,.int .i64 0,.int .i64 0,.int .i64 0,.int .i64 0,.int .i64 0,.int .i64 0,.int .i64 0,.int .i64 0,.int .i64 0] 198)).setRow w3.heap.size c = w3.alloc (.cells c 198) := World.setRow_alloc_new w3 #[.int .i64 0,.int .i64 0,.int .i64 0,.int .i64 0,.int .i64 0,.int .i64 0,.int .i64 0,.int .i64 0,.int .i64 0,.int .i64 0,.int .i64 0,.int .i64 0,.int .i64 0,.int .i64 0,.int .i64 0,.int .i64 0] c _;generalize (pages rs)[k] = y at c0;clear own hst hpl hcl hcs bA bset;have h0 : (0 : Int) <= (k : Int) := by omega
        have h1 : (k : Int) < 16 := by omega
        go_wp2_with (with_reducible refine wpList_store_arr rfl _ _ 198 rfl w3.heap.size rfl c rfl #[.int .i64 0,.int .i64 0,.int .i64 0,.int .i64 0,.int .i64 0,.int .i64 0,.int .i64 0,.int .i64 0,.int .i64 0,.int .i64 0,.int .i64 0,.int .i64 0,.int .i64 0,.int .i64 0,.int .i64 0,.int .i64 0] 198 HROW.out HI.out HZ.out H1.out ?_)
        refine (implMapOf_any _ ((pages rs).set k page) _ HL2.out HRG.out HRD.out).mono ?_;rintro e w5 ⟨v',rfl,own5,hnn,b5⟩;have hb5 := bw_call (bw_call b1 HBS.out) b5;have hsz : w.heap.size <= (w3.alloc (.cells (c.setIfInBounds k (.int .i64 page)) 198)).heap.size := Nat.le_trans bs HBS.out.size;have HF : Hid (w5.ownsRow w.heap.size 149 3 v' (mapOf ((pages rs).set k page)).length ((mapOf ((pages rs).set k page)).flatMap runC)) := owns_mono own5 hsz;clear own5 b5
        go_wp2_with fail
        go_ret2
        exact ⟨v',by rw [HV.out];rfl,by rw [HV.out];exact HF.out,hnn,hb5⟩
theorem shelf_put {w W : World} {c : Nat} {x0 x1 x2 : Value} {T : TypeId} (kc : W.heap[c]? = some (.cells #[x0,x1,x2] T (0,0))) (hc : w.heap.size <= c) (h0 : Below w.heap.size w W) (y0 y1 y2 : Value) :
    (((W.setCell ⟨c,0,none⟩ y0).setCell ⟨c,1,none⟩ y1).setCell ⟨c,2,none⟩ y2).heap[c]? = some (.cells #[y0,y1,y2] T (0,0)) /\ Upto c W (((W.setCell ⟨c,0,none⟩ y0).setCell ⟨c,1,none⟩ y1).setCell ⟨c,2,none⟩ y2) /\ Below w.heap.size w (((W.setCell ⟨c,0,none⟩ y0).setCell ⟨c,1,none⟩ y1).setCell ⟨c,2,none⟩ y2) :=
  ⟨set_at (set_at (set_at kc 0 y0) 1 y1) 2 y2,(((Upto.refl _ _).setCell ⟨c,0,none⟩ (.inl rfl) _).setCell ⟨c,1,none⟩ (.inl rfl) _).setCell ⟨c,2,none⟩ (.inl rfl) _,bw_set (p := ⟨c,2,none⟩) (bw_set (p := ⟨c,1,none⟩) (bw_set (p := ⟨c,0,none⟩) h0 hc _) hc _) hc _⟩
end Go.Proofs.YtmnhnhjefocicaaGreatDoor
