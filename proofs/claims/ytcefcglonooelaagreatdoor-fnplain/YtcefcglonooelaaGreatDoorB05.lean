/-
  Contracts and plain laws, one chapter behind the other.
-/
import Derived.Test.YtcefcglonooelaaGreatDoorB01
import Derived.Test.YtcefcglonooelaaGreatDoorB04
namespace Go.Proofs.YtcefcglonooelaaGreatDoor
open Go.RowKit

set_option linter.unusedVariables false

set_option maxRecDepth 100000

def cutAt (l : List Int) (n : Int) : List Int := (List.range 16).map fun k : Nat => if (k : Int) < n then l.getD k 0 else -1

def pagesOf (rs : List (Int × Int × Int)) : List Int := if mapOk rs = true then (pages rs).filter (fun p => decide (0 ≤ p)) else []

theorem getD_set16 (l : List Int) (k j : Nat) (x : Int) (h : k < l.length) : (l.set k x).getD j 0 = if k = j then x else l.getD j 0 := by
  rw [List.getD_eq_getElem?_getD, List.getElem?_set, List.getD_eq_getElem?_getD]
  by_cases e : k = j
  · subst e; simp [h]
  · simp [e]

theorem set_range (rs : List (Int × Int × Int)) (h : mapOk rs = true) (k : Nat) (hk : k < 16) (page : Int) (hp : -1 ≤ page ∧ page ≤ 23) : ∀ j, j < 16 → -1 ≤ ((pages rs).set k page).getD j 0 ∧ ((pages rs).set k page).getD j 0 ≤ 23 := fun j hj => by
  rw [getD_set16 _ _ _ _ (by rw [pages_length]; exact hk)]
  by_cases e : k = j
  · rw [if_pos e]; exact hp
  · rw [if_neg e]; exact pages_range rs h j hj

/-- A row of no runs, at the end of memory. -/
theorem own_none (w : World) : (w.alloc (.cells #[] 129)).ownsRow w.heap.size 129 3 (.slice (some ⟨w.heap.size, 0, none⟩) 0 0) 0 [] := World.ownsRow_lit w #[] 0 (Nat.le_refl _) (Nat.zero_le _) rfl
end Go.Proofs.YtcefcglonooelaaGreatDoor

namespace Go.Proofs.YtcefcglonooelaaGreatDoor
open Go.RowKit

set_option linter.unusedVariables false

set_option maxRecDepth 100000


theorem run_append_fresh {P : Program} (w : World) (base : Nat) (t ty e : TypeId) (i : TypeInfo) (z : Value) (size bytes : Nat) (ht : P.underlying t = some (.slice e)) (hi : P.info? e = some i) (hz : i.zero = some z)
    (hsize : i.size = size) (hby : i.bytes = bytes) (hzs : z.cells.size = size) (hsz : 0 < size)
    (v : Value) (n : Nat) (xs : List Value) (hown : w.ownsRow base e size v n xs)
    (a : Addr) (m c : Nat) (news : List Value) (hl : news.length = m * size) (hnews : ∀ j u, news[j]? = some u → w.cell? (a.add j) = some u) (h1 : ∀ u ∈ news, u.oneCell' = true)
    (h63 : n + m ≤ maxLen) (hbytes : (n + m) * bytes ≤ 140737488355328) (hbase : base ≤ w.heap.size) :
    ∃ v' w', (Builtin.append_ #[t, t] ty #[v, .slice (some a) m c]).run P w = .ok v' w' ∧ w'.ownsRow base e size v' (n + m) (xs ++ news) ∧ w.grownBy w' v.ownBlock ∧ (v' = .slice none 0 0 ↔ v = .slice none 0 0 ∧ m = 0) ∧ ∀ k, v'.ownBlock = some k → v.ownBlock = some k ∨ w.heap.size ≤ k := by
  rcases hown.2 with ⟨rfl, rfl⟩ | ⟨g, cap, cur, rfl, hbg, hg, hnc, hcm, hcs, htake⟩
  · have hx : xs = [] := List.eq_nil_of_length_eq_zero (by simpa using hown.1)
    subst hx
    obtain ⟨v', w', hr, ho, hg, hn⟩ := run_append_own (P := P) w w.heap.size t ty e i z size bytes ht hi hz hsize hby hzs hsz (.slice none 0 0) 0 [] (World.ownsRow_nil _ _ _ _) a m c news hl hnews h1 h63 hbytes (Nat.le_refl _)
    exact ⟨v', w', hr, owns_mono ho hbase, hg, hn, fun k hk => .inr (ho.lt k hk).1⟩
  · by_cases hroom : n + m ≤ cap
    · obtain ⟨w', hr, ho, hg'⟩ := run_append_fits (P := P) w base t ty e i size ht hi hsize g n cap xs hown a m c news hl hnews h1 hroom
      exact ⟨_, w', hr, ho, hg', by simp, fun k hk => .inl (by simpa [Value.ownBlock] using hk)⟩
    · obtain ⟨v', w', hr, ho, hg', hn⟩ := run_append_full (P := P) w w.heap.size t ty e i z size bytes ht hi hz hsize hby hzs ⟨g, 0, none⟩ n cap xs hown.1 (hown.cells (g := g) rfl) a m c news hl hnews (by omega) h63 hbytes (Nat.le_refl _)
      exact ⟨v', w', hr, owns_mono ho hbase, ⟨hg'.os, hg'.tape, hg'.output, hg'.size, fun k hk _ => hg'.block k hk (by simp)⟩, by simp [hn], fun k hk => .inr (ho.lt k hk).1⟩

theorem wpList_append_fresh {P : Program} {w : World} {ops : Array Oper} {rest : List Oper} {o : Oper} {a : Act} {Q : Exit → Act → World → Prop} (hgd : o.guard = none) (s x : Operand) (t : TypeId)
    (ho : o.op = .call { callee := .builtin .append, args := #[s, x], argTypes := #[t, t] })
    (base : Nat) (e : TypeId) (i : TypeInfo) (z : Value) (size bytes : Nat) (ht : P.underlying t = some (.slice e)) (hi : P.info? e = some i) (hz : i.zero = some z)
    (hsize : i.size = size) (hby : i.bytes = bytes) (hzs : z.cells.size = size) (hsz : 0 < size)
    (v : Value) (n : Nat) (xs : List Value) (hs : a.eval s = v) (hown : w.ownsRow base e size v n xs)
    (ad : Addr) (m c : Nat) (news : List Value) (hx : a.eval x = .slice (some ad) m c) (hl : news.length = m * size) (hnews : ∀ j u, news[j]? = some u → w.cell? (ad.add j) = some u) (h1 : ∀ u ∈ news, u.oneCell' = true)
    (h63 : n + m ≤ maxLen) (hbytes : (n + m) * bytes ≤ 140737488355328) (hbase : base ≤ w.heap.size)
    (h : ∀ v' w', w'.ownsRow base e size v' (n + m) (xs ++ news) → w.grownBy w' v.ownBlock → (v' = .slice none 0 0 ↔ v = .slice none 0 0 ∧ m = 0) → (∀ k, v'.ownBlock = some k → v.ownBlock = some k ∨ w.heap.size ≤ k) → wpList P ops Q rest (a.put o.dst v') w') : wpList P ops Q (o :: rest) a w :=
  wpList_plain hgd fun K hK => by
    obtain ⟨v', w', hr, h2, h3, h4, h5⟩ := run_append_fresh (P := P) w base t o.type e i z size bytes ht hi hz hsize hby hzs hsz v n xs hown ad m c news hl hnews h1 h63 hbytes hbase
    have hKK := hK _ _ (h v' w' h2 h3 h4 h5)
    unfold Oper.wp execOp
    simp only [ho, resolve, invoke, builtin, Sem.run_bind, Sem.run_pure, Result.andThen_ok, List.map_toArray, List.map_cons, List.map_nil, hs, hx, hr]
    exact hKK
end Go.Proofs.YtcefcglonooelaaGreatDoor

namespace Go.Proofs.YtcefcglonooelaaGreatDoor
open Go.RowKit

set_option linter.unusedVariables false

set_option maxRecDepth 100000


/-- Places from s up to k have none. -/
def cutMid (l : List Int) (s k : Nat) : List Int := (List.range 16).map fun j : Nat => if s ≤ j ∧ j < k then -1 else l.getD j 0

theorem cutMid_length (l : List Int) (s k : Nat) : (cutMid l s k).length = 16 := by simp [cutMid]

theorem cutMid_get (l : List Int) (s k j : Nat) (hj : j < 16) : (cutMid l s k).getD j 0 = if s ≤ j ∧ j < k then -1 else l.getD j 0 := by
  rw [List.getD_eq_getElem?_getD, cutMid, List.getElem?_map, List.getElem?_range hj]; rfl

theorem cutMid_start (l : List Int) (s : Nat) (hl : l.length = 16) : cutMid l s s = l :=
  ext16 _ _ (cutMid_length _ _ _) hl fun j hj => by rw [cutMid_get l s s j hj, if_neg (by omega)]

theorem cutMid_step (l : List Int) (s k : Nat) (h : s ≤ k) (hk : k < 16) : (cutMid l s k).set k (-1) = cutMid l s (k + 1) :=
  ext16 _ _ (by rw [List.length_set, cutMid_length]) (cutMid_length _ _ _) fun j hj => by
    rw [getD_set16 _ _ _ _ (by rw [cutMid_length]; exact hk), cutMid_get l s k j hj, cutMid_get l s (k + 1) j hj]
    by_cases e : k = j
    · rw [if_pos e, if_pos (by omega)]
    · rw [if_neg e]
      by_cases q : s ≤ j ∧ j < k
      · rw [if_pos q, if_pos (by omega)]
      · rw [if_neg q, if_neg (by omega)]

theorem cutAt_length (l : List Int) (n : Int) : (cutAt l n).length = 16 := by simp [cutAt]

theorem cutAt_get (l : List Int) (n : Int) (j : Nat) (hj : j < 16) : (cutAt l n).getD j 0 = if (j : Int) < n then l.getD j 0 else -1 := by
  rw [List.getD_eq_getElem?_getD, cutAt, List.getElem?_map, List.getElem?_range hj]; rfl

theorem cutMid_end (l : List Int) (n : Int) (s k : Nat) (hs : (s : Int) = max 0 n) (hk : 16 ≤ k) : cutMid l s k = cutAt l n :=
  ext16 _ _ (cutMid_length _ _ _) (cutAt_length _ _) fun j hj => by
    rw [cutMid_get l s k j hj, cutAt_get l n j hj]
    by_cases e : (j : Int) < n
    · rw [if_pos e, if_neg (by omega)]
    · rw [if_neg e, if_pos (by omega)]

theorem cutAt_range (rs : List (Int × Int × Int)) (h : mapOk rs = true) (n : Int) : ∀ j, j < 16 → -1 ≤ (cutAt (pages rs) n).getD j 0 ∧ (cutAt (pages rs) n).getD j 0 ≤ 23 := fun j hj => by
  rw [cutAt_get _ _ _ hj]
  by_cases e : (j : Int) < n
  · rw [if_pos e]; exact pages_range rs h j hj
  · rw [if_neg e]; omega

theorem l1Max_any (a b : Int) (w : World) :
    Calls Tryz.prog 163 #[.int .i64 a, .int .i64 b] w fun e w' => e = .returned (.int .i64 (max a b)) ∧ w' = w := by
  by_cases h : a > b
  · have h2 : b < a := h
    go_enter Tryz.func163, Tryz.ntmps163
    go_wp2
    go_ret
    exact ⟨ret_int (by show a = max a b; omega), rfl⟩
  · have h2 : ¬ b < a := h
    go_enter Tryz.func163, Tryz.ntmps163
    go_wp2
    go_ret
    exact ⟨ret_int (by show b = max a b; omega), rfl⟩

set_option maxHeartbeats 1600000 in
theorem l5Below_any (v : Value) (rs : List (Int × Int × Int)) (size : Int) (w : World) (hsz : -9223372036854775808 ≤ size ∧ size ≤ 9223372036854775807) (hok : mapOk rs = true) (r : ReadsR 3 runC w.heap.size w v rs) :
    Calls Tryz.prog 147 #[v, .int .i64 size] w fun e w' => ∃ v' : Value, e = .returned v' ∧ w'.ownsRow w.heap.size 129 3 v' (mapOf (cutAt (pages rs) size)).length ((mapOf (cutAt (pages rs) size)).flatMap runC) ∧ v' ≠ .slice none 0 0 ∧ Below w.heap.size w w' := by
  have HOK : Hid _ := hok
  clear hok
  go_enter Tryz.func147, Tryz.ntmps147
  go_wp2_with fail
  refine (l5Pages_any v rs _ HOK.out r).mono ?_
  rintro e w1 ⟨g, cp, rfl, own, b1⟩
  have bs := b1.size
  go_wp2_with fail
  refine (l1Max_any 0 size _).mono ?_
  rintro e w2 ⟨rfl, rfl⟩
  obtain ⟨S, hS⟩ : ∃ S : Nat, max 0 size = S := ⟨(max 0 size).toNat, by omega⟩
  rw [hS]
  have HS : Hid ((S : Int) = max 0 size) := hS.symm
  have hSb : (S : Int) ≤ 9223372036854775807 := by omega
  rw [← cutMid_start (pages rs) S (pages_length rs)] at own
  clear hS
  go_wp2_with fail
  go_loopw [6] (fun i wr => ∃ k : Nat, S ≤ k ∧ (k ≤ 16 ∨ k = S) ∧ i = .int .i64 k ∧ wr.ownsRow w.heap.size 2 1 (.slice (some ⟨g, 0, none⟩) 16 cp) 16 ((cutMid (pages rs) S k).map (Value.int .i64)) ∧ Below w.heap.size w wr) (fun i _ => 16 - (intOf i).toNat)
  case atStart => exact ⟨S, Nat.le_refl _, .inr rfl, rfl, own, b1⟩
  case round =>
    clear own b1
    obtain ⟨k, hSk, hk, rfl, own, hb⟩ := hrel
    by_cases hlt : k < 16
    · have hcl := cutMid_length (pages rs) S k
      have c0 := own.cellAt k (by omega)
      have c1 := own.frozenAt k
      rw [List.getElem?_map, List.getElem?_eq_getElem (show k < (cutMid (pages rs) S k).length by omega)] at c0
      simp only [Option.map_some] at c0
      have hst := (own.stored k (.int .i64 (-1))).1
      rw [← List.map_set, cutMid_step (pages rs) S k hSk hlt] at hst
      have hbf : Below w.heap.size w (wr.setCell ⟨g, k, none⟩ (.int .i64 (-1))) := bw_set (p := ⟨g, k, none⟩) hb (own.lt g rfl).1 _
      have HO : Hid _ := And.intro hst hbf
      generalize (cutMid (pages rs) S k)[k] = y at c0
      clear own hst hbf hcl
      have h0 : (0 : Int) ≤ (k : Int) := by omega
      have h1 : (k : Int) < 16 := by omega
      go_wp2_with fail
      go_roundw
      case rel => exact ⟨k + 1, by omega, by omega, by go_num, HO.out.1, HO.out.2⟩
      case measure => simp [intOf]; omega
    · have h1 : ¬ (k : Int) < 16 := by omega
      rw [cutMid_end (pages rs) size S k HS.out (by omega)] at own
      have HRD : Hid _ := Reads.of_own own
      have hbs := hb.size
      clear own
      go_wp2_with fail
      refine (l5Map_any _ (cutAt (pages rs) size) _ (cutAt_length _ _) (cutAt_range rs HOK.out size) HRD.out).mono ?_
      rintro e w5 ⟨v', rfl, own5, hnn, b5⟩
      have HF : Hid (w5.ownsRow w.heap.size 129 3 v' (mapOf (cutAt (pages rs) size)).length ((mapOf (cutAt (pages rs) size)).flatMap runC)) := owns_mono own5 hbs
      have hb5 := bw_call hb b5
      clear own5 b5
      go_wp2_with fail
      go_ret
      exact ⟨v', rfl, HF.out, hnn, hb5⟩

theorem filter_take (l : List Int) (k : Nat) (h : k < l.length) : (l.take (k + 1)).filter (fun p => decide (0 ≤ p)) = (l.take k).filter (fun p => decide (0 ≤ p)) ++ (if 0 ≤ l[k] then [l[k]] else []) := by
  rw [List.take_succ_eq_append_getElem h, List.filter_append]
  by_cases e : 0 ≤ l[k] <;> simp [e]

set_option maxHeartbeats 1600000 in
theorem l5Of_any (v : Value) (rs : List (Int × Int × Int)) (w : World) (hok : mapOk rs = true) (r : ReadsR 3 runC w.heap.size w v rs) :
    Calls Tryz.prog 59 #[v] w fun e w' => ∃ v' : Value, e = .returned v' ∧ w'.ownsRow w.heap.size 2 1 v' ((pages rs).filter (fun p => decide (0 ≤ p))).length (((pages rs).filter (fun p => decide (0 ≤ p))).map (Value.int .i64)) ∧ v' ≠ .slice none 0 0 ∧ Below w.heap.size w w' := by
  obtain ⟨i0, hi, hz0, hz1, hz2⟩ := info_parts Tryz.infoI64
  have HOK : Hid _ := hok
  have own0 : (w.alloc (.cells #[] 2)).ownsRow w.heap.size 2 1 (.slice (some ⟨w.heap.size, 0, none⟩) 0 0) 0 [] := World.ownsRow_lit w #[] 0 (Nat.le_refl _) (Nat.zero_le _) rfl
  have d0 : Below w.heap.size w (w.alloc (.cells #[] 2)) := bw_alloc (Below.refl _ _)
  have r0 := (r.below d0).mono d0.size
  have hW : w.heap.size < (w.alloc (.cells #[] 2)).heap.size := by simp
  clear hok r
  go_enter Tryz.func59, Tryz.ntmps59
  go_wp2_with fail
  generalize w.alloc (.cells #[] 2) = W0 at *
  refine (l5Pages_any v rs _ HOK.out r0).mono ?_
  rintro e w1 ⟨g, cp, rfl, own, b1⟩
  have own1 := owns_below own0 b1
  have d1 := bw_call d0 b1
  have hg := own.lt g rfl
  have hpl := pages_length rs
  have HCELL : Hid (∀ j, j < 16 → w1.cell? ⟨g, j, none⟩ = some (.int .i64 ((pages rs).getD j 0))) := fun j hj => by
    have c0 := own.cellAt j (by omega)
    rw [List.getElem?_map, List.getElem?_eq_getElem (show j < (pages rs).length by omega)] at c0
    rw [c0, List.getD_eq_getElem?_getD, List.getElem?_eq_getElem (show j < (pages rs).length by omega)]
    rfl
  obtain ⟨L, hL⟩ : ∃ L, pages rs = L := ⟨_, rfl⟩
  rw [hL] at HCELL hpl
  have HLL : Hid (pages rs = L) := hL
  have HPL : Hid (L.length = 16) := hpl
  clear hL
  clear own0 d0 b1 own r0 hpl
  go_wp2_with fail
  go_loopw [3, 5] (fun q i wr => ∃ (k b cq : Nat) (xs : List Int), k ≤ 16 ∧ i = .int .i64 k ∧ xs = (L.take k).filter (fun p => decide (0 ≤ p)) ∧ q = .slice (some ⟨b, 0, none⟩) xs.length cq ∧ b ≠ g ∧ wr.ownsRow w.heap.size 2 1 (.slice (some ⟨b, 0, none⟩) xs.length cq) xs.length (xs.map (Value.int .i64)) ∧ (∀ j, j < 16 → wr.cell? ⟨g, j, none⟩ = some (.int .i64 (L.getD j 0))) ∧ g < wr.heap.size ∧ Below w.heap.size w wr) (fun _ i _ => 16 - (intOf i).toNat)
  case atStart => exact ⟨0, w.heap.size, 0, [], Nat.zero_le _, rfl, by simp, rfl, by omega, own1, HCELL.out, hg.2, d1⟩
  case round =>
    clear own1 d1 HCELL hg
    obtain ⟨k, b, cq, xs, hk, rfl, hxs, rfl, hbg, own, hcell, hgs, hb⟩ := hrel
    have HXS : Hid _ := hxs
    by_cases hlt : k < 16
    · have c0 := hcell k hlt
      have HCE : Hid _ := hcell
      have hxl : xs.length ≤ 16 := by
        rw [hxs]
        have h1 : ((L.take k).filter (fun p => decide (0 ≤ p))).length ≤ (L.take k).length := List.length_filter_le _ _
        rw [List.length_take] at h1
        omega
      have hft := filter_take L k (by have := HPL.out; omega)
      rw [← hxs] at hft
      have hgd : L.getD k 0 = L[k]'(by have := HPL.out; omega) := by rw [List.getD_eq_getElem?_getD, List.getElem?_eq_getElem (by have := HPL.out; omega)]; rfl
      rw [← hgd] at hft
      have HFT : Hid _ := hft
      clear hft hgd hcell hxs
      generalize L.getD k 0 = z at c0 HFT
      have h0 : (0 : Int) ≤ (k : Int) := by omega
      have h1 : (k : Int) < 16 := by omega
      by_cases hz : 0 ≤ z
      · have HN : Hid (xs ++ [z] = (L.take (k + 1)).filter (fun p => decide (0 ≤ p))) := by rw [Hid, HFT.out, if_pos hz]
        have hgne : ¬ g = wr.heap.size := by omega
        go_wp2_with (at_builtin; refine wpList_append_fresh rfl _ _ 37 rfl w.heap.size 2 i0 (.int .i64 0) 1 8 Tryz.underlying37 hi hz0 hz1 hz2 rfl (by decide) _ _ _ rfl (own.alloc _) ⟨wr.heap.size, 0, none⟩ 1 1 [.int .i64 z] rfl rfl ?c1 ?c2 ?c3 ?c4 ?c5 ?_)
        case c1 => exact new_one _ _ _
        case c2 => intro u hu; simp at hu; subst hu; rfl
        case c3 => unfold maxLen; omega
        case c4 => omega
        case c5 => have := hb.size; simp; omega
        intro v' w3 hown' hgrow hnil hfr
        have own3 : w3.ownsRow w.heap.size 2 1 v' (xs ++ [z]).length ((xs ++ [z]).map (Value.int .i64)) := by simpa using hown'
        obtain ⟨b', cq', hv'⟩ : ∃ b' cq', v' = .slice (some ⟨b', 0, none⟩) (xs ++ [z]).length cq' := by
          rcases own3.2 with ⟨e, _⟩ | ⟨b', cq', _, e, _⟩
          · exact absurd e hnil
          · exact ⟨b', cq', e⟩
        have hbg' : b' ≠ g := fun e => by
          rcases hfr b' (by rw [hv']; rfl) with h | h
          · simp [Value.ownBlock] at h; omega
          · first | omega | (simp at h; omega)
        have hblk : ∀ j, j < 16 → w3.cell? ⟨g, j, none⟩ = some (.int .i64 (L.getD j 0)) := fun j hj => by
          refine hgrow.cell (a := ⟨g, j, none⟩) ?_ (by simp [Value.ownBlock]; omega)
          exact (Below.cell (bw_alloc (Below.refl _ _)) (p := ⟨g, j, none⟩) hgs).trans (HCE.out j hj)
        have hb3 : Below w.heap.size w w3 := (bw_alloc hb).grown hgrow (by have := hb.size; simp; omega) (fun q hq => (own.lt q (by simpa [Value.ownBlock] using hq)).1)
        have hgs3 : g < w3.heap.size := by have := hgrow.size; simp at this; omega
        subst hv'
        have HO : Hid _ := And.intro own3 (And.intro hblk (And.intro hgs3 hb3))
        clear hown' hgrow hnil hfr own3 hblk hgs3 hb3 own
        go_wp2_with fail
        go_roundw
        case rel => exact ⟨k + 1, b', cq', xs ++ [z], by omega, by go_num, HN.out, by simp, hbg', HO.out.1, HO.out.2.1, HO.out.2.2.1, HO.out.2.2.2⟩
        case measure => simp [intOf]; omega
      · have HN : Hid (xs = (L.take (k + 1)).filter (fun p => decide (0 ≤ p))) := by rw [Hid, HFT.out, if_neg hz, List.append_nil]
        go_wp2_with fail
        go_roundw
        case rel => exact ⟨k + 1, b, cq, xs, by omega, by go_num, HN.out, rfl, hbg, own, HCE.out, hgs, hb⟩
        case measure => simp [intOf]; omega
    · obtain rfl : k = 16 := by omega
      have hfin : L.take 16 = L := List.take_of_length_le (by rw [HPL.out]; exact Nat.le_refl _)
      rw [hfin] at hxs
      have HXL : Hid (xs = L.filter (fun p => decide (0 ≤ p))) := hxs
      clear hxs hcell HXS hfin
      go_wp2_with fail
      go_ret
      rw [HLL.out, ← HXL.out]
      exact ⟨_, rfl, own, by simp, hb⟩
end Go.Proofs.YtcefcglonooelaaGreatDoor

namespace Go.Proofs.YtcefcglonooelaaGreatDoor
open Go.RowKit

set_option linter.unusedVariables false

set_option maxRecDepth 100000


/-! ### Names in their order -/
def ltB (a b : ByteArray) : Bool := Op.bytesLess a.toList b.toList

theorem less_irrefl (x : List UInt8) : Op.bytesLess x x = false := by
  induction x with
  | nil => rfl
  | cons a t ih => simp [Op.bytesLess, ih]

theorem less_trans : ∀ (x y z : List UInt8), Op.bytesLess x y = true → Op.bytesLess y z = true → Op.bytesLess x z = true := by
  intro x
  induction x with
  | nil =>
    intro y z h1 h2
    cases z with
    | nil => cases y <;> simp [Op.bytesLess] at h2
    | cons c w => rfl
  | cons a t ih =>
    intro y z h1 h2
    cases y with
    | nil => simp [Op.bytesLess] at h1
    | cons b u =>
      cases z with
      | nil => simp [Op.bytesLess] at h2
      | cons c w =>
        simp only [Op.bytesLess, Bool.or_eq_true, decide_eq_true_eq, Bool.and_eq_true, beq_iff_eq] at h1 h2 ⊢
        rcases h1 with h1 | ⟨rfl, h1⟩
        · rcases h2 with h2 | ⟨rfl, h2⟩
          · exact .inl (UInt8.lt_trans h1 h2)
          · exact .inl h1
        · rcases h2 with h2 | ⟨rfl, h2⟩
          · exact .inl h2
          · exact .inr ⟨rfl, ih u w h1 h2⟩

theorem less_total : ∀ (x y : List UInt8), Op.bytesLess x y = false → Op.bytesLess y x = false → x = y := by
  intro x
  induction x with
  | nil =>
    intro y h1 h2
    cases y with
    | nil => rfl
    | cons b u => simp [Op.bytesLess] at h1
  | cons a t ih =>
    intro y h1 h2
    cases y with
    | nil => simp [Op.bytesLess] at h2
    | cons b u =>
      simp only [Op.bytesLess, Bool.or_eq_false_iff, decide_eq_false_iff_not, Bool.and_eq_false_iff, beq_eq_false_iff_ne] at h1 h2
      have hab : a = b := by
        rcases UInt8.lt_or_eq_of_le (UInt8.not_lt.1 h1.1) with h | h
        · exact absurd h h2.1
        · exact h.symm
      subst hab
      rw [ih u (h1.2.resolve_left (fun h => h rfl)) (h2.2.resolve_left (fun h => h rfl))]

theorem ltB_irrefl (a : ByteArray) : ltB a a = false := less_irrefl _

theorem ltB_trans {a b c : ByteArray} (h1 : ltB a b = true) (h2 : ltB b c = true) : ltB a c = true := less_trans _ _ _ h1 h2

theorem ltB_asymm {a b : ByteArray} (h : ltB a b = true) : ltB b a = false := by
  rw [Bool.eq_false_iff]
  intro h2
  have := ltB_trans h h2
  rw [ltB_irrefl] at this
  cases this

theorem toList_inj {a b : ByteArray} (h : a.toList = b.toList) : a = b := by
  apply ext_list
  rwa [ByteArray.toList_eq, ByteArray.toList_eq] at h

theorem ltB_total {a b : ByteArray} (h1 : ltB a b = false) (h2 : ltB b a = false) : a = b := toList_inj (less_total _ _ h1 h2)

/-- What the laws ask: not below, and not the same. -/
theorem ltB_gt (a b : ByteArray) : ltB a b = !(ltB b a || (b.toList == a.toList)) := by
  cases h : ltB a b
  · cases h2 : ltB b a
    · rw [ltB_total h h2]; simp
    · simp
  · rw [ltB_asymm h]
    have hne : ¬ b.toList = a.toList := fun e => by
      rw [toList_inj e, ltB_irrefl] at h
      cases h
    simp [hne]

/-! ### Books, counted -/
structure Pb where
  nm : ByteArray
  sz : Int
  rs : List (Int × Int × Int)
  fx : Bool
  ep : Int

def Pb.ok (b : Pb) : Bool := bookOk b.nm b.sz b.rs b.ep

/-- How many places of a book have that page. -/
def Pb.cnt (b : Pb) (p : Int) : Int := ((pages b.rs).count p : Int)

def cntAll (bs : List Pb) (p : Int) : Int := bs.foldr (fun b n => b.cnt p + n) 0

theorem cnt_nonneg (b : Pb) (p : Int) : 0 ≤ b.cnt p := by unfold Pb.cnt; omega

theorem cnt_le (b : Pb) (p : Int) : b.cnt p ≤ 16 := by
  unfold Pb.cnt
  have := List.count_le_length (a := p) (l := pages b.rs)
  rw [pages_length] at this
  omega

theorem cntAll_cons (b : Pb) (bs : List Pb) (p : Int) : cntAll (b :: bs) p = b.cnt p + cntAll bs p := rfl

theorem cntAll_append (xs ys : List Pb) (p : Int) : cntAll (xs ++ ys) p = cntAll xs p + cntAll ys p := by
  induction xs with
  | nil => simp [cntAll]
  | cons b t ih => rw [List.cons_append, cntAll_cons, cntAll_cons, ih]; omega

theorem cntAll_nonneg (bs : List Pb) (p : Int) : 0 ≤ cntAll bs p := by
  induction bs with
  | nil => simp [cntAll]
  | cons b t ih => rw [cntAll_cons]; have := cnt_nonneg b p; omega

theorem cntAll_le (bs : List Pb) (p : Int) : cntAll bs p ≤ 16 * bs.length := by
  induction bs with
  | nil => simp [cntAll]
  | cons b t ih => rw [cntAll_cons, List.length_cons]; have := cnt_le b p; omega

theorem cntAll_split (bs : List Pb) (i : Nat) (h : i < bs.length) (p : Int) : cntAll bs p = cntAll (bs.take i) p + bs[i].cnt p + cntAll (bs.drop (i + 1)) p := by
  have e : bs = bs.take i ++ (bs[i] :: bs.drop (i + 1)) := by rw [← List.drop_eq_getElem_cons h, List.take_append_drop]
  have q := congrArg (fun l => cntAll l p) e
  simp only [cntAll_append, cntAll_cons] at q
  omega

theorem cntAll_at (bs : List Pb) (i : Nat) (h : i < bs.length) (p : Int) : bs[i].cnt p ≤ cntAll bs p := by
  have := cntAll_split bs i h p
  have := cntAll_nonneg (bs.take i) p
  have := cntAll_nonneg (bs.drop (i + 1)) p
  omega

theorem cntAll_set (bs : List Pb) (i : Nat) (h : i < bs.length) (b : Pb) (p : Int) : cntAll (bs.set i b) p = cntAll bs p - bs[i].cnt p + b.cnt p := by
  have h' : i < (bs.set i b).length := by simpa using h
  have e1 := cntAll_split bs i h p
  have e2 := cntAll_split (bs.set i b) i h' p
  rw [List.take_set_of_le (Nat.le_refl _), List.getElem_set_self, List.drop_set_of_lt (show i < i + 1 by omega)] at e2
  omega

theorem cntAll_erase (bs : List Pb) (i : Nat) (h : i < bs.length) (p : Int) : cntAll (bs.take i ++ bs.drop (i + 1)) p = cntAll bs p - bs[i].cnt p := by
  rw [cntAll_append]
  have := cntAll_split bs i h p
  omega

theorem cntAll_insert (bs : List Pb) (k : Nat) (b : Pb) (p : Int) : cntAll (bs.take k ++ [b] ++ bs.drop k) p = cntAll bs p + b.cnt p := by
  rw [cntAll_append, cntAll_append, cntAll_cons]
  have e : cntAll bs p = cntAll (bs.take k) p + cntAll (bs.drop k) p := by rw [← cntAll_append, List.take_append_drop]
  have : cntAll ([] : List Pb) p = 0 := rfl
  omega

/-! ### A pool, its pages dropped and shared -/
/-- Rows of one length; values in range; what nobody has is 0. -/
structure Cells (n : Nat) (cs ps : List Int) : Prop where
  c : cs.length = n
  p : ps.length = n
  val : ∀ k, k < n → 0 ≤ ps.getD k 0 ∧ ps.getD k 0 ≤ 999 ∧ (cs.getD k 0 = 0 → ps.getD k 0 = 0)

def dropOne (s : List Int × List Int) (p : Int) : List Int × List Int :=
  if 0 ≤ p then (s.1.set p.toNat (s.1.getD p.toNat 0 - 1), if s.1.getD p.toNat 0 = 1 then s.2.set p.toNat 0 else s.2) else s

def dropAll (s : List Int × List Int) (l : List Int) : List Int × List Int := l.foldl dropOne s

def shareAll (cs : List Int) (l : List Int) : List Int := l.foldl (fun cs p => cs.set p.toNat (cs.getD p.toNat 0 + 1)) cs

theorem dropOne_ok {n : Nat} {cs ps : List Int} (h : Cells n cs ps) (k : Nat) (hk : k < n) (h1 : 1 ≤ cs.getD k 0) : Cells n (dropOne (cs, ps) k).1 (dropOne (cs, ps) k).2 ∧ ∀ j, (dropOne (cs, ps) k).1.getD j 0 = if k = j then cs.getD j 0 - 1 else cs.getD j 0 := by
  have hc := h.c
  have hp := h.p
  unfold dropOne
  rw [if_pos (by omega : (0 : Int) ≤ (k : Int)), Int.toNat_natCast]
  simp only
  have hg : ∀ j, (cs.set k (cs.getD k 0 - 1)).getD j 0 = if k = j then cs.getD j 0 - 1 else cs.getD j 0 := fun j => by
    rw [getD_set cs k j _ (by omega)]
    split
    · rename_i e; rw [e]
    · rfl
  refine ⟨⟨by simpa using hc, by split <;> simpa using hp, fun j hj => ?_⟩, hg⟩
  have hv := h.val j hj
  rw [hg]
  by_cases e : k = j
  · subst e
    by_cases e1 : cs.getD k 0 = 1
    · rw [if_pos e1, getD_set ps k k _ (by omega), if_pos rfl]
      exact ⟨by omega, by omega, fun _ => rfl⟩
    · rw [if_neg e1, if_pos rfl]
      exact ⟨hv.1, hv.2.1, fun q => by omega⟩
  · rw [if_neg e]
    by_cases e1 : cs.getD k 0 = 1
    · rw [if_pos e1, getD_set ps k j _ (by omega), if_neg e]
      exact hv
    · rw [if_neg e1]
      exact hv

theorem dropAll_ok {n : Nat} (l : List Int) : ∀ {cs ps : List Int}, Cells n cs ps → (∀ p ∈ l, p < n) → (∀ k, k < n → (l.count (k : Int) : Int) ≤ cs.getD k 0) →
    Cells n (dropAll (cs, ps) l).1 (dropAll (cs, ps) l).2 ∧ ∀ k, k < n → (dropAll (cs, ps) l).1.getD k 0 = cs.getD k 0 - (l.count (k : Int) : Int) := by
  induction l with
  | nil => intro cs ps h _ _; exact ⟨h, fun k hk => by simp [dropAll]⟩
  | cons p t ih =>
    intro cs ps h hp hc
    have hpt : ∀ q ∈ t, q < n := fun q hq => hp q (List.mem_cons_of_mem _ hq)
    by_cases h0 : 0 ≤ p
    · obtain ⟨m, rfl⟩ := Int.eq_ofNat_of_zero_le h0
      have hm : m < n := by have := hp (m : Int) (List.mem_cons_self ..); omega
      have h1 : 1 ≤ cs.getD m 0 := by
        have := hc m hm
        rw [List.count_cons_self] at this
        omega
      obtain ⟨c1, g1⟩ := dropOne_ok h m hm h1
      have e : dropAll (cs, ps) ((m : Int) :: t) = dropAll ((dropOne (cs, ps) m).1, (dropOne (cs, ps) m).2) t := rfl
      have hct : ∀ k, k < n → (t.count (k : Int) : Int) ≤ (dropOne (cs, ps) m).1.getD k 0 := fun k hk => by
        have := hc k hk
        rw [List.count_cons] at this
        rw [g1]
        by_cases ek : m = k
        · subst ek; rw [if_pos rfl]; rw [beq_self_eq_true, if_pos rfl] at this; omega
        · rw [if_neg ek]
          have hne : ((m : Int) == (k : Int)) = false := by rw [beq_eq_false_iff_ne]; omega
          rw [hne, if_neg (by decide)] at this
          omega
      obtain ⟨c2, g2⟩ := ih c1 hpt hct
      rw [e]
      refine ⟨c2, fun k hk => ?_⟩
      rw [g2 k hk, g1, List.count_cons]
      by_cases ek : m = k
      · subst ek; rw [if_pos rfl, beq_self_eq_true, if_pos rfl]; omega
      · rw [if_neg ek]
        have hne : ((m : Int) == (k : Int)) = false := by rw [beq_eq_false_iff_ne]; omega
        rw [hne, if_neg (by decide)]
        omega
    · have e : dropAll (cs, ps) (p :: t) = dropAll (cs, ps) t := by
        show dropAll (dropOne (cs, ps) p) t = _
        rw [dropOne, if_neg h0]
      have hcp : ∀ k : Nat, (p :: t).count (k : Int) = t.count (k : Int) := fun k => by
        rw [List.count_cons]
        have hne : (p == (k : Int)) = false := by rw [beq_eq_false_iff_ne]; omega
        rw [hne, if_neg (by decide)]
        rfl
      rw [e]
      obtain ⟨c2, g2⟩ := ih h hpt (fun k hk => by rw [← hcp]; exact hc k hk)
      exact ⟨c2, fun k hk => by rw [g2 k hk, hcp]⟩

theorem shareAll_ok {n : Nat} (l : List Int) : ∀ {cs ps : List Int}, Cells n cs ps → (∀ p ∈ l, 0 ≤ p ∧ p < n) → (∀ p ∈ l, 1 ≤ cs.getD p.toNat 0) →
    Cells n (shareAll cs l) ps ∧ ∀ k, k < n → (shareAll cs l).getD k 0 = cs.getD k 0 + (l.count (k : Int) : Int) := by
  induction l with
  | nil => intro cs ps h _ _; exact ⟨h, fun k hk => by simp [shareAll]⟩
  | cons p t ih =>
    intro cs ps h hp hc
    obtain ⟨h0, hm⟩ := hp p (List.mem_cons_self ..)
    obtain ⟨m, rfl⟩ := Int.eq_ofNat_of_zero_le h0
    have h1 := hc (m : Int) (List.mem_cons_self ..)
    rw [Int.toNat_natCast] at h1
    have hc' := h.c
    have g1 : ∀ j, (cs.set m (cs.getD m 0 + 1)).getD j 0 = if m = j then cs.getD j 0 + 1 else cs.getD j 0 := fun j => by
      rw [getD_set cs m j _ (by omega)]
      split
      · rename_i e; rw [e]
      · rfl
    have c1 : Cells n (cs.set m (cs.getD m 0 + 1)) ps := ⟨by simpa using hc', h.p, fun k hk => by
      have hv := h.val k hk
      refine ⟨hv.1, hv.2.1, fun q => hv.2.2 ?_⟩
      rw [g1] at q
      by_cases e : m = k
      · subst e; rw [if_pos rfl] at q; omega
      · rwa [if_neg e] at q⟩
    have e : shareAll cs ((m : Int) :: t) = shareAll (cs.set m (cs.getD m 0 + 1)) t := rfl
    obtain ⟨c2, g2⟩ := ih c1 (fun q hq => hp q (List.mem_cons_of_mem _ hq)) (fun q hq => by
      have := hc q (List.mem_cons_of_mem _ hq)
      rw [g1]
      split <;> omega)
    rw [e]
    refine ⟨c2, fun k hk => ?_⟩
    rw [g2 k hk, g1, List.count_cons]
    by_cases ek : m = k
    · subst ek; rw [if_pos rfl, beq_self_eq_true, if_pos rfl]; omega
    · rw [if_neg ek]
      have hne : ((m : Int) == (k : Int)) = false := by rw [beq_eq_false_iff_ne]; omega
      rw [hne, if_neg (by decide)]
      omega
end Go.Proofs.YtcefcglonooelaaGreatDoor

