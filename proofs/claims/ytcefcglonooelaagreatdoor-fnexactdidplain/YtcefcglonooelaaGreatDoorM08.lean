/-
  Contracts and plain laws, one chapter behind the other.
-/
import Derived.Deep.RegionLaw
import Derived.Laws.OwnMore
import Derived.OwnWalk
import Derived.Deep.DeepCutAuto
import Derived.Test.YtcefcglonooelaaGreatDoorM01
import Derived.Test.YtcefcglonooelaaGreatDoorM02
import Derived.Test.YtcefcglonooelaaGreatDoorM03
import Derived.Test.YtcefcglonooelaaGreatDoorM04
import Derived.Test.YtcefcglonooelaaGreatDoorM05
import Derived.Test.YtcefcglonooelaaGreatDoorM07
namespace Go.Proofs.YtcefcglonooelaaGreatDoor
open Go.RowKit

set_option linter.unusedVariables false

set_option maxRecDepth 100000


/-- A plain, all of it but where its values lie. -/
structure Pv where
  nm : ByteArray
  sz : Int
  vs : List Int
  fx : Bool
  ep : Int

def Pk.pv (b : Pk) : Pv := ⟨b.nm, b.sz, b.rs, b.fx, b.ep⟩

def valuesB (vs : List Int) : Bool := vs.all (fun v => decide (0 ≤ v) && decide (v ≤ 999))

def plainOk (nm : ByteArray) (sz : Int) (vs : List Int) (ep : Int) : Bool :=
  valuesB vs && Nums.nameB nm.data.toList && (decide (1 ≤ sz) && decide (sz ≤ 16)) && (decide (0 ≤ ep) && decide (ep ≤ 1000)) && decide ((vs.length : Int) = sz)

def Pv.ok (p : Pv) : Bool := plainOk p.nm p.sz p.vs p.ep

def plainsOk (bs : List Pv) : Bool := decide (bs.length ≤ 6) && bs.all Pv.ok && sortedB (bs.map Pv.nm)

theorem plains_no_many {bs : List Pv} (h : 6 < bs.length) : plainsOk bs = false := by
  have h6 : ¬ bs.length ≤ 6 := by omega
  simp [plainsOk, h6]

theorem plains_no_one {bs : List Pv} (i : Nat) (hi : i < bs.length) (h : bs[i].ok = false) : plainsOk bs = false := by
  have : bs.all Pv.ok = false := by rw [List.all_eq_false]; exact ⟨bs[i], List.getElem_mem hi, by rw [h]; decide⟩
  simp [plainsOk, this]

theorem plains_no_order {bs : List Pv} (i : Nat) (hi : i + 1 < bs.length) (h : ltB bs[i].nm bs[i + 1].nm = false) : plainsOk bs = false := by
  have : sortedB (bs.map Pv.nm) = false := sorted_not _ i (by simpa using hi) (by simpa using h)
  simp [plainsOk, this]

theorem plains_by {bs : List Pv} (h3 : ∀ (i : Nat) (hi : i < bs.length), bs[i].ok = true) (h4 : ∀ (i : Nat) (hi : i + 1 < bs.length), ltB (bs[i]'(by omega)).nm bs[i + 1].nm = true) : plainsOk bs = decide (bs.length ≤ 6) := by
  have h5 : sortedB (bs.map Pv.nm) = true := sorted_adj _ (fun j h1 => by simpa using h4 j (by simpa using h1))
  have h6 : bs.all Pv.ok = true := List.all_eq_true.2 (fun b hb => by obtain ⟨j, hj, rfl⟩ := List.getElem_of_mem hb; exact h3 j hj)
  simp [plainsOk, h5, h6]

theorem values_no {vs : List Int} (i : Nat) (hi : i < vs.length) (h : (decide (0 ≤ vs[i]) && decide (vs[i] ≤ 999)) = false) : valuesB vs = false := by
  rw [valuesB, List.all_eq_false]
  exact ⟨vs[i], List.getElem_mem hi, by rw [h]; decide⟩

theorem values_yes {vs : List Int} (h : ∀ (i : Nat) (hi : i < vs.length), (decide (0 ≤ vs[i]) && decide (vs[i] ≤ 999)) = true) : valuesB vs = true := by
  rw [valuesB, List.all_eq_true]
  intro x hx
  obtain ⟨j, hj, rfl⟩ := List.getElem_of_mem hx
  exact h j hj

/-- The same as books without pages. -/
def Pv.pb (p : Pv) : Pb := ⟨p.nm, p.sz, [], p.fx, p.ep⟩

def rightVs (p : Pv) : Bool := decide ((p.vs.length : Int) = p.sz) && valuesB p.vs

theorem ok_parts (p : Pv) : p.ok = (p.pb.ok && rightVs p) := by
  have e : p.pb.ok = (Nums.nameB p.nm.data.toList && (decide (1 ≤ p.sz) && decide (p.sz ≤ 16)) && (decide (0 ≤ p.ep) && decide (p.ep ≤ 1000))) := by
    show bookOk p.nm p.sz [] p.ep = _
    rw [bookOk, show mapOk [] = true from rfl, endsBy_nil, Bool.and_true, Bool.and_true]
  rw [e, Pv.ok, plainOk, rightVs]
  generalize (decide (1 ≤ p.sz) && decide (p.sz ≤ 16)) = x1
  generalize (decide (0 ≤ p.ep) && decide (p.ep ≤ 1000)) = x2
  generalize Nums.nameB p.nm.data.toList = x3
  generalize valuesB p.vs = x4
  generalize decide ((p.vs.length : Int) = p.sz) = x5
  cases x1 <;> cases x2 <;> cases x3 <;> cases x4 <;> cases x5 <;> rfl

theorem plainsOk_by (bs : List Pv) : plainsOk bs = (decide (bs.length ≤ 6) && ((bs.map Pv.pb).all Pb.ok && sortedB ((bs.map Pv.pb).map Pb.nm)) && bs.all rightVs) := by
  have e1 : bs.all Pv.ok = ((bs.map Pv.pb).all Pb.ok && bs.all rightVs) := by
    induction bs with
    | nil => rfl
    | cons b t ih =>
      simp only [List.all_cons, List.map_cons, ih, ok_parts]
      cases b.pb.ok <;> cases rightVs b <;> cases ((t.map Pv.pb).all Pb.ok) <;> cases (t.all rightVs) <;> rfl
  have e2 : (bs.map Pv.pb).map Pb.nm = bs.map Pv.nm := by rw [List.map_map]; rfl
  rw [plainsOk, e1, e2]
  generalize decide (bs.length ≤ 6) = x1
  generalize (bs.map Pv.pb).all Pb.ok = x2
  generalize bs.all rightVs = x3
  generalize sortedB (bs.map Pv.nm) = x4
  cases x1 <;> cases x2 <;> cases x3 <;> cases x4 <;> rfl

/-- One cell of each value. -/
theorem one_cellK {B : Nat} {w : World} {o : Option Addr} {vs : List Int} (hc : ∀ i x, vs[i]? = some x → ∃ g off, o = some ⟨g, off, none⟩ ∧ g < B ∧ ∀ j u, (intC x)[j]? = some u → w.cell? ⟨g, off + i * 1 + j, none⟩ = some u) (i : Nat) (hi : i < vs.length) :
    ∃ g off, o = some ⟨g, off, none⟩ ∧ g < B ∧ w.cell? ⟨g, off + i, none⟩ = some (.int .i64 vs[i]) := by
  obtain ⟨g, off, e, hg, hx⟩ := hc i vs[i] (List.getElem?_eq_getElem hi)
  exact ⟨g, off, e, hg, by simpa using hx 0 _ rfl⟩
end Go.Proofs.YtcefcglonooelaaGreatDoor

namespace Go.Proofs.YtcefcglonooelaaGreatDoor
set_option linter.unusedVariables false

set_option maxRecDepth 100000


def Pv.zero : Pv := ⟨ByteArray.empty, 0, [], false, 0⟩

def plainAt (l : List Pv) (i : Nat) : Pv := l.getD i Pv.zero

def putV (l : List Pv) (p : Pv) : List Pv := l.take (insertAt (l.map Pv.pb) p.nm) ++ [p] ++ l.drop (insertAt (l.map Pv.pb) p.nm)

def doOne (l : List Pv) (o : Oq) (i : Nat) (p : Pv) : List Pv × (Int × Int) :=
  if o.k = 9 then (l, (0, p.vs.getD o.at_.toNat 0))
  else if o.k = 8 then (l.set i { p with ep := p.ep + 1 }, (0, p.ep + 1))
  else if o.k = 7 then (l.set i { p with sz := o.va, vs := (p.vs ++ List.replicate 16 0).take o.va.toNat }, (0, 0))
  else if o.k = 3 then (l.set i { p with vs := p.vs.set o.at_.toNat 0 }, (0, 0))
  else (l.set i { p with vs := p.vs.set o.at_.toNat o.va }, (0, 0))

/-- What is done to right plains; told: what the shelf told. -/
def doPlain (l : List Pv) (o : Oq) (told : Int) : List Pv × (Int × Int) :=
  if opOk o = false then (l, (1, 0))
  else if refused (l.map Pv.pb) o ≠ 0 then (l, (refused (l.map Pv.pb) o, 0))
  else if o.k = 2 ∧ told = 9 then (l, (9, 0))
  else if o.k = 1 then (putV l ⟨o.nm, o.va, List.replicate o.va.toNat 0, false, 0⟩, (0, 0))
  else if o.k = 6 then (l.take (findP (l.map Pv.pb) o.nm).toNat ++ l.drop ((findP (l.map Pv.pb) o.nm).toNat + 1), (0, 0))
  else if kOther o.k = true then (putV l ⟨o.ot, (plainAt l (findP (l.map Pv.pb) o.nm).toNat).sz, (plainAt l (findP (l.map Pv.pb) o.nm).toNat).vs, decide (o.k = 4), 0⟩, (0, 0))
  else doOne l o (findP (l.map Pv.pb) o.nm).toNat (plainAt l (findP (l.map Pv.pb) o.nm).toNat)

def didPlain (l : List Pv) (o : Oq) (told : Int) : List Pv × (Int × Int) := if plainsOk l = true then doPlain l o told else ([], (1, 0))
end Go.Proofs.YtcefcglonooelaaGreatDoor

namespace Go.Proofs.YtcefcglonooelaaGreatDoor
set_option linter.unusedVariables false

set_option maxRecDepth 100000


theorem plains_ok {l : List Pv} (h : plainsOk l = true) : l.length ≤ 6 ∧ ∀ p ∈ l, p.ok = true := by
  simp only [plainsOk, Bool.and_eq_true, decide_eq_true_eq, List.all_eq_true] at h
  exact ⟨h.1.1, h.1.2⟩

theorem pv_parts {p : Pv} (h : p.ok = true) : (1 ≤ p.sz ∧ p.sz ≤ 16) ∧ (0 ≤ p.ep ∧ p.ep ≤ 1000) ∧ (p.vs.length : Int) = p.sz := by
  simp only [Pv.ok, plainOk, Bool.and_eq_true, decide_eq_true_eq] at h
  exact ⟨h.1.1.2, h.1.2, h.2⟩

theorem foundV {l : List Pv} {o : Oq} (hok : plainsOk l = true) (href : refused (l.map Pv.pb) o = 0) (hk : o.k ≠ 1) : ∃ (i : Nat) (hi : i < l.length), findP (l.map Pv.pb) o.nm = i ∧ l[i].ok = true ∧ (kAt o.k = true → o.at_ < l[i].sz) ∧ (o.k = 8 → l[i].ep ≠ 1000) := by
  obtain ⟨a1, -, -, a4, a5⟩ := refused_parts href
  obtain ⟨i, hib, hf, -⟩ := find_in (l.map Pv.pb) o.nm (by have := a1 hk; omega)
  have hi : i < l.length := by rw [List.length_map] at hib; exact hib
  have hb : bookAt (l.map Pv.pb) (findP (l.map Pv.pb) o.nm) = l[i].pb := by
    rw [hf, bookAt_of (l.map Pv.pb) i hib, List.getElem_map]
  refine ⟨i, hi, hf, (plains_ok hok).2 _ (List.getElem_mem hi), fun q => ?_, fun q => ?_⟩
  · have := a4 hk q
    rw [hb] at this
    exact this
  · have := a5 q
    rw [hb] at this
    exact this

theorem doPlain_bad {l : List Pv} {o : Oq} (told : Int) (h : opOk o = false) : doPlain l o told = (l, (1, 0)) := by rw [doPlain, if_pos h]

theorem doPlain_refd {l : List Pv} {o : Oq} (told : Int) (h : opOk o = true) (hr : refused (l.map Pv.pb) o ≠ 0) : doPlain l o told = (l, (refused (l.map Pv.pb) o, 0)) := by
  rw [doPlain, if_neg (by rw [h]; decide), if_pos hr]

theorem doPlain_full {l : List Pv} {o : Oq} (h : opOk o = true) (hr : refused (l.map Pv.pb) o = 0) (hk : o.k = 2) : doPlain l o 9 = (l, (9, 0)) := by
  rw [doPlain, if_neg (by rw [h]; decide), if_neg (by rw [hr]; decide), if_pos ⟨hk, rfl⟩]

theorem doPlain_one {l : List Pv} {o : Oq} {told : Int} {i : Nat} (hi : i < l.length) (h : opOk o = true) (hr : refused (l.map Pv.pb) o = 0) (hf : ¬ (o.k = 2 ∧ told = 9)) (hk : o.k ≠ 1 ∧ o.k ≠ 6 ∧ kOther o.k = false) (hfp : findP (l.map Pv.pb) o.nm = i) : doPlain l o told = doOne l o i l[i] := by
  rw [doPlain, if_neg (by rw [h]; decide), if_neg (by rw [hr]; decide), if_neg hf, if_neg hk.1, if_neg hk.2.1, if_neg (by rw [hk.2.2]; decide), hfp, Int.toNat_natCast]
  congr 1
  simp [plainAt, List.getD_eq_getElem?_getD, hi]
end Go.Proofs.YtcefcglonooelaaGreatDoor

namespace Go.Proofs.YtcefcglonooelaaGreatDoor
open Go.RowKit

set_option linter.unusedVariables false

set_option maxRecDepth 100000


theorem insertAt_eq (bs : List Pb) (n : ByteArray) (q : Nat) (hq : q ≤ bs.length) (h1 : ∀ j (hj : j < bs.length), j < q → ltB bs[j].nm n = true) (h2 : ∀ h : q < bs.length, ltB bs[q].nm n = false) : insertAt bs n = q := by
  unfold insertAt
  induction bs generalizing q with
  | nil => simp at hq; simp [hq]
  | cons b t ih =>
    cases q with
    | zero =>
      have := h2 (by simp)
      simp only [List.getElem_cons_zero] at this
      rw [List.takeWhile_cons, this]
      rfl
    | succ q =>
      have h0 := h1 0 (by simp) (by omega)
      simp only [List.getElem_cons_zero] at h0
      rw [List.takeWhile_cons, h0]
      simp only [if_true, List.length_cons]
      have := ih q (by simpa using hq) (fun j hj hl => by have := h1 (j + 1) (by simpa using hj) (by omega); simpa using this) (fun h => by have := h2 (by simpa using h); simpa using this)
      omega

theorem insertAt_le (bs : List Pb) (n : ByteArray) : insertAt bs n ≤ bs.length := by
  unfold insertAt
  exact (List.takeWhile_sublist _).length_le
end Go.Proofs.YtcefcglonooelaaGreatDoor

namespace Go.Proofs.YtcefcglonooelaaGreatDoor
set_option linter.unusedVariables false

set_option maxRecDepth 100000


theorem pv_ok_by {p : Pv} (h1 : Nums.nameB p.nm.data.toList = true) (h2 : 1 ≤ p.sz ∧ p.sz ≤ 16) (h3 : 0 ≤ p.ep ∧ p.ep ≤ 1000) (h4 : (p.vs.length : Int) = p.sz) (h5 : valuesB p.vs = true) : p.ok = true := by
  simp only [Pv.ok, plainOk, Bool.and_eq_true, decide_eq_true_eq]
  exact ⟨⟨⟨⟨h5, h1⟩, h2⟩, h3⟩, h4⟩

theorem pv_all {p : Pv} (h : p.ok = true) : Nums.nameB p.nm.data.toList = true ∧ (1 ≤ p.sz ∧ p.sz ≤ 16) ∧ (0 ≤ p.ep ∧ p.ep ≤ 1000) ∧ (p.vs.length : Int) = p.sz ∧ valuesB p.vs = true := by
  simp only [Pv.ok, plainOk, Bool.and_eq_true, decide_eq_true_eq] at h
  exact ⟨h.1.1.1.2, h.1.1.2, h.1.2, h.2, h.1.1.1.1⟩

theorem plains_of {l : List Pv} (h1 : l.length ≤ 6) (h2 : ∀ p ∈ l, p.ok = true) (h3 : (l.map Pv.nm).Pairwise (fun a b => ltB a b = true)) : plainsOk l = true := by
  simp only [plainsOk, Bool.and_eq_true, decide_eq_true_eq, List.all_eq_true]
  exact ⟨⟨h1, h2⟩, (sorted_iff _).2 h3⟩

theorem plains_srt {l : List Pv} (h : plainsOk l = true) : (l.map Pv.nm).Pairwise (fun a b => ltB a b = true) := by
  simp only [plainsOk, Bool.and_eq_true] at h
  exact (sorted_iff _).1 h.2

theorem pb_names (l : List Pv) : (l.map Pv.pb).map Pb.nm = l.map Pv.nm := by rw [List.map_map]; rfl

theorem put_len (l : List Pv) (p : Pv) : (putV l p).length = l.length + 1 := by
  unfold putV
  simp only [List.length_append, List.length_take, List.length_drop, List.length_cons, List.length_nil]
  have := insertAt_le (l.map Pv.pb) p.nm
  rw [List.length_map] at this
  omega

theorem put_mem {l : List Pv} {p x : Pv} (h : x ∈ putV l p) : x ∈ l ∨ x = p := by
  simp only [putV, List.mem_append, List.mem_singleton] at h
  rcases h with (h | h) | h
  · exact .inl (List.mem_of_mem_take h)
  · exact .inr h
  · exact .inl (List.mem_of_mem_drop h)

theorem put_ok {l : List Pv} {p : Pv} (h : plainsOk l = true) (hp : p.ok = true) (hl : l.length ≠ 6) (hf : findP (l.map Pv.pb) p.nm < 0) : plainsOk (putV l p) = true := by
  have h6 := (plains_ok h).1
  refine plains_of (by rw [put_len]; omega) (fun x hx => ?_) ?_
  · rcases put_mem hx with hx | rfl
    · exact (plains_ok h).2 x hx
    · exact hp
  · have hs := plains_srt h
    rw [← pb_names] at hs
    have h2 := insert_sorted (l.map Pv.pb) p.pb hs (fun x hx => find_not (l.map Pv.pb) p.nm hf x hx)
    have e : (putV l p).map Pv.nm = (insertP (l.map Pv.pb) p.pb).map Pb.nm := by
      unfold putV insertP
      simp only [List.map_append, List.map_take, List.map_drop, List.map_map]
      rfl
    rw [e]
    exact h2

theorem set_ok {l : List Pv} {i : Nat} {y : Pv} (h : plainsOk l = true) (hi : i < l.length) (hy : y.ok = true) (hn : y.nm = l[i].nm) : plainsOk (l.set i y) = true := by
  refine plains_of (by rw [List.length_set]; exact (plains_ok h).1) (fun x hx => ?_) ?_
  · rcases List.mem_or_eq_of_mem_set hx with hx | rfl
    · exact (plains_ok h).2 x hx
    · exact hy
  · have e : (l.set i y).map Pv.nm = l.map Pv.nm := by
      rw [List.map_set, hn]
      apply List.ext_getElem
      · simp
      · intro n h1 h2
        by_cases e : i = n
        · subst e; rw [List.getElem_set_self, List.getElem_map]
        · rw [List.getElem_set_ne e]
    rw [e]
    exact plains_srt h

theorem values_set {vs : List Int} (h : valuesB vs = true) (i : Nat) (z : Int) (hz : 0 ≤ z ∧ z ≤ 999) : valuesB (vs.set i z) = true := by
  unfold valuesB at h ⊢
  rw [List.all_eq_true] at h ⊢
  intro x hx
  rcases List.mem_or_eq_of_mem_set hx with hx | rfl
  · exact h x hx
  · simp [hz.1, hz.2]

theorem values_zeros (n : Nat) : valuesB (List.replicate n 0) = true := by
  unfold valuesB
  rw [List.all_eq_true]
  intro x hx
  obtain ⟨-, rfl⟩ := List.mem_replicate.1 hx
  decide

theorem values_take {vs : List Int} (h : valuesB vs = true) (n k : Nat) : valuesB ((vs ++ List.replicate k 0).take n) = true := by
  unfold valuesB at h ⊢
  rw [List.all_eq_true] at h ⊢
  intro x hx
  rcases List.mem_append.1 (List.mem_of_mem_take hx) with hx | hx
  · exact h x hx
  · obtain ⟨-, rfl⟩ := List.mem_replicate.1 hx
    decide

/-- Right plains stay right. -/
theorem do_plains {l : List Pv} {o : Oq} {told : Int} (h : plainsOk l = true) : plainsOk (doPlain l o told).1 = true := by
  unfold doPlain
  split
  · exact h
  rename_i hb
  have hok : opOk o = true := by simpa using hb
  split
  · exact h
  rename_i hr0
  have href : refused (l.map Pv.pb) o = 0 := Classical.not_not.1 hr0
  split
  · exact h
  rename_i hfull
  have hop := op_parts hok
  have hpt := refused_parts href
  split
  · rename_i hk
    have hv := hop.2.2.2.2.1 (by rw [hk]; decide)
    have h2 := hpt.2.1 hk
    rw [List.length_map] at h2
    refine put_ok h (pv_ok_by hop.1 hv (by show (0 : Int) ≤ 0 ∧ (0 : Int) ≤ 1000; omega) ?_ (values_zeros _)) h2.2 h2.1
    show ((List.replicate o.va.toNat (0 : Int)).length : Int) = o.va
    rw [List.length_replicate]
    omega
  rename_i hk1
  obtain ⟨i, hi, hfp, hpk, hpa, hpe⟩ := foundV h href hk1
  have hpl : plainAt l (findP (l.map Pv.pb) o.nm).toNat = l[i] := by rw [hfp, Int.toNat_natCast]; simp [plainAt, List.getD_eq_getElem?_getD, hi]
  have hpp := pv_all hpk
  split
  · rw [hfp, Int.toNat_natCast]
    refine plains_of ?_ (fun x hx => ?_) ?_
    · have := (plains_ok h).1
      rw [List.length_append, List.length_take, List.length_drop]
      omega
    · rcases List.mem_append.1 hx with hx | hx
      · exact (plains_ok h).2 x (List.mem_of_mem_take hx)
      · exact (plains_ok h).2 x (List.mem_of_mem_drop hx)
    · refine List.Pairwise.sublist ?_ (plains_srt h)
      rw [← List.eraseIdx_eq_take_drop_succ]
      exact (List.eraseIdx_sublist _ _).map _
  split
  · rename_i hko
    have h2 := hpt.2.2.1 hko
    have h3 := h2.2 hk1
    rw [List.length_map] at h3
    rw [hpl]
    exact put_ok h (pv_ok_by (hop.2.2.1 hko) hpp.2.1 (by show (0 : Int) ≤ 0 ∧ (0 : Int) ≤ 1000; omega) hpp.2.2.2.1 hpp.2.2.2.2) h3 h2.1
  · rename_i hk6 hko
    rw [hpl, hfp, Int.toNat_natCast]
    have hk9 := hop.2.1
    have hk : o.k = 2 ∨ o.k = 3 ∨ o.k = 7 ∨ o.k = 8 ∨ o.k = 9 := by
      have h9 : o.k = 1 ∨ o.k = 2 ∨ o.k = 3 ∨ o.k = 4 ∨ o.k = 5 ∨ o.k = 6 ∨ o.k = 7 ∨ o.k = 8 ∨ o.k = 9 := by omega
      rcases h9 with q | q | q | q | q | q | q | q | q
      · exact absurd q hk1
      · exact .inl q
      · exact .inr (.inl q)
      · rw [q] at hko; exact absurd rfl hko
      · rw [q] at hko; exact absurd rfl hko
      · exact absurd q hk6
      · exact .inr (.inr (.inl q))
      · exact .inr (.inr (.inr (.inl q)))
      · exact .inr (.inr (.inr (.inr q)))
    unfold doOne
    split
    · exact h
    split
    · rename_i hk8
      have h1 := hpe hk8
      refine set_ok h hi (pv_ok_by hpp.1 hpp.2.1 ?_ hpp.2.2.2.1 hpp.2.2.2.2) rfl
      show 0 ≤ l[i].ep + 1 ∧ l[i].ep + 1 ≤ 1000
      have := hpp.2.2.1
      omega
    split
    · rename_i hk7
      have hv := hop.2.2.2.2.1 (by rw [hk7]; decide)
      refine set_ok h hi (pv_ok_by hpp.1 hv hpp.2.2.1 ?_ (values_take hpp.2.2.2.2 _ _)) rfl
      show (((l[i].vs ++ List.replicate 16 0).take o.va.toNat).length : Int) = o.va
      rw [List.length_take, List.length_append, List.length_replicate]
      omega
    split
    · refine set_ok h hi (pv_ok_by hpp.1 hpp.2.1 hpp.2.2.1 ?_ (values_set hpp.2.2.2.2 _ _ (by omega))) rfl
      show ((l[i].vs.set _ _).length : Int) = l[i].sz
      rw [List.length_set]
      exact hpp.2.2.2.1
    · rename_i e9 e8 e7 e3
      have hk2 : o.k = 2 := by omega
      refine set_ok h hi (pv_ok_by hpp.1 hpp.2.1 hpp.2.2.1 ?_ (values_set hpp.2.2.2.2 _ _ (hop.2.2.2.2.2 hk2))) rfl
      show ((l[i].vs.set _ _).length : Int) = l[i].sz
      rw [List.length_set]
      exact hpp.2.2.2.1

theorem did_plains (l : List Pv) (o : Oq) (told : Int) : plainsOk (didPlain l o told).1 = true := by
  unfold didPlain
  split
  · rename_i h
    exact do_plains h
  · rfl
end Go.Proofs.YtcefcglonooelaaGreatDoor

namespace Go.Proofs.YtcefcglonooelaaGreatDoor
open Go.RowKit

set_option linter.unusedVariables false

set_option maxRecDepth 100000


theorem OwnB.rng {lo hi base : Nat} {w w' : World} {v : Value} {bs : List Bk} (h : OwnB base w v bs) (k : Rng lo hi w w') (hb : hi ≤ base) : OwnB base w' v bs := ⟨own_rng h.row k hb, fun b hbm => own_rng (h.maps b hbm) k hb⟩

theorem OwnS.rng {lo hi base : Nat} {w w' : World} {v1 v2 vb : Value} {cs ps : List Int} {bks : List Bk} (h : OwnS base w v1 v2 vb cs ps bks) (k : Rng lo hi w w') (hb : hi ≤ base) : OwnS base w' v1 v2 vb cs ps bks := ⟨h.p.rng k hb, h.b.rng k hb, h.a⟩

/-- The blocks of a shelf of one's own. -/
theorem OwnS.span {base : Nat} {w : World} {v1 v2 vb : Value} {cs ps : List Int} {bks : List Bk} (h : OwnS base w v1 v2 vb cs ps bks) : (∀ g, (v1.ownBlock = some g ∨ v2.ownBlock = some g) → base ≤ g ∧ g < w.heap.size) ∧ (∀ g, vb.ownBlock = some g → g < w.heap.size) ∧ ∀ b ∈ bks, ∀ g, b.m.ownBlock = some g → g < w.heap.size :=
  ⟨h.p.span, fun g hg => (h.b.row.lt g hg).2, fun b hb g hg => ((h.b.maps b hb).lt g hg).2⟩

/-- A row of one type stays where rows of another type are written. -/
theorem own_apart {w : World} {base base' : Nat} {e e' : TypeId} {k k' n n' : Nat} {v v' : Value} {xs ys : List Value} (h : w.ownsRow base e k v n xs) (h' : w.ownsRow base' e' k' v' n' ys) (hne : e' ≠ e) (g : Nat) (hg : v'.ownBlock = some g) : v.ownBlock ≠ some g := by
  rcases h'.2 with ⟨rfl, _⟩ | ⟨g', cap', cur, rfl, _, hh, _⟩
  · simp [Value.ownBlock] at hg
  · simp [Value.ownBlock] at hg
    subst hg
    exact own_not_box h hh hne
end Go.Proofs.YtcefcglonooelaaGreatDoor

namespace Go.Proofs.YtcefcglonooelaaGreatDoor
open Go.RowKit

set_option linter.unusedVariables false

set_option maxRecDepth 100000


theorem step_append {P : Program} {w : World} {ops : Array Oper} {o : Oper} {a : Act} {K : Act → World → Prop} {Q : Exit → Act → World → Prop} {E : Prop} (hgd : o.guard = none) (s x : Operand) (t : TypeId)
    (ho : o.op = .call { callee := .builtin .append, args := #[s, x], argTypes := #[t, t] })
    (base : Nat) (e : TypeId) (i : TypeInfo) (z : Value) (size bytes : Nat) (ht : P.underlying t = some (.slice e)) (hi : P.info? e = some i) (hz : i.zero = some z)
    (hsize : i.size = size) (hby : i.bytes = bytes) (hzs : z.cells.size = size) (hsz : 0 < size)
    (v : Value) (n : Nat) (xs : List Value) (hs : a.eval s = v) (hown : w.ownsRow base e size v n xs)
    (ad : Addr) (m c : Nat) (news : List Value) (hx : a.eval x = .slice (some ad) m c) (hl : news.length = m * size) (hnews : ∀ j u, news[j]? = some u → w.cell? (ad.add j) = some u) (h1 : ∀ u ∈ news, u.oneCell' = true)
    (h63 : n + m ≤ maxLen) (hbytes : (n + m) * bytes ≤ 140737488355328) (hbase : base ≤ w.heap.size)
    (h : ∀ v' w', w'.ownsRow base e size v' (n + m) (xs ++ news) → w.grownBy w' v.ownBlock → (v' = .slice none 0 0 ↔ v = .slice none 0 0 ∧ m = 0) → K (a.put o.dst v') w') :
    if Region.wanted o (yielded ops a.tmps) = true then Oper.wp P o a w K Q else E := by
  have hw : Region.wanted o (yielded ops a.tmps) = true := by simp [Region.wanted, hgd]
  rw [if_pos hw]
  exact wp_append_own w s x t ho base e i z size bytes ht hi hz hsize hby hzs hsz v n xs hs hown ad m c news hx hl hnews h1 h63 hbytes hbase h
end Go.Proofs.YtcefcglonooelaaGreatDoor

namespace Go.Proofs.YtcefcglonooelaaGreatDoor
open Go.RowKit

set_option linter.unusedVariables false

/-- How memory lies when a map was drawn. -/
structure MapSt (c : Nat) (x : Option Addr) (len cap : Nat) (w W : World) (g cp : Nat) (rs : List (Int × Int × Int)) : Prop where
  own : W.ownsRow w.heap.size 129 3 (.slice (some ⟨g, 0, none⟩) rs.length cp) rs.length (rs.flatMap runC)
  few : rs.length ≤ 17
  fit : FitRuns rs
  kc : Cur W c x len cap
  u : Upto c w W
  lt : c < w.heap.size

theorem MapSt.step {c g cp : Nat} {x : Option Addr} {len cap : Nat} {w W W' : World} {rs : List (Int × Int × Int)} (h : MapSt c x len cap w W g cp rs) (u : Upto c W W') (kc : Cur W' c x len cap) : MapSt c x len cap w W' g cp rs :=
  ⟨ownsRow_upto h.own u h.lt, h.few, h.fit, kc, h.u.trans u, h.lt⟩

theorem MapSt.alloc {c g cp : Nat} {x : Option Addr} {len cap : Nat} {w W : World} {rs : List (Int × Int × Int)} (h : MapSt c x len cap w W g cp rs) (o : Obj) : MapSt c x len cap w (W.alloc o) g cp rs :=
  h.step ((Upto.refl c W).alloc o) (h.kc.alloc o)

theorem MapSt.lo {c g cp : Nat} {x : Option Addr} {len cap : Nat} {w W : World} {rs : List (Int × Int × Int)} (h : MapSt c x len cap w W g cp rs) : w.heap.size ≤ g ∧ g < W.heap.size := h.own.lt g rfl

/-- Pages that may be drawn. -/
def PagesIn (l : List Int) : Prop := l.length = 16 ∧ ∀ j, j < 16 → -1 ≤ l.getD j 0 ∧ l.getD j 0 ≤ 23

theorem PagesIn.set {l : List Int} (h : PagesIn l) (k : Nat) (hk : k < 16) (p : Int) (hp : -1 ≤ p ∧ p ≤ 23) : PagesIn (l.set k p) := by
  refine ⟨by rw [List.length_set]; exact h.1, fun j hj => ?_⟩
  rw [getD_set16 _ _ _ _ (by rw [h.1]; exact hk)]
  by_cases e : k = j
  · rw [if_pos e]; exact hp
  · rw [if_neg e]; exact h.2 j hj

theorem PagesIn.none : PagesIn none16 := ⟨rfl, fun j hj => by rw [none16_at j hj]; omega⟩
end Go.Proofs.YtcefcglonooelaaGreatDoor

namespace Go.Proofs.YtcefcglonooelaaGreatDoor
open Go.RowKit

set_option linter.unusedVariables false


/-- A book that was drawn: its map is a row of its own, its numbers are small. -/
structure BookSt (c : Nat) (x : Option Addr) (len cap : Nat) (w W : World) (b : Bk) : Prop where
  own : W.ownsRow w.heap.size 129 3 b.m b.rs.length (b.rs.flatMap runC)
  kc : Cur W c x len cap
  u : Upto c w W
  lt : c < w.heap.size
  few : b.rs.length ≤ 17
  fit : FitRuns b.rs
  nm : b.nm.size ≤ 5
  sz : -1 ≤ b.sz ∧ b.sz ≤ 17
  ep : -1 ≤ b.ep ∧ b.ep ≤ 1001

theorem BookSt.step {c : Nat} {x : Option Addr} {len cap : Nat} {w W W' : World} {b : Bk} (h : BookSt c x len cap w W b) (u : Upto c W W') (kc : Cur W' c x len cap) : BookSt c x len cap w W' b :=
  ⟨ownsRow_upto h.own u h.lt, kc, h.u.trans u, h.lt, h.few, h.fit, h.nm, h.sz, h.ep⟩

theorem BookSt.below {c : Nat} {x : Option Addr} {len cap : Nat} {w W W' : World} {b : Bk} (h : BookSt c x len cap w W b) (k : Below W.heap.size W W') : BookSt c x len cap w W' b :=
  h.step (Upto.ofBelow k) (h.kc.below k)

theorem BookSt.form {c : Nat} {x : Option Addr} {len cap : Nat} {w W : World} {b : Bk} (h : BookSt c x len cap w W b) : ∃ o cp, b.m = .slice o b.rs.length cp := own_slice h.own

theorem BookSt.reads {c : Nat} {x : Option Addr} {len cap : Nat} {w W : World} {b : Bk} (h : BookSt c x len cap w W b) : ReadsR 3 runC W.heap.size W b.m b.rs := ReadsR.of_own runC_len h.own

/-- A block of another type that lies behind the start is written. -/
theorem BookSt.put {c : Nat} {x : Option Addr} {len cap : Nat} {w W : World} {b : Bk} {g i : Nat} {cs : Array Value} (h : BookSt c x len cap w W b) (k : W.heap[g]? = some (.cells cs 87 (0, 0))) (hg : w.heap.size ≤ g) (v : Value) : BookSt c x len cap w (W.setCell ⟨g, i, none⟩ v) b := by
  have hne := own_not_box h.own k (by decide)
  have hlt := h.lt
  have hb : ∀ q, q < W.heap.size → q ≠ g → (W.setCell ⟨g, i, none⟩ v).heap[q]? = W.heap[q]? := fun q hq hqg => ((Upto.refl g W).setCell ⟨g, i, none⟩ (.inl rfl) v).block q hq hqg
  refine ⟨own_rng_not h.own (fun q hq hv => hb q hq (fun e => hne (by rw [← e]; exact hv))), h.kc.same (((Upto.refl g W).setCell ⟨g, i, none⟩ (.inl rfl) _).toBelow h.kc.lt (by omega)), h.u.setCell ⟨g, i, none⟩ (.inr hg) _, h.lt, h.few, h.fit, h.nm, h.sz, h.ep⟩

/-- While it is drawn: the book's box at nB, the answer's at the start's end. -/
structure BkSt (c : Nat) (x : Option Addr) (len cap nB : Nat) (w W : World) (b : Bk) : Prop where
  st : BookSt c x len cap w W b
  kB : W.heap[nB]? = some (.cells #[.string b.nm, .int .i64 b.sz, b.m, .bool b.fx, .int .i64 b.ep] 87 (0, 0))
  kR : W.heap[w.heap.size]? = some (.cells #[.string ⟨#[]⟩, .int .i64 0, .slice none 0 0, .bool false, .int .i64 0] 87 (0, 0))
  nb : w.heap.size < nB

theorem BkSt.step {c nB : Nat} {x : Option Addr} {len cap : Nat} {w W W' : World} {b : Bk} (h : BkSt c x len cap nB w W b) (u : Upto c W W') (kc : Cur W' c x len cap) : BkSt c x len cap nB w W' b := by
  have hlt := h.st.lt
  have hnb := h.nb
  exact ⟨h.st.step u kc, (u.block _ (heap_lt h.kB) (by omega)).trans h.kB, (u.block _ (heap_lt h.kR) (by omega)).trans h.kR, h.nb⟩

theorem BkSt.below {c nB : Nat} {x : Option Addr} {len cap : Nat} {w W W' : World} {b : Bk} (h : BkSt c x len cap nB w W b) (k : Below W.heap.size W W') : BkSt c x len cap nB w W' b :=
  h.step (Upto.ofBelow k) (h.st.kc.below k)

theorem BkSt.alloc {c nB : Nat} {x : Option Addr} {len cap : Nat} {w W : World} {b : Bk} (h : BkSt c x len cap nB w W b) (o : Obj) : BkSt c x len cap nB w (W.alloc o) b :=
  h.below (bw_alloc (Below.refl _ _))

theorem BkSt.other {c nB : Nat} {x : Option Addr} {len cap : Nat} {w W : World} {b : Bk} (h : BkSt c x len cap nB w W b) (i : Nat) (v : Value) : (W.setCell ⟨nB, i, none⟩ v).heap[w.heap.size]? = some (.cells #[.string ⟨#[]⟩, .int .i64 0, .slice none 0 0, .bool false, .int .i64 0] 87 (0, 0)) :=
  (((Upto.refl nB W).setCell ⟨nB, i, none⟩ (.inl rfl) v).block _ (heap_lt h.kR) (Nat.ne_of_lt h.nb)).trans h.kR

theorem BkSt.size {c nB : Nat} {x : Option Addr} {len cap : Nat} {w W : World} {b : Bk} (h : BkSt c x len cap nB w W b) (z : Int) (hz : -1 ≤ z ∧ z ≤ 17) : BkSt c x len cap nB w (W.setCell ⟨nB, 1, none⟩ (.int .i64 z)) ⟨b.nm, z, b.m, b.rs, b.fx, b.ep⟩ := by
  have p := h.st.put (i := 1) h.kB (Nat.le_of_lt h.nb) (.int .i64 z)
  exact ⟨⟨p.own, p.kc, p.u, p.lt, p.few, p.fit, p.nm, hz, p.ep⟩, set_at h.kB 1 _, h.other 1 _, h.nb⟩

theorem BkSt.epoch {c nB : Nat} {x : Option Addr} {len cap : Nat} {w W : World} {b : Bk} (h : BkSt c x len cap nB w W b) (z : Int) (hz : -1 ≤ z ∧ z ≤ 1001) : BkSt c x len cap nB w (W.setCell ⟨nB, 4, none⟩ (.int .i64 z)) ⟨b.nm, b.sz, b.m, b.rs, b.fx, z⟩ := by
  have p := h.st.put (i := 4) h.kB (Nat.le_of_lt h.nb) (.int .i64 z)
  exact ⟨⟨p.own, p.kc, p.u, p.lt, p.few, p.fit, p.nm, p.sz, hz⟩, set_at h.kB 4 _, h.other 4 _, h.nb⟩

theorem BkSt.map {c nB base : Nat} {x : Option Addr} {len cap : Nat} {w W : World} {b : Bk} (h : BkSt c x len cap nB w W b) (m : Value) (rs : List (Int × Int × Int)) (hl : rs.length ≤ 17) (hf : FitRuns rs) (hb : w.heap.size ≤ base) (own : W.ownsRow base 129 3 m rs.length (rs.flatMap runC)) : BkSt c x len cap nB w (W.setCell ⟨nB, 2, none⟩ m) ⟨b.nm, b.sz, m, rs, b.fx, b.ep⟩ := by
  have p : BookSt c x len cap w (W.setCell ⟨nB, 2, none⟩ m) ⟨b.nm, b.sz, m, rs, b.fx, b.ep⟩ := BookSt.put (b := ⟨b.nm, b.sz, m, rs, b.fx, b.ep⟩) (i := 2) ⟨owns_mono own hb, h.st.kc, h.st.u, h.st.lt, hl, hf, h.st.nm, h.st.sz, h.st.ep⟩ h.kB (Nat.le_of_lt h.nb) m
  exact ⟨p, set_at h.kB 2 _, h.other 2 _, h.nb⟩
end Go.Proofs.YtcefcglonooelaaGreatDoor

namespace Go.Proofs.YtcefcglonooelaaGreatDoor
open Go.RowKit

set_option linter.unusedVariables false

set_option maxRecDepth 100000


theorem new_five (w : World) (b : Bk) (t : TypeId) : ∀ (j : Nat) (u : Value), (bookC b)[j]? = some u → (w.alloc (.cells #[.string b.nm, .int .i64 b.sz, b.m, .bool b.fx, .int .i64 b.ep] t)).cell? ((⟨w.heap.size, 0, none⟩ : Addr).add j) = some u := by
  intro j u hj
  rw [addr_add]
  have e := World.cell?_alloc_mark w #[.string b.nm, .int .i64 b.sz, b.m, .bool b.fx, .int .i64 b.ep] t (0, 0) j
  exact e.trans ((show (#[Value.string b.nm, .int .i64 b.sz, b.m, .bool b.fx, .int .i64 b.ep] : Array Value)[j]? = (bookC b)[j]? by simp [bookC]).trans hj)

theorem one_book (b : Bk) (h : ∃ o k cp, b.m = .slice o k cp) : ∀ u ∈ bookC b, u.oneCell' = true := fun u hu => by
  obtain ⟨o, k, cp, h⟩ := h
  simp [bookC, h] at hu
  rcases hu with rfl | rfl | rfl | rfl | rfl <;> rfl

/-- A row of another type stays where a row grows. -/
theorem own_grown {w w' : World} {base base' : Nat} {e e' : TypeId} {k k' : Nat} {v : Value} {n n' g cp : Nat} {xs ys : List Value} (h : w.ownsRow base e k v n xs) (r : w.ownsRow base' e' k' (.slice (some ⟨g, 0, none⟩) n' cp) n' ys) (hne : e' ≠ e) (hg : w.grownBy w' (some g)) : w'.ownsRow base e k v n xs := by
  have u : Upto g w w' := (Upto.refl g w).grown hg (fun q hq => .inr (by cases hq; rfl))
  rcases r.2 with ⟨h0, _⟩ | ⟨g', cap', cur, h0, _, hh, _⟩
  · simp at h0
  · simp at h0
    obtain ⟨rfl, _⟩ := h0
    have hv := own_not_box h hh hne
    exact own_rng_not h (fun q hq hqv => u.block q hq (fun e => hv (by rw [← e]; exact hqv)))

/-- What the laws know of a book that was drawn. -/
structure Drawn (w : World) (b : Bk) : Prop where
  reads : ReadsR 3 runC w.heap.size w b.m b.rs
  fit : FitRuns b.rs
  nm : b.nm.size ≤ maxLen

theorem Drawn.below {w w' : World} {b : Bk} (h : Drawn w b) (k : Below w.heap.size w w') : Drawn w' b := ⟨(h.reads.below k).mono k.size, h.fit, h.nm⟩
end Go.Proofs.YtcefcglonooelaaGreatDoor

