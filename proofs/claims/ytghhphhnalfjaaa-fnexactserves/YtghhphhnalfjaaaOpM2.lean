/-
  Chapter 7, plain: how the program goes: the limits of each kind, and an op taken from the head of bytes.
-/
import Derived.Test.YtghhphhnalfjaaaOpM
namespace Go.Proofs.Ytghhphhnalfjaaa
open Nums
set_option linter.unusedVariables false
set_option maxRecDepth 100000

/-- What of a kind lies within which limits. -/
def lmAt (k : Int) : Int := if kAt k = true then 255 else 0
def lmLo (k : Int) : Int := if kSize k = true then 1 else 0
def lmHi (k : Int) : Int := if kSize k = true then 16 else if k = 2 then 999 else 0
def lmEp (k : Int) : Int := if kEpoch k = true then 1000 else 0
def otOk (ot : ByteArray) (h : Bool) : Bool := if h = true then nameB ot.data.toList else decide (ot.size = 0)
def opBy (o : Oq) : Bool :=
  inB o.k 1 9 && nameB o.nm.data.toList && otOk o.ot (kOther o.k) && inB o.at_ 0 (lmAt o.k) && inB o.va (lmLo o.k) (lmHi o.k) && inB o.ep 0 (lmEp o.k)

theorem inB_zero (x : Int) : inB x 0 0 = decide (x = 0) := by
  rw [Bool.eq_iff_iff, inB_iff, decide_eq_true_eq]; omega
theorem inB_or (b : Bool) (x hi : Int) (h : 0 ≤ hi) : ((b || decide (x = 0)) && inB x 0 hi) = inB x 0 (if b = true then hi else 0) := by
  cases b
  · rw [Bool.eq_iff_iff]
    simp only [Bool.false_or, Bool.and_eq_true, inB_iff, decide_eq_true_eq, Bool.false_eq_true, if_false]
    omega
  · simp
theorem ot_by (ot : ByteArray) (b : Bool) : ((b == decide (ot.size ≠ 0)) && (!b || nameB ot.data.toList)) = otOk ot b := by
  cases b
  · simp [otOk]
  · unfold otOk
    rw [if_pos rfl]
    cases h : nameB ot.data.toList
    · simp
    · have := nameB_size ot h
      have e : decide (ot.size ≠ 0) = true := by simp only [decide_eq_true_eq]; omega
      rw [e]
      rfl
theorem val_by (k va : Int) : valOk k va = inB va (lmLo k) (lmHi k) := by
  unfold valOk lmLo lmHi
  split
  · rfl
  · split
    · rfl
    · exact (inB_zero va).symm
theorem opOk_by (o : Oq) : opOk o = opBy o := by
  have h1 := ot_by o.ot (kOther o.k)
  have h2 := inB_or (kAt o.k) o.at_ 255 (by omega)
  have h3 := inB_or (kEpoch o.k) o.ep 1000 (by omega)
  have h4 := val_by o.k o.va
  have e : opOk o = (nameB o.nm.data.toList && inB o.k 1 9 && ((kOther o.k == decide (o.ot.size ≠ 0)) && (!kOther o.k || nameB o.ot.data.toList)) && ((kAt o.k || decide (o.at_ = 0)) && inB o.at_ 0 255) && ((kEpoch o.k || decide (o.ep = 0)) && inB o.ep 0 1000) && valOk o.k o.va) := by
    unfold opOk
    simp only [Bool.and_assoc]
  rw [e, h1, h2, h3, h4]
  unfold opBy lmAt lmEp
  generalize nameB o.nm.data.toList = a
  generalize inB o.k 1 9 = b
  generalize otOk o.ot (kOther o.k) = c
  generalize inB o.at_ 0 _ = d
  generalize inB o.ep 0 _ = e
  generalize inB o.va _ _ = f
  cases a <;> cases b <;> cases c <;> cases d <;> cases e <;> cases f <;> rfl

/-- A number taken from the head of bytes, and what is behind it. -/
def tNum (s : ByteArray) (k : Int) : Int × ByteArray := if okRead s 0 k = true then (readN s 0 k, s.extract k.toNat s.size) else (0, ByteArray.empty)
def tCut (n : Int) (b : ByteArray) : ByteArray × ByteArray := (b.extract 0 (min n (b.size : Int)).toNat, b.extract (min n (b.size : Int)).toNat b.size)
def tText (s : ByteArray) : ByteArray × ByteArray := tCut (tNum s 1).1 (tNum s 1).2
def tB (s : ByteArray) : ByteArray × ByteArray := tText (tNum s 1).2
def tC (s : ByteArray) : ByteArray × ByteArray := tText (tB s).2
def tD (s : ByteArray) : Int × ByteArray := tNum (tC s).2 1
def tE (s : ByteArray) : Int × ByteArray := tNum (tD s).2 2
def tF (s : ByteArray) : Int × ByteArray := tNum (tE s).2 2
def tOp (s : ByteArray) : Oq := ⟨(tNum s 1).1, (tB s).1, (tC s).1, (tD s).1, (tE s).1, (tF s).1⟩

theorem tNum_size (s : ByteArray) (k : Int) : (tNum s k).2.size ≤ s.size := by
  unfold tNum
  split
  · rw [ByteArray.size_extract]; omega
  · exact Nat.zero_le _
theorem tText_size (s : ByteArray) : (tText s).1.size ≤ s.size ∧ (tText s).2.size ≤ s.size := by
  have h := tNum_size s 1
  unfold tText tCut
  simp only [ByteArray.size_extract]
  omega
theorem tNum_show (n k : Int) (r : ByteArray) (h : okShow n k = true) : tNum (showS n k ++ r) k = (n, r) := by
  have hl := showS_len n k h
  have a := read_mid ByteArray.empty r n k h
  rw [ByteArray.empty_append] at a
  have a' : okRead (showS n k ++ r) 0 k = true ∧ readN (showS n k ++ r) 0 k = n := a
  unfold tNum
  rw [if_pos a'.1, a'.2]
  refine Prod.ext rfl ?_
  apply ext_list
  show ((showS n k ++ r).extract k.toNat (showS n k ++ r).size).data.toList = _
  have e : k.toNat = (showS n k).data.toList.length := by simp; omega
  rw [ext_toList, app_list, e, List.drop_left, app_size]
  apply List.take_of_length_le
  simp
theorem tText_show (t r : ByteArray) (h : t.size ≤ 255) : tText (showS (t.size : Int) 1 ++ (t ++ r)) = (t, r) := by
  unfold tText
  rw [tNum_show _ _ _ (ok1 (t.size : Int) (by omega))]
  unfold tCut
  simp only
  have e : (min (t.size : Int) ((t ++ r).size : Int)).toNat = t.size := by rw [app_size]; omega
  have et : t.data.toList.length = t.size := by simp
  have er : r.data.toList.length = r.size := by simp
  rw [e]
  refine Prod.ext ?_ ?_
  · apply ext_list
    show ((t ++ r).extract 0 t.size).data.toList = _
    rw [ext_toList, app_list, List.drop_zero, Nat.sub_zero, ← et, List.take_left]
  · apply ext_list
    show ((t ++ r).extract t.size (t ++ r).size).data.toList = _
    rw [ext_toList, app_list, ← et, List.drop_left, app_size]
    apply List.take_of_length_le
    omega
theorem tOp_show (o : Oq) (h : opOk o = true) : tOp (opShow o) = o := by
  obtain ⟨hk, hn, ho, ha, hv, he⟩ := opOk_bd o h
  have e : opShow o = showS o.k 1 ++ (showS (o.nm.size : Int) 1 ++ (o.nm ++ (showS (o.ot.size : Int) 1 ++ (o.ot ++ (showS o.at_ 1 ++ (showS o.va 2 ++ (showS o.ep 2 ++ ByteArray.empty))))))) := by
    unfold opShow
    simp only [ByteArray.append_assoc, ByteArray.append_empty]
  have e1 := tNum_show o.k 1 (showS (o.nm.size : Int) 1 ++ (o.nm ++ (showS (o.ot.size : Int) 1 ++ (o.ot ++ (showS o.at_ 1 ++ (showS o.va 2 ++ (showS o.ep 2 ++ ByteArray.empty))))))) (ok1 _ (by omega))
  have e2 := tText_show o.nm (showS (o.ot.size : Int) 1 ++ (o.ot ++ (showS o.at_ 1 ++ (showS o.va 2 ++ (showS o.ep 2 ++ ByteArray.empty))))) (by omega)
  have e3 := tText_show o.ot (showS o.at_ 1 ++ (showS o.va 2 ++ (showS o.ep 2 ++ ByteArray.empty))) (by omega)
  have e4 := tNum_show o.at_ 1 (showS o.va 2 ++ (showS o.ep 2 ++ ByteArray.empty)) (ok1 _ (by omega))
  have e5 := tNum_show o.va 2 (showS o.ep 2 ++ ByteArray.empty) (ok2 _ (by omega))
  have e6 := tNum_show o.ep 2 ByteArray.empty (ok2 _ (by omega))
  unfold tOp tF tE tD tC tB
  rw [e, e1, e2, e3, e4, e5, e6]

theorem readOp_or (s : ByteArray) : readOp s = (Oq.zero, false) ∨ ∃ o, readOp s = (o, true) := by
  unfold readOp
  split
  · split
    · split
      · exact .inr ⟨_, rfl⟩
      · exact .inl rfl
    · exact .inl rfl
  · exact .inl rfl
/-- What is read of bytes: what was taken, where it is right and shows them again. -/
theorem readOp_yes (s : ByteArray) (h : opOk (tOp s) = true) (e : showOp (tOp s) = s) : readOp s = (tOp s, true) := by
  unfold showOp at e
  rw [if_pos h] at e
  have := read_show_op (tOp s) h
  rw [e] at this
  exact this
theorem readOp_no (s : ByteArray) (h : opOk (tOp s) = true → showOp (tOp s) ≠ s) : readOp s = (Oq.zero, false) := by
  rcases readOp_or s with e | ⟨o, e⟩
  · exact e
  · obtain ⟨h1, h2⟩ := show_read_op s o e
    have ht := tOp_show o h2
    rw [h1] at ht
    rw [ht] at h
    refine absurd ?_ (h h2)
    unfold showOp
    rw [if_pos h2, h1]

end Go.Proofs.Ytghhphhnalfjaaa
