/-
  Chapter 7, plain: an op, its bytes, and what is read of bytes.
-/
import Derived.Test.YtghhphhnalfjaaaNumsB
namespace Go.Proofs.Ytghhphhnalfjaaa
open Nums
set_option linter.unusedVariables false
set_option maxRecDepth 100000

structure Oq where
  k : Int
  nm : ByteArray
  ot : ByteArray
  at_ : Int
  va : Int
  ep : Int
def Oq.zero : Oq := ⟨0, ByteArray.empty, ByteArray.empty, 0, 0, 0⟩

def kOther (k : Int) : Bool := decide (k = 4) || decide (k = 5)
def kAt (k : Int) : Bool := decide (k = 2) || decide (k = 3) || decide (k = 9)
def kSize (k : Int) : Bool := decide (k = 1) || decide (k = 7)
def kEpoch (k : Int) : Bool := decide (k = 2) || decide (k = 3) || decide (k = 6) || decide (k = 7)
def inB (x lo hi : Int) : Bool := decide (lo ≤ x) && decide (x ≤ hi)
def valOk (k va : Int) : Bool := if kSize k = true then inB va 1 16 else if k = 2 then inB va 0 999 else decide (va = 0)
def opOk (o : Oq) : Bool :=
  nameB o.nm.data.toList && inB o.k 1 9 && (kOther o.k == decide (o.ot.size ≠ 0)) && (!kOther o.k || nameB o.ot.data.toList) && (kAt o.k || decide (o.at_ = 0)) && inB o.at_ 0 255 && (kEpoch o.k || decide (o.ep = 0)) && inB o.ep 0 1000 && valOk o.k o.va
def opShow (o : Oq) : ByteArray := ((((((showS o.k 1 ++ showS (o.nm.size : Int) 1) ++ o.nm) ++ showS (o.ot.size : Int) 1) ++ o.ot) ++ showS o.at_ 1) ++ showS o.va 2) ++ showS o.ep 2
def showOp (o : Oq) : ByteArray := if opOk o = true then opShow o else ByteArray.empty
/-- A text by its length, and the place behind it. -/
def textN (s : ByteArray) (a : Int) : ByteArray × Int :=
  if okRead s a 1 = true ∧ readN s a 1 ≤ (s.size : Int) - a - 1 then (s.extract (a + 1).toNat (a + 1 + readN s a 1).toNat, a + 1 + readN s a 1) else (ByteArray.empty, -1)
def readAt (s : ByteArray) (p q : Int) : Oq := ⟨readN s 0 1, (textN s 1).1, (textN s p).1, readN s q 1, readN s (q + 1) 2, readN s (q + 3) 2⟩
def readOp (s : ByteArray) : Oq × Bool :=
  if okRead s 0 1 = true ∧ 0 ≤ (textN s 1).2 then
    (if 0 ≤ (textN s (textN s 1).2).2 ∧ (textN s (textN s 1).2).2 + 5 = (s.size : Int) then
      (if opOk (readAt s (textN s 1).2 (textN s (textN s 1).2).2) = true then (readAt s (textN s 1).2 (textN s (textN s 1).2).2, true) else (Oq.zero, false))
    else (Oq.zero, false))
  else (Oq.zero, false)

theorem inB_iff (x lo hi : Int) : inB x lo hi = true ↔ lo ≤ x ∧ x ≤ hi := by simp [inB]
theorem nameB_size (s : ByteArray) (h : nameB s.data.toList = true) : 1 ≤ s.size ∧ s.size ≤ 4 := by
  simp only [nameB, Bool.and_eq_true, decide_eq_true_eq] at h
  have e : s.data.toList.length = s.size := by simp
  omega
/-- What of an op that is right the bytes want. -/
theorem opOk_bd (o : Oq) (h : opOk o = true) : (1 ≤ o.k ∧ o.k ≤ 9) ∧ (1 ≤ o.nm.size ∧ o.nm.size ≤ 4) ∧ o.ot.size ≤ 4 ∧ (0 ≤ o.at_ ∧ o.at_ ≤ 255) ∧ (0 ≤ o.va ∧ o.va ≤ 999) ∧ (0 ≤ o.ep ∧ o.ep ≤ 1000) := by
  simp only [opOk, Bool.and_eq_true, inB_iff] at h
  obtain ⟨⟨⟨⟨⟨⟨⟨⟨h1, h2⟩, h3⟩, h4⟩, h5⟩, h6⟩, h7⟩, h8⟩, h9⟩ := h
  refine ⟨h2, nameB_size _ h1, ?_, h6, ?_, h8⟩
  · cases hk : kOther o.k
    · rw [hk] at h3
      simp at h3
      have : o.ot.size = 0 := by rw [h3]; rfl
      omega
    · rw [hk] at h4
      simp at h4
      exact (nameB_size _ h4).2
  · unfold valOk at h9
    split at h9
    · rw [inB_iff] at h9; omega
    · split at h9
      · rw [inB_iff] at h9; omega
      · simp at h9; omega

theorem showS_len (n k : Int) (h : okShow n k = true) : ((showS n k).size : Int) = k := by
  have hk := (okShow_iff n k).1 h
  unfold showS
  rw [if_pos h]
  show (((showI n k.toNat).toArray).size : Int) = k
  rw [List.size_toArray, showI_length]
  omega
theorem ok1 (n : Int) (h : 0 ≤ n ∧ n ≤ 255) : okShow n 1 = true := (okShow_iff n 1).2 ⟨by omega, by omega, h.1, by simp; omega⟩
theorem ok2 (n : Int) (h : 0 ≤ n ∧ n ≤ 65535) : okShow n 2 = true := (okShow_iff n 2).2 ⟨by omega, by omega, h.1, by simp; omega⟩
theorem app_list (a b : ByteArray) : (a ++ b).data.toList = a.data.toList ++ b.data.toList := by simp
theorem app_size (a b : ByteArray) : (a ++ b).size = a.size + b.size := by simp
theorem ext_list {a b : ByteArray} (h : a.data.toList = b.data.toList) : a = b := by
  cases a; cases b
  simp at h
  rw [h]

theorem ext_toList (s : ByteArray) (x y : Nat) : (s.extract x y).data.toList = (s.data.toList.drop x).take (y - x) := by simp
/-- A number in the midst of bytes. -/
theorem read_mid (p r : ByteArray) (n k : Int) (h : okShow n k = true) : okRead ((p ++ showS n k) ++ r) p.size k = true ∧ readN ((p ++ showS n k) ++ r) p.size k = n := by
  have hk := (okShow_iff n k).1 h
  have hl := showS_len n k h
  have ok : okRead ((p ++ showS n k) ++ r) p.size k = true := (okRead_iff _ _ _).2 ⟨by omega, by omega, by omega, by rw [app_size, app_size]; omega⟩
  refine ⟨ok, ?_⟩
  unfold readN
  rw [if_pos ok, app_list, app_list, List.append_assoc, Int.toNat_natCast]
  have e : p.data.toList.length = p.size := by simp
  rw [← e, List.drop_left]
  have e2 : (showS n k).data.toList = showI n k.toNat := by
    unfold showS
    rw [if_pos h]
  rw [e2, List.take_left' (showI_length _ _)]
  exact read_show _ n hk.2.2.1 hk.2.2.2

/-- A text in the midst of bytes. -/
theorem text_mid (p t r : ByteArray) (h : t.size ≤ 255) : textN (((p ++ showS (t.size : Int) 1) ++ t) ++ r) p.size = (t, (p.size : Int) + 1 + t.size) := by
  have h1 := ok1 (t.size : Int) (by omega)
  have hl := showS_len _ _ h1
  obtain ⟨m1, m2⟩ := read_mid p (t ++ r) (t.size : Int) 1 h1
  have ea : (((p ++ showS (t.size : Int) 1) ++ t) ++ r) = (p ++ showS (t.size : Int) 1) ++ (t ++ r) := by rw [ByteArray.append_assoc]
  rw [ea]
  unfold textN
  rw [m2, if_pos ⟨m1, by rw [app_size, app_size, app_size]; omega⟩]
  refine Prod.ext ?_ rfl
  apply ext_list
  have e1 : ((p.size : Int) + 1).toNat = (p ++ showS (t.size : Int) 1).size := by rw [app_size]; omega
  have e2 : ((p.size : Int) + 1 + (t.size : Int)).toNat = (p ++ showS (t.size : Int) 1).size + t.size := by rw [app_size]; omega
  show (((p ++ showS (t.size : Int) 1) ++ (t ++ r)).extract ((p.size : Int) + 1).toNat ((p.size : Int) + 1 + (t.size : Int)).toNat).data.toList = _
  rw [e1, e2]
  generalize p ++ showS (t.size : Int) 1 = q
  have el : q.data.toList.length = q.size := by simp
  have et : t.data.toList.length = t.size := by simp
  have ex : ((q ++ (t ++ r)).extract q.size (q.size + t.size)).data.toList = ((q ++ (t ++ r)).data.toList.drop q.size).take t.size := by rw [ext_toList, Nat.add_sub_cancel_left]
  rw [ex, app_list, app_list, ← el, List.drop_left, ← et, List.take_left]

theorem read_show_op (o : Oq) (h : opOk o = true) : readOp (opShow o) = (o, true) := by
  obtain ⟨hk, hn, ho, ha, hv, he⟩ := opOk_bd o h
  have k1 := ok1 o.k (by omega)
  have k2 := ok1 (o.nm.size : Int) (by omega)
  have k3 := ok1 (o.ot.size : Int) (by omega)
  have k4 := ok1 o.at_ (by omega)
  have k5 := ok2 o.va (by omega)
  have k6 := ok2 o.ep (by omega)
  have l1 := showS_len _ _ k1
  have l2 := showS_len _ _ k2
  have l3 := showS_len _ _ k3
  have l4 := showS_len _ _ k4
  have l5 := showS_len _ _ k5
  have l6 := showS_len _ _ k6
  have sz : ((opShow o).size : Int) = 8 + o.nm.size + o.ot.size + 0 := by
    unfold opShow
    simp only [app_size]
    omega
  -- the kind
  have a1 := read_mid ByteArray.empty (((((((showS (o.nm.size : Int) 1) ++ o.nm) ++ showS (o.ot.size : Int) 1) ++ o.ot) ++ showS o.at_ 1) ++ showS o.va 2) ++ showS o.ep 2) o.k 1 k1
  have e1 : (ByteArray.empty ++ showS o.k 1) ++ (((((((showS (o.nm.size : Int) 1) ++ o.nm) ++ showS (o.ot.size : Int) 1) ++ o.ot) ++ showS o.at_ 1) ++ showS o.va 2) ++ showS o.ep 2) = opShow o := by
    unfold opShow
    simp only [ByteArray.append_assoc, ByteArray.empty_append]
  rw [e1] at a1
  have a1' : okRead (opShow o) 0 1 = true ∧ readN (opShow o) 0 1 = o.k := a1
  -- the names
  have a2 := text_mid (showS o.k 1) o.nm ((((showS (o.ot.size : Int) 1 ++ o.ot) ++ showS o.at_ 1) ++ showS o.va 2) ++ showS o.ep 2) (by omega)
  have e2 : ((showS o.k 1 ++ showS (o.nm.size : Int) 1) ++ o.nm) ++ ((((showS (o.ot.size : Int) 1 ++ o.ot) ++ showS o.at_ 1) ++ showS o.va 2) ++ showS o.ep 2) = opShow o := by
    unfold opShow
    simp only [ByteArray.append_assoc]
  rw [e2, l1] at a2
  have a3 := text_mid ((showS o.k 1 ++ showS (o.nm.size : Int) 1) ++ o.nm) o.ot ((showS o.at_ 1 ++ showS o.va 2) ++ showS o.ep 2) (by omega)
  have e3 : (((((showS o.k 1 ++ showS (o.nm.size : Int) 1) ++ o.nm) ++ showS (o.ot.size : Int) 1) ++ o.ot)) ++ ((showS o.at_ 1 ++ showS o.va 2) ++ showS o.ep 2) = opShow o := by
    unfold opShow
    simp only [ByteArray.append_assoc]
  have p3 : ((((showS o.k 1 ++ showS (o.nm.size : Int) 1) ++ o.nm).size : Nat) : Int) = 1 + 1 + o.nm.size := by
    simp only [app_size]
    omega
  rw [e3, p3] at a3
  -- the numbers
  have a4 := read_mid (((((showS o.k 1 ++ showS (o.nm.size : Int) 1) ++ o.nm) ++ showS (o.ot.size : Int) 1) ++ o.ot)) (showS o.va 2 ++ showS o.ep 2) o.at_ 1 k4
  have e4 : ((((((showS o.k 1 ++ showS (o.nm.size : Int) 1) ++ o.nm) ++ showS (o.ot.size : Int) 1) ++ o.ot)) ++ showS o.at_ 1) ++ (showS o.va 2 ++ showS o.ep 2) = opShow o := by
    unfold opShow
    simp only [ByteArray.append_assoc]
  have p4 : ((((((showS o.k 1 ++ showS (o.nm.size : Int) 1) ++ o.nm) ++ showS (o.ot.size : Int) 1) ++ o.ot).size : Nat) : Int) = 1 + 1 + o.nm.size + 1 + o.ot.size := by
    simp only [app_size]
    omega
  rw [e4, p4] at a4
  have a5 := read_mid ((((((showS o.k 1 ++ showS (o.nm.size : Int) 1) ++ o.nm) ++ showS (o.ot.size : Int) 1) ++ o.ot)) ++ showS o.at_ 1) (showS o.ep 2) o.va 2 k5
  have e5 : (((((((showS o.k 1 ++ showS (o.nm.size : Int) 1) ++ o.nm) ++ showS (o.ot.size : Int) 1) ++ o.ot)) ++ showS o.at_ 1) ++ showS o.va 2) ++ showS o.ep 2 = opShow o := rfl
  have p5 : (((((((showS o.k 1 ++ showS (o.nm.size : Int) 1) ++ o.nm) ++ showS (o.ot.size : Int) 1) ++ o.ot)) ++ showS o.at_ 1).size : Int) = 1 + 1 + o.nm.size + 1 + o.ot.size + 1 := by
    simp only [app_size]
    omega
  rw [e5, p5] at a5
  have a6 := read_mid (((((((showS o.k 1 ++ showS (o.nm.size : Int) 1) ++ o.nm) ++ showS (o.ot.size : Int) 1) ++ o.ot)) ++ showS o.at_ 1) ++ showS o.va 2) ByteArray.empty o.ep 2 k6
  have e6 : ((((((((showS o.k 1 ++ showS (o.nm.size : Int) 1) ++ o.nm) ++ showS (o.ot.size : Int) 1) ++ o.ot)) ++ showS o.at_ 1) ++ showS o.va 2) ++ showS o.ep 2) ++ ByteArray.empty = opShow o := by rw [ByteArray.append_empty]; rfl
  have p6 : ((((((((showS o.k 1 ++ showS (o.nm.size : Int) 1) ++ o.nm) ++ showS (o.ot.size : Int) 1) ++ o.ot)) ++ showS o.at_ 1) ++ showS o.va 2).size : Int) = 1 + 1 + o.nm.size + 1 + o.ot.size + 3 := by
    simp only [app_size]
    omega
  rw [e6, p6] at a6
  generalize opShow o = s at *
  have hr : readAt s (1 + 1 + (o.nm.size : Int)) (1 + 1 + o.nm.size + 1 + o.ot.size) = o := by
    unfold readAt
    rw [a1'.2, a2, a3, a4.2, show (1 + 1 + (o.nm.size : Int) + 1 + o.ot.size + 3) = 1 + 1 + o.nm.size + 1 + o.ot.size + 3 from rfl, a5.2, a6.2]
  unfold readOp
  rw [a2]
  simp only
  rw [a3]
  simp only
  rw [if_pos ⟨a1'.1, by omega⟩, if_pos ⟨by omega, by omega⟩, hr, if_pos h]

theorem ext_join (s : ByteArray) (a b c : Nat) (h1 : a ≤ b) (h2 : b ≤ c) : s.extract a b ++ s.extract b c = s.extract a c := by
  apply ext_list
  rw [app_list]
  have e : ∀ x y, x ≤ y → (s.extract x y).data.toList = (s.data.toList.drop x).take (y - x) := fun x y h => by simp
  rw [e a b h1, e b c h2, e a c (by omega)]
  have : c - a = (b - a) + (c - b) := by omega
  rw [this, List.take_add, List.drop_drop, show a + (b - a) = b by omega]

theorem show_read_op (s : ByteArray) (o : Oq) (h : readOp s = (o, true)) : opShow o = s ∧ opOk o = true := by
  unfold readOp at h
  split at h
  · rename_i h1
    split at h
    · rename_i h2
      split at h
      · rename_i h3
        simp only [Prod.mk.injEq, and_true] at h
        subst h
        refine ⟨?_, h3⟩
        obtain ⟨hr, ht1⟩ := h1
        obtain ⟨ht2, hz⟩ := h2
        clear h3
        -- the first name
        have c1 : okRead s 1 1 = true ∧ readN s 1 1 ≤ (s.size : Int) - 1 - 1 := by
          by_cases q : okRead s 1 1 = true ∧ readN s 1 1 ≤ (s.size : Int) - 1 - 1
          · exact q
          · unfold textN at ht1
            rw [if_neg q] at ht1
            simp at ht1
        have t1 : textN s 1 = (s.extract ((1 : Int) + 1).toNat (1 + 1 + readN s 1 1).toNat, 1 + 1 + readN s 1 1) := by unfold textN; rw [if_pos c1]
        rw [t1] at ht1 ht2 hz
        simp only at ht1 ht2 hz
        have n1 := (readN_range s 1 1).1
        obtain ⟨N, hN⟩ := Int.eq_ofNat_of_zero_le n1
        have c2 : okRead s (1 + 1 + readN s 1 1) 1 = true ∧ readN s (1 + 1 + readN s 1 1) 1 ≤ (s.size : Int) - (1 + 1 + readN s 1 1) - 1 := by
          by_cases q : okRead s (1 + 1 + readN s 1 1) 1 = true ∧ readN s (1 + 1 + readN s 1 1) 1 ≤ (s.size : Int) - (1 + 1 + readN s 1 1) - 1
          · exact q
          · unfold textN at ht2
            rw [if_neg q] at ht2
            simp at ht2
        have t2 : textN s (1 + 1 + readN s 1 1) = (s.extract ((1 + 1 + readN s 1 1) + 1).toNat ((1 + 1 + readN s 1 1) + 1 + readN s (1 + 1 + readN s 1 1) 1).toNat, (1 + 1 + readN s 1 1) + 1 + readN s (1 + 1 + readN s 1 1) 1) := by unfold textN; rw [if_pos c2]
        rw [t2] at ht2 hz
        simp only at ht2 hz
        have n2 := (readN_range s (1 + 1 + readN s 1 1) 1).1
        obtain ⟨M, hM⟩ := Int.eq_ofNat_of_zero_le n2
        have hk := (okRead_iff _ _ _).1 hr
        have hc1 := c1.2
        have hc2 := c2.2
        rw [hM] at hz hc2 t2
        rw [hN] at hz hc1 hc2 t1 t2 hM
        have q0 := show_readN s 0 1 (by omega) (by omega) (by omega)
        have q1 := show_readN s 1 1 (by omega) (by omega) (by omega)
        have q2 := show_readN s (2 + N) 1 (by omega) (by omega) (by omega)
        have q3 := show_readN s (3 + N + M) 1 (by omega) (by omega) (by omega)
        have q4 := show_readN s (4 + N + M) 2 (by omega) (by omega) (by omega)
        have q5 := show_readN s (6 + N + M) 2 (by omega) (by omega) (by omega)
        have hsz : s.size = 8 + N + M := by omega
        have z1 : (s.extract 2 (2 + N)).size = N := by rw [ByteArray.size_extract]; omega
        have z2 : (s.extract (3 + N) (3 + N + M)).size = M := by rw [ByteArray.size_extract]; omega
        have x1 : ((1 : Int) + 1).toNat = 2 := rfl
        have x2 : ((1 : Int) + 1 + (N : Int)).toNat = 2 + N := by omega
        have x3 : ((1 : Int) + 1 + (N : Int) + 1).toNat = 3 + N := by omega
        have x4 : ((1 : Int) + 1 + (N : Int) + 1 + (M : Int)).toNat = 3 + N + M := by omega
        have hNr : readN s 1 1 = (N : Int) := hN
        have hMr : readN s (1 + 1 + (N : Int)) 1 = (M : Int) := hM
        have g1 : (((1 : Nat) : Int)) = 1 := rfl
        have g2 : ((2 + N : Nat) : Int) = 1 + 1 + (N : Int) := by omega
        have g3 : ((3 + N + M : Nat) : Int) = 1 + 1 + (N : Int) + 1 + (M : Int) := by omega
        have g4 : ((4 + N + M : Nat) : Int) = 1 + 1 + (N : Int) + 1 + (M : Int) + 1 := by omega
        have g5 : ((6 + N + M : Nat) : Int) = 1 + 1 + (N : Int) + 1 + (M : Int) + 3 := by omega
        have g6 : ((2 : Nat) : Int) = 2 := rfl
        have g0 : ((0 : Nat) : Int) = 0 := rfl
        rw [g0, g1] at q0
        rw [g1, hNr] at q1
        rw [g2, g1, hMr] at q2
        rw [g3, g1] at q3
        rw [g4, g6] at q4
        rw [g5, g6] at q5
        rw [t1]
        simp only
        rw [t2]
        unfold opShow readAt
        simp only
        rw [t1, t2]
        simp only
        rw [x1, x2, x3, x4, z1, z2, q0, q1, q2, q3, q4, q5]
        rw [ext_join s 0 1 _ (by omega) (by omega), show 1 + 1 = 2 from rfl, ext_join s 0 2 _ (by omega) (by omega), show 2 + N + 1 = 3 + N by omega, ext_join s 0 (2 + N) _ (by omega) (by omega), ext_join s 0 (3 + N) _ (by omega) (by omega), ext_join s 0 (3 + N + M) _ (by omega) (by omega), show 3 + N + M + 1 = 4 + N + M by omega, ext_join s 0 (4 + N + M) _ (by omega) (by omega), show 4 + N + M + 2 = 6 + N + M by omega, ext_join s 0 (6 + N + M) _ (by omega) (by omega), show 6 + N + M + 2 = s.size by omega]
        apply ext_list
        simp
      · simp at h
    · simp at h
  · simp at h

theorem showOp_size (o : Oq) : (showOp o).size ≤ 16 := by
  unfold showOp
  split
  · rename_i h
    obtain ⟨hk, hn, ho, ha, hv, he⟩ := opOk_bd o h
    have l1 := showS_len _ _ (ok1 o.k (by omega))
    have l2 := showS_len _ _ (ok1 (o.nm.size : Int) (by omega))
    have l3 := showS_len _ _ (ok1 (o.ot.size : Int) (by omega))
    have l4 := showS_len _ _ (ok1 o.at_ (by omega))
    have l5 := showS_len _ _ (ok2 o.va (by omega))
    have l6 := showS_len _ _ (ok2 o.ep (by omega))
    unfold opShow
    simp only [app_size]
    omega
  · exact Nat.zero_le _

end Go.Proofs.Ytghhphhnalfjaaa
