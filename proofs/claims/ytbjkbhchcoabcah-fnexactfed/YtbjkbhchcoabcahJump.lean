/-
  A scope in which the run jumps to any of its labels: what holds at each label, and a measure that every pass from a label lowers; what told apart comes to.
-/
import Derived.Test.YtbjkbhchcoabcahFed
import Derived.Test.YtbjkbhchcoabcahImFrame2
import Derived.WalkMore
import Derived.ScopeJumps
namespace Go.Proofs.Ytbjkbhchcoabcah
open Go.RowKit
set_option linter.unusedVariables false
set_option maxRecDepth 100000

/-- As Q; by a goto to a label: what J says there. -/
def jumpsTo (J : Nat → Act → World → Prop) (Q : Exit → Act → World → Prop) : Exit → Act → World → Prop
  | .goto l, a, w => J l a w
  | e, a, w => Q e a w
theorem jumpsTo_normal {J : Nat → Act → World → Prop} {Q : Exit → Act → World → Prop} {a : Act} {w : World} : jumpsTo J Q .normal a w = Q .normal a w := rfl
theorem jumpsTo_ret {J : Nat → Act → World → Prop} {Q : Exit → Act → World → Prop} {a : Act} {w : World} : jumpsTo J Q .ret a w = Q .ret a w := rfl
theorem jumpsTo_goto {J : Nat → Act → World → Prop} {Q : Exit → Act → World → Prop} {a : Act} {w : World} {l : Nat} : jumpsTo J Q (.goto l) a w = J l a w := rfl

theorem wp_scope_labels {P : Program} {a : Act} {w : World} {Q : Exit → Act → World → Prop} {c : Code} (J : Nat → Act → World → Prop) (μ : Nat → Act → World → Nat)
    (first : c.wp P (jumpsTo J Q) a w)
    (pass : ∀ l a w, J l a w → ∃ rest, findLabel c l = some rest ∧ rest.wp P (jumpsTo (fun l' a' w' => J l' a' w' ∧ μ l' a' w' < μ l a w) Q) a w) : (Code.scope c).wp P Q a w := by
  intro b k cs
  have key : ∀ n l a w, μ l a w = n → J l a w → ∃ rest, gotoIn l (.inScope c :: k) = some (.code rest :: .inScope c :: k) ∧ ∃ e a' w', Q e a' w' ∧ Arrives P (lone (b.at a (.code rest :: .inScope c :: k)) cs w) b k cs e a' w' := by
    intro n
    induction n using Nat.strongRecOn with
    | _ n ih =>
      intro l a w hn hJ
      obtain ⟨rest, hf, hp⟩ := pass l a w hJ
      refine ⟨rest, by simp [gotoIn, hf], ?_⟩
      obtain ⟨e, a₁, w₁, hq, harr⟩ := hp b (.inScope c :: k) cs
      cases e with
      | normal => exact ⟨.normal, a₁, w₁, hq, Steps.trans harr (.one step_inScope)⟩
      | exit id => exact ⟨.exit id, a₁, w₁, hq, fun k' hk => harr k' (by simp [exitTo, hk])⟩
      | goto l' =>
        obtain ⟨hJ', hlt⟩ := hq
        obtain ⟨rest', hg', e₂, a₂, w₂, hq₂, harr₂⟩ := ih _ (by omega) l' a₁ w₁ rfl hJ'
        exact ⟨e₂, a₂, w₂, hq₂, .of_steps (harr _ hg') harr₂⟩
      | ret => exact ⟨_, a₁, w₁, hq, harr⟩
      | panic ch => exact ⟨_, a₁, w₁, hq, harr⟩
      | outgrown => exact ⟨_, a₁, w₁, hq, harr⟩
  obtain ⟨e, a₁, w₁, hq, harr⟩ := first b (.inScope c :: k) cs
  cases e with
  | normal => exact ⟨.normal, a₁, w₁, hq, .head step_scope (Steps.trans harr (.one step_inScope))⟩
  | exit id => exact ⟨.exit id, a₁, w₁, hq, fun k' hk => .head step_scope (harr k' (by simp [exitTo, hk]))⟩
  | goto l' =>
    obtain ⟨rest', hg', e₂, a₂, w₂, hq₂, harr₂⟩ := key _ l' a₁ w₁ rfl hq
    exact ⟨e₂, a₂, w₂, hq₂, .of_steps (.head step_scope (harr _ hg')) harr₂⟩
  | ret => exact ⟨_, a₁, w₁, hq, .of_steps (.one step_scope) harr⟩
  | panic ch => exact ⟨_, a₁, w₁, hq, .of_steps (.one step_scope) harr⟩
  | outgrown => exact ⟨_, a₁, w₁, hq, .of_steps (.one step_scope) harr⟩

/-- As wp_scope_labels, where the run falls into the first label: what follows that label is walked once. -/
theorem wp_scope_enter {P : Program} {a : Act} {w : World} {Q : Exit → Act → World → Prop} {c d : Code} (l0 : Nat) (hd : findLabel c l0 = some (.seq .skip d)) (J : Nat → Act → World → Prop) (μ : Nat → Act → World → Nat) (a0 : Act) (w0 : World)
    (first : d.wp P (jumpsTo J Q) a0 w0 → c.wp P (jumpsTo J Q) a w) (h0 : J l0 a0 w0)
    (look : ∀ a w, J l0 a w → d.wp P (jumpsTo (fun l' a' w' => J l' a' w' ∧ μ l' a' w' < μ l0 a w) Q) a w)
    (pass : ∀ l a w, l ≠ l0 → J l a w → ∃ rest, findLabel c l = some rest ∧ rest.wp P (jumpsTo (fun l' a' w' => J l' a' w' ∧ μ l' a' w' < μ l a w) Q) a w) : (Code.scope c).wp P Q a w := by
  refine wp_scope_labels J μ (first ?_) ?_
  · intro b k cs
    obtain ⟨e, a1, w1, hq, harr⟩ := look a0 w0 h0 b k cs
    refine ⟨e, a1, w1, ?_, harr⟩
    cases e with
    | goto l => exact hq.1
    | _ => exact hq
  · intro l a w hJ
    by_cases hl : l = l0
    · subst hl
      exact ⟨_, hd, wp_seq (wp_skip (look a w hJ))⟩
    · exact pass l a w hl hJ

/-- Where the telling apart stands, label by label. -/
def ToldAt (s : ByteArray) (k : Int) (w : World) (l : Nat) (a' : Act) (w' : World) : Prop :=
  ∃ (p j : Nat) (xs : List ByteArray) (v b tx u1 u4 u8 u9 u10 u11 u12 u13 u14 u15 u16 u17 u18 u19 u20 u21 u22 u23 u24 u25 u26 u27 u28 u29 u30 u31 u32 u33 u34 : Value), a' = { tmps := #[.string s, u1, v, .int .i64 (j : Int), u4, .int .i64 (p : Int), b, tx, u8, u9, u10, u11, u12, u13, u14, u15, u16, u17, u18, u19, u20, u21, u22, u23, u24, u25, u26, u27, u28, u29, u30, u31, u32, u33, u34], defers := [] } ∧
    Fr.FedUpon s k xs p (min 1000000 (k + j)) ∧ j ≤ p ∧ w'.ownsRow w.heap.size 9 1 v xs.length (xs.map Value.string) ∧ v ≠ .slice none 0 0 ∧ Below w.heap.size w w' ∧
    (l = 0 ∨ (l = 1 ∧ Fr.frEnd s p = -1) ∨ (l = 2 ∧ Fr.frEnd s p = -2) ∨ (l = 3 ∧ 0 ≤ Fr.frEnd s p ∧ b = .int .i64 (Fr.frEnd s p) ∧ tx = .string (Fr.frText s p)))
/-- How much is left at a label. -/
def toldLeft (s : ByteArray) (l : Nat) (a' : Act) : Nat := 2 * (s.size + 1 - (intOf (a'.tmps.getD 5 undef)).toNat) + (if l = 0 then 1 else 0)

set_option maxHeartbeats 1600000 in
theorem toldApart_any (s : ByteArray) (k : Int) (w : World) (hs : s.size ≤ 1063) (hk0 : 0 ≤ k) (hk1 : k ≤ 1000000) :
    Calls Try.prog 40 #[.string s] w fun e w' => ∃ (v : Value) (xs : List ByteArray) (j p : Nat), e = .returned (.tuple #[v, .int .i64 j, .string (Fr.rest s p)]) ∧ Fr.fedF s (s.size + 1) 0 k = (xs, p, min 1000000 (k + j)) ∧ j ≤ s.size ∧
      w'.ownsRow w.heap.size 9 1 v xs.length (xs.map Value.string) ∧ v ≠ .slice none 0 0 ∧ Below w.heap.size w w' := by
  obtain ⟨i0, hi, hz0, hz1, hz2⟩ := info_parts Try.infoStr
  go_enter Try.func40, Try.ntmps40
  go_wp2_with fail
  refine wp_scope_enter 0 rfl (ToldAt s k w) (fun l a _ => toldLeft s l a) ({ tmps := #[.string s, undef, .slice (some ⟨w.heap.size, 0, none⟩) 0 0, .int .i64 0, .string ⟨#[]⟩, .int .i64 0, .int .i64 0, .string ⟨#[]⟩, .slice (some ⟨w.heap.size, 0, none⟩) 0 0, undef, undef, undef, undef, undef, undef, undef, undef, undef, undef, undef, undef, undef, undef, undef, undef, undef, undef, undef, undef, undef, undef, undef, undef, undef, undef], defers := [] }) (w.alloc (.cells #[] 9)) ?first ?h0 ?look ?pass
  case first =>
    intro hd
    go_wp2_with fail
    go_step3
    rename_i hK
    exact hK _ _ hd
  case h0 =>
    have own0 := World.ownsRow_lit (base := w.heap.size) (size := 1) (e := 9) w #[] 0 (Nat.le_refl _) (Nat.zero_le _) rfl
    refine ⟨0, 0, [], _, _, _, _, _, _, _, _, _, _, _, _, _, _, _, _, _, _, _, _, _, _, _, _, _, _, _, _, _, _, _, _, rfl, ?_, Nat.le_refl _, own0, by simp, (Below.refl _ _).alloc (Nat.le_refl _) _, .inl rfl⟩
    have := Fr.fedUpon_start s k hk0 hk1
    rwa [show min 1000000 (k + ((0 : Nat) : Int)) = k by omega]
  case look =>
    rintro a w1 ⟨p, j, xs, v, b, tx, u1, u4, u8, u9, u10, u11, u12, u13, u14, u15, u16, u17, u18, u19, u20, u21, u22, u23, u24, u25, u26, u27, u28, u29, u30, u31, u32, u33, u34, rfl, hup, hj, own, hnv, hbw, -⟩
    dsimp only
    have hle := Fr.fedUpon_le s k _ xs p hup
    have HU : Hid (Fr.FedUpon s k xs p (min 1000000 (k + j))) := hup
    have HNV : Hid (v ≠ Value.slice none 0 0) := hnv
    clear hup hnv
    go_wp2_with fail
    refine (implFrame_any s p _ (by omega)).mono ?_
    rintro e w2 ⟨rfl, b2⟩
    have own2 := owns_below own b2
    have hb2 := hbw.trans (b2.mono hbw.size)
    clear own hbw b2
    rcases Fr.three s p with he | he | he
    · obtain ⟨q, hq⟩ := Int.eq_ofNat_of_zero_le he
      have HE : Hid (0 ≤ Fr.frEnd s p ∧ Fr.frEnd s p = q) := ⟨he, hq⟩
      rw [hq]
      generalize htx : Fr.frText s p = t at *
      have HT : Hid (Fr.frText s p = t) := htx
      clear he hq htx
      go_wp2_with fail
      go_step3
      show ToldAt s k w 3 _ _ ∧ toldLeft s 3 _ < toldLeft s 0 _
      refine ⟨⟨p, j, xs, _, _, _, _, _, _, _, _, _, _, _, _, _, _, _, _, _, _, _, _, _, _, _, _, _, _, _, _, _, _, _, _, rfl, HU.out, hj, own2, HNV.out, hb2, .inr (.inr (.inr ⟨rfl, HE.out.1, by rw [HE.out.2], by rw [HT.out]⟩))⟩, ?_⟩
      simp [toldLeft, intOf]
    · rw [he]
      go_wp2_with fail
      go_step3
      show ToldAt s k w 1 _ _ ∧ toldLeft s 1 _ < toldLeft s 0 _
      refine ⟨⟨p, j, xs, _, _, _, _, _, _, _, _, _, _, _, _, _, _, _, _, _, _, _, _, _, _, _, _, _, _, _, _, _, _, _, _, rfl, HU.out, hj, own2, HNV.out, hb2, .inr (.inl ⟨rfl, he⟩)⟩, ?_⟩
      simp [toldLeft, intOf]
    · rw [he]
      go_wp2_with fail
      go_step3
      show ToldAt s k w 2 _ _ ∧ toldLeft s 2 _ < toldLeft s 0 _
      refine ⟨⟨p, j, xs, _, _, _, _, _, _, _, _, _, _, _, _, _, _, _, _, _, _, _, _, _, _, _, _, _, _, _, _, _, _, _, _, rfl, HU.out, hj, own2, HNV.out, hb2, .inr (.inr (.inl ⟨rfl, he⟩))⟩, ?_⟩
      simp [toldLeft, intOf]
  case pass =>
    rintro l a w1 hl ⟨p, j, xs, v, b, tx, u1, u4, u8, u9, u10, u11, u12, u13, u14, u15, u16, u17, u18, u19, u20, u21, u22, u23, u24, u25, u26, u27, u28, u29, u30, u31, u32, u33, u34, rfl, hup, hj, own, hnv, hbw, h⟩
    have hle := Fr.fedUpon_le s k _ xs p hup
    have HU : Hid (Fr.FedUpon s k xs p (min 1000000 (k + j))) := hup
    have HNV : Hid (v ≠ Value.slice none 0 0) := hnv
    clear hup hnv
    rcases h with h | ⟨rfl, he⟩ | ⟨rfl, he⟩ | ⟨rfl, he, rfl, rfl⟩
    · exact absurd h hl
    · -- a byte that begins none
      refine ⟨_, rfl, ?_⟩
      dsimp only
      have HN : Hid (Fr.FedUpon s k xs (p + 1) (min 1000000 (k + ((j + 1 : Nat) : Int)))) := by
        have h := Fr.fedUpon_bad s k _ xs p HU.out he
        rwa [show min 1000000 (min 1000000 (k + (j : Int)) + 1) = min 1000000 (k + ((j + 1 : Nat) : Int)) by omega] at h
      have hlt := Fr.bad_lt s p hle.1 he
      clear he
      go_wp2_with fail
      go_step3
      have e1 : (p : Int) + 1 = ((p + 1 : Nat) : Int) := by omega
      have e2 : (j : Int) + 1 = ((j + 1 : Nat) : Int) := by omega
      rw [e1, e2]
      show ToldAt s k w 0 _ _ ∧ toldLeft s 0 _ < toldLeft s 1 _
      refine ⟨⟨p + 1, j + 1, xs, _, _, _, _, _, _, _, _, _, _, _, _, _, _, _, _, _, _, _, _, _, _, _, _, _, _, _, _, _, _, _, _, rfl, HN.out, by omega, own, HNV.out, hbw, .inl rfl⟩, ?_⟩
      simp [toldLeft, intOf]
      omega
    · -- nothing more is told
      refine ⟨_, rfl, ?_⟩
      dsimp only
      have HE : Hid (Fr.fedF s (s.size + 1) 0 k = (xs, p, min 1000000 (k + j))) := Fr.fedUpon_end s k _ xs p HU.out he
      have hsl : s.extract p s.size = Fr.rest s p := rfl
      have hrz := Fr.rest_size s p
      have hp0 : (0 : Int) ≤ (p : Int) := by omega
      have hp1 : (p : Int) ≤ (s.size : Int) := by omega
      generalize hR : Fr.rest s p = R at hsl hrz
      have HR : Hid (Fr.rest s p = R) := hR
      clear hR he
      go_wp2_with fail
      refine (clone_any R _ (by omega)).mono ?_
      rintro e w2 ⟨rfl, b2⟩
      have own2 := owns_below own b2
      have hb2 := hbw.trans (b2.mono hbw.size)
      go_wp2_with fail
      rw [jumpsTo_ret]
      go_ret3
      exact ⟨v, xs, j, p, by rw [HR.out]; rfl, HE.out, by omega, own2, HNV.out, hb2⟩
    · -- a frame
      refine ⟨_, rfl, ?_⟩
      dsimp only
      have hbd := Fr.frEnd_bd s p
      have HN : Hid (Fr.FedUpon s k (xs ++ [Fr.frText s p]) (Fr.frEnd s p).toNat (min 1000000 (k + j))) := Fr.fedUpon_text s k _ xs p HU.out he
      obtain ⟨q, hq⟩ := Int.eq_ofNat_of_zero_le he
      generalize Fr.frText s p = tx at HN ⊢
      rw [hq] at HN hbd he ⊢
      clear hq
      have hsz : w.heap.size ≤ w1.heap.size := hbw.size
      go_wp2_with (at_builtin; refine wpList_append_own _ rfl _ _ 22 rfl w.heap.size 9 i0 (.string ByteArray.empty) 1 16 Try.underlying22 hi hz0 hz1 hz2 rfl (by decide) _ _ _ rfl (own.alloc _) ⟨w1.heap.size, 0, none⟩ 1 1 [.string tx] rfl rfl ?c1 ?c2 ?c3 ?c4 ?c5 ?_)
      case c1 => exact new_one _ _ _
      case c2 => intro u hu; simp at hu; subst hu; rfl
      case c3 => unfold maxLen; omega
      case c4 => omega
      case c5 => simp; omega
      intro v' w3 hown' hgrow hnil
      have HNV2 : Hid (v' ≠ Value.slice none 0 0) := hnil
      clear hnil
      have hrow := fun q hq => (own.lt q hq).1
      have hb3 : Below w.heap.size w w3 := (hbw.alloc hsz _).grown hgrow (by simp; omega) hrow
      clear own hgrow hrow
      go_wp2_with fail
      go_step3
      show ToldAt s k w 0 _ _ ∧ toldLeft s 0 _ < toldLeft s 3 _
      refine ⟨⟨q, j, xs ++ [tx], _, _, _, _, _, _, _, _, _, _, _, _, _, _, _, _, _, _, _, _, _, _, _, _, _, _, _, _, _, _, _, _, rfl, HN.out, by omega, by simpa using hown', HNV2.out, hb3, .inl rfl⟩, ?_⟩
      simp [toldLeft, intOf]
      omega

end Go.Proofs.Ytbjkbhchcoabcah
