/-
  Contracts and plain laws, one chapter behind the other.
-/
import Derived.Test.YtcefcglonooelaaGreatDoorB01
import Derived.Test.YtcefcglonooelaaGreatDoorB06
import Derived.Test.YtcefcglonooelaaGreatDoorB08
import Derived.Test.YtcefcglonooelaaGreatDoorB14
import Derived.Test.YtcefcglonooelaaGreatDoorB23
import Derived.Test.YtcefcglonooelaaGreatDoorB25
namespace Go.Proofs.YtcefcglonooelaaGreatDoor
set_option linter.unusedVariables false

set_option maxRecDepth 100000


def Pv.zero : Pv := ⟨ByteArray.empty, 0, [], false, 0⟩

def plainAt (l : List Pv) (i : Nat) : Pv := l.getD i Pv.zero

def putV (l : List Pv) (p : Pv) : List Pv := l.take (insertAt (l.map Pv.pb) p.nm) ++ [p] ++ l.drop (insertAt (l.map Pv.pb) p.nm)

def doOne (l : List Pv) (o : Oq) (i : Nat) (p : Pv) : List Pv × (Int × Int) :=
  if o.k = 9 then (l, (0, p.vs.getD o.at_.toNat 0))
  else if o.k = 8 then (l.set i { p with ep := p.ep + 1 }, (0, p.ep + 1))
  else if o.k = 7 then (l.set i { p with sz := o.va, vs := (p.vs ++ List.replicate 16 0).take o.va.toNat }, (0, 0))
  else if o.k = 3 then (l.set i { p with vs := p.vs.set o.at_.toNat 0 }, (0, 0))
  else (l.set i { p with vs := p.vs.set o.at_.toNat o.va }, (0, 0))

/-- What is done to right plains; told: what the shelf told. -/
def doPlain (l : List Pv) (o : Oq) (told : Int) : List Pv × (Int × Int) :=
  if opOk o = false then (l, (1, 0))
  else if refused (l.map Pv.pb) o ≠ 0 then (l, (refused (l.map Pv.pb) o, 0))
  else if o.k = 2 ∧ told = 9 then (l, (9, 0))
  else if o.k = 1 then (putV l ⟨o.nm, o.va, List.replicate o.va.toNat 0, false, 0⟩, (0, 0))
  else if o.k = 6 then (l.take (findP (l.map Pv.pb) o.nm).toNat ++ l.drop ((findP (l.map Pv.pb) o.nm).toNat + 1), (0, 0))
  else if kOther o.k = true then (putV l ⟨o.ot, (plainAt l (findP (l.map Pv.pb) o.nm).toNat).sz, (plainAt l (findP (l.map Pv.pb) o.nm).toNat).vs, decide (o.k = 4), 0⟩, (0, 0))
  else doOne l o (findP (l.map Pv.pb) o.nm).toNat (plainAt l (findP (l.map Pv.pb) o.nm).toNat)

def didPlain (l : List Pv) (o : Oq) (told : Int) : List Pv × (Int × Int) := if plainsOk l = true then doPlain l o told else ([], (1, 0))
end Go.Proofs.YtcefcglonooelaaGreatDoor

namespace Go.Proofs.YtcefcglonooelaaGreatDoor
open Go.RowKit

set_option linter.unusedVariables false

set_option maxRecDepth 100000


theorem plains_one (bks : List Pk) (h : ∀ b ∈ bks, ∃ o k cp, b.m = .slice o k cp) : ∀ u ∈ bks.flatMap pkC, u.oneCell' = true := fun u hu => by
  obtain ⟨b, hb, hu⟩ := List.mem_flatMap.1 hu
  exact one_plain b (h b hb) u hu

theorem plain_facts {wx X : World} {n : Nat} {x0 x1 x2 x3 x4 : Value} {U : TypeId} (bX : Below wx.heap.size wx X) (k : wx.heap[n]? = some (.cells #[x0, x1, x2, x3, x4] U (0, 0))) :
    X.cell? ⟨n, 0, none⟩ = some x0 ∧ X.cell? ⟨n, 1, none⟩ = some x1 ∧ X.cell? ⟨n, 2, none⟩ = some x2 ∧ X.cell? ⟨n, 3, none⟩ = some x3 ∧ X.cell? ⟨n, 4, none⟩ = some x4 := by
  have h2 := (bX.block _ (heap_lt k)).trans k
  exact ⟨at_cell h2 0, at_cell h2 1, at_cell h2 2, at_cell h2 3, at_cell h2 4⟩

theorem ins_endP {base q : Nat} {w wx wd : World} {vb : Value} {bks : List Pk} {x : Pk} {od : Option Addr} {cd : Nat} (hq : q ≤ bks.length) (hbase : base ≤ w.heap.size) (d2 : Below w.heap.size w wx) (st2 : OwnK base wx vb bks) (hm2 : wx.ownsRow base 2 1 x.m x.rs.length (x.rs.flatMap intC)) (bd : Below wx.heap.size wx wd)
    (ownd : wd.ownsRow wx.heap.size 51 5 (.slice od (0 + q + 1 + (bks.length - q)) cd) (0 + q + 1 + (bks.length - q)) ([] ++ (bks.take q).flatMap pkC ++ pkC x ++ (bks.drop q).flatMap pkC)) :
    OwnK base wd (.slice od (q + 1 + (bks.length - q)) cd) (bks.take q ++ [x] ++ bks.drop q) ∧ Below w.heap.size w wd := by
  rw [Nat.zero_add] at ownd
  have hl : (bks.take q ++ [x] ++ bks.drop q).length = q + 1 + (bks.length - q) := by
    rw [List.length_append, List.length_append, List.length_take, List.length_drop, Nat.min_eq_left hq]
    rfl
  have hf : (bks.take q ++ [x] ++ bks.drop q).flatMap pkC = [] ++ (bks.take q).flatMap pkC ++ pkC x ++ (bks.drop q).flatMap pkC := by
    rw [List.flatMap_append, List.flatMap_append, List.nil_append]
    simp
  have hbx : base ≤ wx.heap.size := Nat.le_trans hbase d2.size
  refine ⟨⟨by rw [hl, hf]; exact owns_mono ownd hbx, fun y hy => ?_⟩, bw_call d2 bd⟩
  rcases List.mem_append.1 hy with hy | hy
  · rcases List.mem_append.1 hy with hy | hy
    · exact owns_below (st2.maps y (List.mem_of_mem_take hy)) bd
    · simp only [List.mem_singleton] at hy
      subst hy
      exact owns_below hm2 bd
  · exact owns_below (st2.maps y (List.mem_of_mem_drop hy)) bd

set_option maxHeartbeats 6400000 in
theorem l9Insert_any (base g cap : Nat) (bks : List Pk) (x : Pk) (w : World) (hbase : base ≤ w.heap.size) (own : OwnK base w (.slice (some ⟨g, 0, none⟩) bks.length cap) bks) (hn : bks.length ≤ 1048576) (hm : w.ownsRow base 2 1 x.m x.rs.length (x.rs.flatMap intC)) :
    Calls Tryz.prog 85 #[.slice (some ⟨g, 0, none⟩) bks.length cap, .agg #[.string x.nm, .int .i64 x.sz, x.m, .bool x.fx, .int .i64 x.ep]] w fun e w' => ∃ v' : Value, e = .returned v' ∧ OwnK base w' v' (bks.take (insertAt ((bks.map Pk.pv).map Pv.pb) x.nm) ++ [x] ++ bks.drop (insertAt ((bks.map Pk.pv).map Pv.pb) x.nm)) ∧ v' ≠ .slice none 0 0 ∧ Below w.heap.size w w' := by
  obtain ⟨i0, hi, hz0, hz1, hz2⟩ := info_parts Tryz.infoPlain
  obtain ⟨xn, xz, xm, xr, xf, xe⟩ := x
  obtain ⟨mo, mc, hmf⟩ := own_slice hm
  simp only at hmf hm
  subst hmf
  obtain ⟨W0, hW0, k0, d0, z0⟩ := box1 w #[.string xn, .int .i64 xz, .slice mo xr.length mc, .bool xf, .int .i64 xe] 51
  have HW0 : Hid (W0 = _) := hW0
  have st0 := own.below d0
  have hm0 := owns_below hm d0
  have l0 := heap_lt k0
  clear hW0 hm
  obtain ⟨bs, hbs⟩ : ∃ bs, (bks.map Pk.pv).map Pv.pb = bs := ⟨_, rfl⟩
  have HBL : Hid (bs.length = bks.length) := by rw [Hid, ← hbs, List.length_map, List.length_map]
  have HAT : Hid (∀ (j : Nat) (h1 : j < bks.length) (h2 : j < bs.length), bs[j].nm = bks[j].nm) := fun j h1 h2 => by subst hbs; simp [Pk.pv, Pv.pb]
  rw [hbs]
  simp only
  go_enter Tryz.func85, Tryz.ntmps85
  go_upto_block 0 with fail
  rw [← HW0.out]
  clear HW0
  go_cut [5] (fun i wr => i = .int .i64 (insertAt bs xn : Nat) ∧ Below W0.heap.size W0 wr)
  case first =>
    go_wp2_with fail
    go_loopw [5] (fun i wr => ∃ q : Nat, q ≤ bks.length ∧ i = .int .i64 q ∧ (∀ j (hj : j < bs.length), j < q → ltB bs[j].nm xn = true) ∧ Below W0.heap.size W0 wr) (fun i _ => bks.length - (intOf i).toNat)
    case atStart => exact ⟨0, Nat.zero_le _, rfl, fun j _ hj => by omega, Below.refl _ _⟩
    case round =>
      obtain ⟨q, hq, rfl, hlt, hb⟩ := hrel
      have HL : Hid _ := hlt
      have st1 := st0.below hb
      have k1 := (hb.block _ l0).trans k0
      have pN := at_cell k1 0
      clear hlt
      by_cases hql : q < bks.length
      · have i0' : (0 : Int) ≤ (q : Int) := by omega
        have i1' : (q : Int) < (bks.length : Int) := by omega
        have id : decide ((q : Int) < (bks.length : Int)) = true := decide_eq_true i1'
        have id2 : decide (q < bks.length) = true := decide_eq_true hql
        obtain ⟨⟨a0, -, -, -, -⟩, -⟩ := own_fiveK st1.row q hql
        have HA : Hid _ := HAT.out q hql (by have := HBL.out; omega)
        generalize bks[q].nm = qn at a0 HA
        obtain ⟨ly, hly⟩ : ∃ y, Op.bytesLess qn.toList xn.toList = y := ⟨_, rfl⟩
        have HLY : Hid (ltB qn xn = ly) := hly
        cases ly
        · have HQ0 : Hid (insertAt bs xn = q) := insertAt_eq bs xn q (by have := HBL.out; omega) HL.out (fun h => by rw [HA.out]; exact HLY.out)
          clear st1 k1
          go_wp2_with fail
          go_quiet (fail)
          go_wp2_with fail
          go_meet
          exact ⟨by rw [HQ0.out], ⟨hb.os, hb.tape, hb.output, hb.size, hb.block⟩⟩
        · have HL2 : Hid (∀ j (hj : j < bs.length), j < q + 1 → ltB bs[j].nm xn = true) := fun j hj h => by
            rcases Nat.lt_or_ge j q with r | r
            · exact HL.out j hj r
            · obtain rfl : j = q := by omega
              rw [HA.out]
              exact HLY.out
          clear st1 k1
          go_wp2_with fail
          go_quiet (fail)
          go_wp2_with fail
          go_roundw
          case rel => exact ⟨q + 1, by omega, by go_num, HL2.out, ⟨hb.os, hb.tape, hb.output, hb.size, hb.block⟩⟩
          case measure => simp [intOf]; omega
      · have id : decide ((q : Int) < (bks.length : Int)) = false := decide_eq_false (by omega)
        have id2 : decide (q < bks.length) = false := decide_eq_false hql
        have HQ0 : Hid (insertAt bs xn = q) := insertAt_eq bs xn q (by have := HBL.out; omega) HL.out (fun h => by have := HBL.out; omega)
        clear st1 k1
        go_wp2_with fail
        go_quiet (fail)
        go_wp2_with fail
        go_meet
        exact ⟨by rw [HQ0.out], ⟨hb.os, hb.tape, hb.output, hb.size, hb.block⟩⟩
  case rest =>
    obtain ⟨rfl, hb⟩ := hcut
    have hq : insertAt bs xn ≤ bks.length := by have := insertAt_le bs xn; have := HBL.out; omega
    clear HAT HBL
    have HQE : Hid (∃ q, insertAt bs xn = q) := ⟨_, rfl⟩
    obtain ⟨q, hqe⟩ := HQE.out
    have HQ : Hid (insertAt bs xn = q) := hqe
    rw [hqe] at hq ⊢
    clear HQE hqe
    generalize wc = wy at *
    have st1 := st0.below hb
    have k1 := (hb.block _ l0).trans k0
    have hm1 := owns_below hm0 hb
    have d1 := bw_call d0 hb
    have hcl : bks.length ≤ cap := by
      rcases st1.row.2 with ⟨e, _⟩ | ⟨g', cap', cur, e, _, hh, h1, _⟩
      · simp at e
      · simp only [Value.slice.injEq, Option.some.injEq, Addr.mk.injEq, and_true, true_and] at e
        omega
    have rr : ReadsR 5 pkC wy.heap.size wy (.slice (some ⟨g, 0, none⟩) bks.length cap) bks := ReadsR.of_own pkC_len st1.row
    have hfm : ∀ b ∈ bks, ∃ o k cp, b.m = .slice o k cp := fun b hbm => by obtain ⟨o, c, e⟩ := own_slice (st1.maps b hbm); exact ⟨_, _, _, e⟩
    have HD : Hid (∀ u ∈ (bks.drop q).flatMap pkC, u.oneCell' = true) := plains_one _ (fun b hb => hfm b (List.mem_of_mem_drop hb))
    have HT : Hid (∀ u ∈ (bks.take q).flatMap pkC, u.oneCell' = true) := plains_one _ (fun b hb => hfm b (List.mem_of_mem_take hb))
    have HDL : Hid (((bks.drop q).flatMap pkC).length = (bks.length - q) * 5) := by rw [Hid, flat_length pkC_len, List.length_drop]
    have HTL : Hid (((bks.take q).flatMap pkC).length = q * 5) := by rw [Hid, flat_length pkC_len, List.length_take, Nat.min_eq_left hq]
    clear st0 k0 hm0 d0 hb z0 l0 hfm own hbs
    go_upto_region 4 with fail
    go_cut [6] (fun v wx => wx.ownsRow wy.heap.size 51 5 v (bks.length - q) ((bks.drop q).flatMap pkC) ∧ v ≠ .slice none 0 0 ∧ Below wy.heap.size wy wx)
    case first =>
      have own0 := own_noplains wy
      have rd : ReadsR 5 pkC (wy.alloc (.cells #[] 51)).heap.size (wy.alloc (.cells #[] 51)) (.slice (some ⟨g, 0, none⟩) bks.length cap) bks := (rr.below (bw_alloc (Below.refl _ _))).mono (by simp)
      have j0 : (0 : Int) ≤ (q : Int) := by omega
      have j1 : (q : Int) ≤ (bks.length : Int) := by omega
      have j2 : (q : Int) ≤ (cap : Int) := by omega
      have HM : Hid (0 + (bks.length - q) ≤ maxLen) := by rw [Hid]; unfold maxLen; omega
      have HBY : Hid ((0 + (bks.length - q)) * 64 ≤ 140737488355328) := by rw [Hid]; omega
      have HSZ : Hid (wy.heap.size ≤ (wy.alloc (.cells #[] 51)).heap.size) := by rw [Hid]; simp
      by_cases hqc : cap = q
      · have hql : bks.length = q := by omega
        have hdr : (bks.drop q).flatMap pkC = [] := by rw [List.drop_of_length_le (by omega)]; rfl
        have HF : Hid ((wy.alloc (.cells #[] 51)).ownsRow wy.heap.size 51 5 (.slice (some ⟨wy.heap.size, 0, none⟩) 0 0) (bks.length - q) ((bks.drop q).flatMap pkC) ∧ Value.slice (some ⟨wy.heap.size, 0, none⟩) 0 0 ≠ .slice none 0 0 ∧ Below wy.heap.size wy (wy.alloc (.cells #[] 51))) := by
          rw [Hid, hdr, hql, Nat.sub_self]
          exact ⟨own0, by simp, bw_alloc (Below.refl _ _)⟩
        clear hdr HDL rd own0 HD HT HTL
        go_wp2_with fail
        go_meet
        exact HF.out
      · have rd2 := rd.drop q hq
        rw [Nat.zero_add] at rd2
        have HSRC : Hid _ := flat_src pkC_len (by decide) rd2
        clear rd2
        go_wp2_with (at_builtin; refine wpList_append_reads rfl _ _ 24 rfl wy.heap.size 51 i0 (.agg #[.string ByteArray.empty, .int .i64 0, .slice none 0 0, .bool false, .int .i64 0]) 5 64 Tryz.underlying24 hi hz0 hz1 hz2 rfl (by decide) (.slice (some ⟨wy.heap.size, 0, none⟩) 0 0) 0 [] rfl own0 (some ⟨g, q * 5, none⟩) (bks.length - q) (cap - q) ((bks.drop q).flatMap pkC) rfl HDL.out HSRC.out HD.out HM.out HBY.out HSZ.out ?_)
        intro v' w3 hown hgrow hnil
        have hown2 : w3.ownsRow wy.heap.size 51 5 v' (bks.length - q) ((bks.drop q).flatMap pkC) := by simpa using hown
        have hb3 : Below wy.heap.size wy w3 := (bw_alloc (Below.refl _ _)).grown hgrow (by simp) (fun z hz => (own0.lt z hz).1)
        have HF : Hid (w3.ownsRow wy.heap.size 51 5 v' (bks.length - q) ((bks.drop q).flatMap pkC) ∧ v' ≠ .slice none 0 0 ∧ Below wy.heap.size wy w3) := ⟨hown2, hnil, hb3⟩
        clear hown hgrow hnil hown2 hb3 own0 rd HSRC
        go_wp2_with fail
        go_meet
        exact HF.out
    case rest =>
      obtain ⟨own6, hn6, b6⟩ := hcut
      generalize wc = wx at *
      have st2 := st1.below b6
      have k2 := (b6.block _ (heap_lt k1)).trans k1
      have d2 := bw_call d1 b6
      have hm2 := owns_below hm1 b6
      have rT := ((rr.take q hq).below b6).mono b6.size
      obtain ⟨e00, e01, e02, e03, e04⟩ := plain_facts (X := wx.drew) ((Below.refl _ _).drew) k2
      obtain ⟨e10, e11, e12, e13, e14⟩ := plain_facts (X := (wx.alloc (.cells #[] 51)).drew) ((bw_alloc (Below.refl _ _)).drew) k2
      obtain ⟨e20, e21, e22, e23, e24⟩ := plain_facts (X := (wx.alloc (.cells #[.string xn, .int .i64 xz, .slice mo xr.length mc, .bool xf, .int .i64 xe] 51)).drew) ((bw_alloc (Below.refl _ _)).drew) k2
      obtain ⟨e30, e31, e32, e33, e34⟩ := plain_facts (X := ((wx.alloc (.cells #[] 51)).alloc (.cells #[.string xn, .int .i64 xz, .slice mo xr.length mc, .bool xf, .int .i64 xe] 51)).drew) ((bw_alloc (bw_alloc (Below.refl _ _))).drew) k2
      obtain ⟨e40, e41, e42, e43, e44⟩ := plain_facts (X := ((wx.alloc (.cells #[.string xn, .int .i64 xz, .slice mo xr.length mc, .bool xf, .int .i64 xe] 51)).alloc (.cells #[] 51)).drew) ((bw_alloc (bw_alloc (Below.refl _ _))).drew) k2
      have j0 : (0 : Int) ≤ (q : Int) := by omega
      have j1 : (q : Int) ≤ (bks.length : Int) := by omega
      have j2 : (q : Int) ≤ (cap : Int) := by omega
      obtain ⟨o6, c6, hv6⟩ := own_slice own6
      subst hv6
      have HS1 : Hid (∀ X : World, Below wx.heap.size wx X → ∀ j u, ((bks.take q).flatMap pkC)[j]? = some u → ∃ g' off', some (⟨g, 0, none⟩ : Addr) = some ⟨g', off', none⟩ ∧ X.cell? ⟨g', off' + j, none⟩ = some u) := fun X bX => flat_src pkC_len (by decide) (rT.below bX)
      have r6 : ReadsR 5 pkC wx.heap.size wx (.slice o6 (bks.length - q) c6) (bks.drop q) := ReadsR.of_own pkC_len (by rw [List.length_drop]; exact own6)
      have HS3 : Hid (∀ X : World, Below wx.heap.size wx X → ∀ j u, ((bks.drop q).flatMap pkC)[j]? = some u → ∃ g' off', o6 = some ⟨g', off', none⟩ ∧ X.cell? ⟨g', off' + j, none⟩ = some u) := fun X bX => flat_src pkC_len (by decide) (r6.below bX)
      have HX1 : Hid (∀ u ∈ ([.string xn, .int .i64 xz, .slice mo xr.length mc, .bool xf, .int .i64 xe] : List Value), u.oneCell' = true) := one_plain ⟨xn, xz, .slice mo xr.length mc, xr, xf, xe⟩ ⟨_, _, _, rfl⟩
      have HM1 : Hid (0 + q ≤ maxLen) := by rw [Hid]; unfold maxLen; omega
      have HB1 : Hid ((0 + q) * 64 ≤ 140737488355328) := by rw [Hid]; omega
      have HM2 : Hid (0 + q + 1 ≤ maxLen) := by rw [Hid]; unfold maxLen; omega
      have HB2 : Hid ((0 + q + 1) * 64 ≤ 140737488355328) := by rw [Hid]; omega
      have HM3 : Hid (0 + q + 1 + (bks.length - q) ≤ maxLen) := by rw [Hid]; unfold maxLen; omega
      have HB3 : Hid ((0 + q + 1 + (bks.length - q)) * 64 ≤ 140737488355328) := by rw [Hid]; omega
      have HBX1 : Hid (((wx.alloc (.cells #[] 51)).alloc (.cells #[.string xn, .int .i64 xz, .slice mo xr.length mc, .bool xf, .int .i64 xe] 51)).heap[wx.heap.size + 1]? = some (.cells #[.string xn, .int .i64 xz, .slice mo xr.length mc, .bool xf, .int .i64 xe] 51 (0, 0))) := by
        obtain ⟨W, hW, -, h, -⟩ := box2 wx #[] #[.string xn, .int .i64 xz, .slice mo xr.length mc, .bool xf, .int .i64 xe] 51 51
        rw [hW] at h
        exact h
      have HBX2 : Hid (((wx.alloc (.cells #[.string xn, .int .i64 xz, .slice mo xr.length mc, .bool xf, .int .i64 xe] 51)).alloc (.cells #[] 51)).heap[wx.heap.size]? = some (.cells #[.string xn, .int .i64 xz, .slice mo xr.length mc, .bool xf, .int .i64 xe] 51 (0, 0))) := by
        obtain ⟨W, hW, h, -⟩ := box2 wx #[.string xn, .int .i64 xz, .slice mo xr.length mc, .bool xf, .int .i64 xe] #[] 51 51
        rw [hW] at h
        exact h
      go_wp2_with fail
      go_region_law (first
        | (refine step_append_reads rfl (.tmp 28) (.tmp 31) 24 rfl wx.heap.size 51 i0 (.agg #[.string ByteArray.empty, .int .i64 0, .slice none 0 0, .bool false, .int .i64 0]) 5 64 Tryz.underlying24 hi hz0 hz1 hz2 rfl (by decide) (.slice (some ⟨wx.heap.size, 0, none⟩) 0 0) 0 [] ?e1 ?own (some ⟨g, 0, none⟩) q cap ((bks.take q).flatMap pkC) ?e2 HTL.out ?hn HT.out HM1.out HB1.out ?hbase ?_
           case e1 => first | rfl | simp [Act.eval]
           case e2 => first | rfl | simp [Act.eval]
           case own => exact own_noplains wx
           case hn => exact HS1.out _ (bw_alloc (Below.refl _ _)).drew
           case hbase => simp <;> omega
           intro va wa owna growa nila
           have ba : Below wx.heap.size wx wa := ((bw_alloc (Below.refl _ _)).drew).grown growa (by simp <;> omega) (fun z hz => by simp [Value.ownBlock] at hz; omega)
           obtain ⟨ea0, ea1, ea2, ea3, ea4⟩ := plain_facts (X := wa) ba k2
           skip)
        | (refine step_append_reads rfl (.tmp 28) (.tmp 31) 24 rfl wx.heap.size 51 i0 (.agg #[.string ByteArray.empty, .int .i64 0, .slice none 0 0, .bool false, .int .i64 0]) 5 64 Tryz.underlying24 hi hz0 hz1 hz2 rfl (by decide) (.slice (some ⟨wx.heap.size, 0, none⟩) 0 0) 0 [] ?e1 ?own (some ⟨g, 0, none⟩) q cap ((bks.take q).flatMap pkC) ?e2 HTL.out ?hn HT.out HM1.out HB1.out ?hbase ?_
           case e1 => first | rfl | simp [Act.eval]
           case e2 => first | rfl | simp [Act.eval]
           case own => exact (own_noplains wx).alloc (.cells #[.string xn, .int .i64 xz, .slice mo xr.length mc, .bool xf, .int .i64 xe] 51)
           case hn => exact HS1.out _ (bw_alloc (bw_alloc (Below.refl _ _))).drew
           case hbase => simp <;> omega
           intro va wa owna growa nila
           have ba : Below wx.heap.size wx wa := ((bw_alloc (bw_alloc (Below.refl _ _))).drew).grown growa (by simp <;> omega) (fun z hz => by simp [Value.ownBlock] at hz; omega)
           obtain ⟨ea0, ea1, ea2, ea3, ea4⟩ := plain_facts (X := wa) ba k2
           have kbx := (growa.block (wx.heap.size + 1) (by simp <;> omega) (by simp [Value.ownBlock])).trans HBX1.out)
        | (refine step_append_reads rfl (.tmp 28) (.tmp 31) 24 rfl wx.heap.size 51 i0 (.agg #[.string ByteArray.empty, .int .i64 0, .slice none 0 0, .bool false, .int .i64 0]) 5 64 Tryz.underlying24 hi hz0 hz1 hz2 rfl (by decide) (.slice (some ⟨wx.heap.size + 1, 0, none⟩) 0 0) 0 [] ?e1 ?own (some ⟨g, 0, none⟩) q cap ((bks.take q).flatMap pkC) ?e2 HTL.out ?hn HT.out HM1.out HB1.out ?hbase ?_
           case e1 => first | rfl | simp [Act.eval]
           case e2 => first | rfl | simp [Act.eval]
           case own => exact (by have h := own_noplains (wx.alloc (.cells #[.string xn, .int .i64 xz, .slice mo xr.length mc, .bool xf, .int .i64 xe] 51)); rw [show (wx.alloc (.cells #[.string xn, .int .i64 xz, .slice mo xr.length mc, .bool xf, .int .i64 xe] 51)).heap.size = wx.heap.size + 1 by simp] at h; exact owns_mono h (by omega))
           case hn => exact HS1.out _ (bw_alloc (bw_alloc (Below.refl _ _))).drew
           case hbase => simp <;> omega
           intro va wa owna growa nila
           have ba : Below wx.heap.size wx wa := ((bw_alloc (bw_alloc (Below.refl _ _))).drew).grown growa (by simp <;> omega) (fun z hz => by simp [Value.ownBlock] at hz; omega)
           obtain ⟨ea0, ea1, ea2, ea3, ea4⟩ := plain_facts (X := wa) ba k2
           have kbx := (growa.block wx.heap.size (by simp <;> omega) (by simp [Value.ownBlock])).trans (HBX2.out))
        | (refine step_append_reads rfl (.tmp 32) (.tmp 34) 24 rfl wx.heap.size 51 i0 (.agg #[.string ByteArray.empty, .int .i64 0, .slice none 0 0, .bool false, .int .i64 0]) 5 64 Tryz.underlying24 hi hz0 hz1 hz2 rfl (by decide) va (0 + q) ([] ++ (bks.take q).flatMap pkC) ?e1 (owna.alloc _) (some ⟨wa.heap.size, 0, none⟩) 1 1 [.string xn, .int .i64 xz, .slice mo xr.length mc, .bool xf, .int .i64 xe] ?e2 rfl ?hn HX1.out HM2.out HB2.out ?hbase ?_
           case e1 => first | rfl | simp [Act.eval]
           case e2 => first | rfl | simp [Act.eval]
           case hn => exact five_src (new_box wa _ _)
           case hbase => have := ba.size; simp <;> omega
           intro vc wcc ownc growc nilc
           have bc : Below wx.heap.size wx wcc := (bw_alloc ba).grown growc (by have := ba.size; simp <;> omega) (fun z hz => (owna.lt z hz).1)
           obtain ⟨ec0, ec1, ec2, ec3, ec4⟩ := plain_facts (X := wcc) bc k2)
        | (refine step_append_reads rfl (.tmp 32) (.tmp 34) 24 rfl wx.heap.size 51 i0 (.agg #[.string ByteArray.empty, .int .i64 0, .slice none 0 0, .bool false, .int .i64 0]) 5 64 Tryz.underlying24 hi hz0 hz1 hz2 rfl (by decide) va (0 + q) ([] ++ (bks.take q).flatMap pkC) ?e1 owna (some ⟨wx.heap.size + 1, 0, none⟩) 1 1 [.string xn, .int .i64 xz, .slice mo xr.length mc, .bool xf, .int .i64 xe] ?e2 rfl ?hn HX1.out HM2.out HB2.out ?hbase ?_
           case e1 => first | rfl | simp [Act.eval]
           case e2 => first | rfl | simp [Act.eval]
           case hn => exact five_src kbx
           case hbase => have := ba.size; simp <;> omega
           intro vc wcc ownc growc nilc
           have bc : Below wx.heap.size wx wcc := (ba).grown growc (by have := ba.size; simp <;> omega) (fun z hz => (owna.lt z hz).1)
           obtain ⟨ec0, ec1, ec2, ec3, ec4⟩ := plain_facts (X := wcc) bc k2)
        | (refine step_append_reads rfl (.tmp 32) (.tmp 34) 24 rfl wx.heap.size 51 i0 (.agg #[.string ByteArray.empty, .int .i64 0, .slice none 0 0, .bool false, .int .i64 0]) 5 64 Tryz.underlying24 hi hz0 hz1 hz2 rfl (by decide) va (0 + q) ([] ++ (bks.take q).flatMap pkC) ?e1 owna (some ⟨wx.heap.size, 0, none⟩) 1 1 [.string xn, .int .i64 xz, .slice mo xr.length mc, .bool xf, .int .i64 xe] ?e2 rfl ?hn HX1.out HM2.out HB2.out ?hbase ?_
           case e1 => first | rfl | simp [Act.eval]
           case e2 => first | rfl | simp [Act.eval]
           case hn => exact five_src kbx
           case hbase => have := ba.size; simp <;> omega
           intro vc wcc ownc growc nilc
           have bc : Below wx.heap.size wx wcc := (ba).grown growc (by have := ba.size; simp <;> omega) (fun z hz => (owna.lt z hz).1)
           obtain ⟨ec0, ec1, ec2, ec3, ec4⟩ := plain_facts (X := wcc) bc k2)
        | (refine step_append_reads rfl (.tmp 35) (.tmp 36) 24 rfl wx.heap.size 51 i0 (.agg #[.string ByteArray.empty, .int .i64 0, .slice none 0 0, .bool false, .int .i64 0]) 5 64 Tryz.underlying24 hi hz0 hz1 hz2 rfl (by decide) vc (0 + q + 1) ([] ++ (bks.take q).flatMap pkC ++ [.string xn, .int .i64 xz, .slice mo xr.length mc, .bool xf, .int .i64 xe]) ?e1 ownc o6 (bks.length - q) c6 ((bks.drop q).flatMap pkC) ?e2 HDL.out (HS3.out _ bc) HD.out HM3.out HB3.out ?hbase ?_
           case e1 => first | rfl | simp [Act.eval]
           case e2 => first | rfl | simp [Act.eval]
           case hbase => have := bc.size; omega
           intro vd wd ownd growd nild
           obtain ⟨od, cd, hvd⟩ := own_slice ownd
           subst hvd
           have bd : Below wx.heap.size wx wd := bc.grown growd (by have := bc.size; omega) (fun z hz => (ownc.lt z hz).1)
           obtain ⟨ed0, ed1, ed2, ed3, ed4⟩ := plain_facts (X := wd) bd k2))
      all_goals
        have hne : Value.slice od (0 + q + 1 + (bks.length - q)) cd ≠ .slice none 0 0 := fun e => absurd (nilc.1 (nild.1 e).1).2 (by decide)
        rw [Nat.zero_add] at hne
        have HF : Hid _ := And.intro (ins_endP (x := ⟨xn, xz, .slice mo xr.length mc, xr, xf, xe⟩) hq hbase d2 st2 hm2 bd ownd) hne
        clear ownd growd nild ownc growc nilc owna growa nila
        go_wp2_with fail
        refine bodyPost_ret (v := .slice od (q + 1 + (bks.length - q)) cd) ?_ rfl ⟨_, rfl, by rw [HQ.out]; exact HF.out.1.1, HF.out.2, HF.out.1.2⟩
        simp [results, Tryz.results85, go_sem]
end Go.Proofs.YtcefcglonooelaaGreatDoor

namespace Go.Proofs.YtcefcglonooelaaGreatDoor
set_option linter.unusedVariables false

set_option maxRecDepth 100000


theorem plains_ok {l : List Pv} (h : plainsOk l = true) : l.length ≤ 6 ∧ ∀ p ∈ l, p.ok = true := by
  simp only [plainsOk, Bool.and_eq_true, decide_eq_true_eq, List.all_eq_true] at h
  exact ⟨h.1.1, h.1.2⟩

theorem pv_parts {p : Pv} (h : p.ok = true) : (1 ≤ p.sz ∧ p.sz ≤ 16) ∧ (0 ≤ p.ep ∧ p.ep ≤ 1000) ∧ (p.vs.length : Int) = p.sz := by
  simp only [Pv.ok, plainOk, Bool.and_eq_true, decide_eq_true_eq] at h
  exact ⟨h.1.1.2, h.1.2, h.2⟩

theorem foundV {l : List Pv} {o : Oq} (hok : plainsOk l = true) (href : refused (l.map Pv.pb) o = 0) (hk : o.k ≠ 1) : ∃ (i : Nat) (hi : i < l.length), findP (l.map Pv.pb) o.nm = i ∧ l[i].ok = true ∧ (kAt o.k = true → o.at_ < l[i].sz) ∧ (o.k = 8 → l[i].ep ≠ 1000) := by
  obtain ⟨a1, -, -, a4, a5⟩ := refused_parts href
  obtain ⟨i, hib, hf, -⟩ := find_in (l.map Pv.pb) o.nm (by have := a1 hk; omega)
  have hi : i < l.length := by rw [List.length_map] at hib; exact hib
  have hb : bookAt (l.map Pv.pb) (findP (l.map Pv.pb) o.nm) = l[i].pb := by
    rw [hf, bookAt_of (l.map Pv.pb) i hib, List.getElem_map]
  refine ⟨i, hi, hf, (plains_ok hok).2 _ (List.getElem_mem hi), fun q => ?_, fun q => ?_⟩
  · have := a4 hk q
    rw [hb] at this
    exact this
  · have := a5 q
    rw [hb] at this
    exact this

theorem doPlain_bad {l : List Pv} {o : Oq} (told : Int) (h : opOk o = false) : doPlain l o told = (l, (1, 0)) := by rw [doPlain, if_pos h]

theorem doPlain_refd {l : List Pv} {o : Oq} (told : Int) (h : opOk o = true) (hr : refused (l.map Pv.pb) o ≠ 0) : doPlain l o told = (l, (refused (l.map Pv.pb) o, 0)) := by
  rw [doPlain, if_neg (by rw [h]; decide), if_pos hr]

theorem doPlain_full {l : List Pv} {o : Oq} (h : opOk o = true) (hr : refused (l.map Pv.pb) o = 0) (hk : o.k = 2) : doPlain l o 9 = (l, (9, 0)) := by
  rw [doPlain, if_neg (by rw [h]; decide), if_neg (by rw [hr]; decide), if_pos ⟨hk, rfl⟩]

theorem doPlain_one {l : List Pv} {o : Oq} {told : Int} {i : Nat} (hi : i < l.length) (h : opOk o = true) (hr : refused (l.map Pv.pb) o = 0) (hf : ¬ (o.k = 2 ∧ told = 9)) (hk : o.k ≠ 1 ∧ o.k ≠ 6 ∧ kOther o.k = false) (hfp : findP (l.map Pv.pb) o.nm = i) : doPlain l o told = doOne l o i l[i] := by
  rw [doPlain, if_neg (by rw [h]; decide), if_neg (by rw [hr]; decide), if_neg hf, if_neg hk.1, if_neg hk.2.1, if_neg (by rw [hk.2.2]; decide), hfp, Int.toNat_natCast]
  congr 1
  simp [plainAt, List.getD_eq_getElem?_getD, hi]
end Go.Proofs.YtcefcglonooelaaGreatDoor

