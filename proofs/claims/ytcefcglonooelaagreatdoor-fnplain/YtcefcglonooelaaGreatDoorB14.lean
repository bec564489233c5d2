/-
  Contracts and plain laws, one chapter behind the other.
-/
import Derived.Laws.Cover1
import Derived.Deep.CutBlock
import Derived.Deep.DeepCutAuto
import Derived.Test.YtcefcglonooelaaGreatDoorB12
namespace Go.Proofs.YtcefcglonooelaaGreatDoor
open Go.RowKit

set_option linter.unusedVariables false

set_option maxRecDepth 100000


/-- Appending what is read, in a region that draws. -/
theorem step_append_reads {P : Program} {w : World} {ops : Array Oper} {o : Oper} {a : Act} {K : Act → World → Prop} {Q : Exit → Act → World → Prop} {E : Prop} (hgd : o.guard = none) (s x : Operand) (t : TypeId)
    (ho : o.op = .call { callee := .builtin .append, args := #[s, x], argTypes := #[t, t] })
    (base : Nat) (e : TypeId) (i : TypeInfo) (z : Value) (size bytes : Nat) (ht : P.underlying t = some (.slice e)) (hi : P.info? e = some i) (hz : i.zero = some z)
    (hsize : i.size = size) (hby : i.bytes = bytes) (hzs : z.cells.size = size) (hsz : 0 < size)
    (v : Value) (n : Nat) (xs : List Value) (hs : a.eval s = v) (hown : w.ownsRow base e size v n xs)
    (ad : Option Addr) (m c : Nat) (news : List Value) (hx : a.eval x = .slice ad m c) (hl : news.length = m * size) (hnews : ∀ j u, news[j]? = some u → ∃ g off, ad = some ⟨g, off, none⟩ ∧ w.cell? ⟨g, off + j, none⟩ = some u) (h1 : ∀ u ∈ news, u.oneCell' = true)
    (h63 : n + m ≤ maxLen) (hbytes : (n + m) * bytes ≤ 140737488355328) (hbase : base ≤ w.heap.size)
    (h : ∀ v' w', w'.ownsRow base e size v' (n + m) (xs ++ news) → w.grownBy w' v.ownBlock → (v' = .slice none 0 0 ↔ v = .slice none 0 0 ∧ m = 0) → K (a.put o.dst v') w') :
    if Region.wanted o (yielded ops a.tmps) = true then Oper.wp P o a w K Q else E := by
  have hw : Region.wanted o (yielded ops a.tmps) = true := by simp [Region.wanted, hgd]
  rw [if_pos hw]
  exact wp_append_reads s x t ho base e i z size bytes ht hi hz hsize hby hzs hsz v n xs hs hown ad m c news hx hl hnews h1 h63 hbytes hbase h

theorem ins_facts {wx X : World} {b n : Nat} {v1 v2 vb x0 x1 x2 x3 x4 : Value} {T U : TypeId} (bX : Below wx.heap.size wx X) (hbox : wx.heap[b]? = some (.cells #[v1, v2, vb] T (0, 0))) (k : wx.heap[n]? = some (.cells #[x0, x1, x2, x3, x4] U (0, 0))) :
    X.cell? ⟨b, 2, none⟩ = some vb ∧ X.frozen? ⟨b, 2, none⟩ = false ∧ X.cell? ⟨n, 0, none⟩ = some x0 ∧ X.cell? ⟨n, 1, none⟩ = some x1 ∧ X.cell? ⟨n, 2, none⟩ = some x2 ∧ X.cell? ⟨n, 3, none⟩ = some x3 ∧ X.cell? ⟨n, 4, none⟩ = some x4 := by
  have h1 := (bX.block _ (heap_lt hbox)).trans hbox
  have h2 := (bX.block _ (heap_lt k)).trans k
  exact ⟨at_cell h1 2, at_open h1 2, at_cell h2 0, at_cell h2 1, at_cell h2 2, at_cell h2 3, at_cell h2 4⟩

theorem new_box (w : World) (a : Array Value) (T : TypeId) : (w.alloc (.cells a T)).heap[w.heap.size]? = some (.cells a T (0, 0)) := by
  obtain ⟨W, hW, h, -⟩ := box1 w a T
  rw [hW] at h
  exact h

theorem five_src {X : World} {n : Nat} {x0 x1 x2 x3 x4 : Value} {U : TypeId} (h : X.heap[n]? = some (.cells #[x0, x1, x2, x3, x4] U (0, 0))) : ∀ j u, ([x0, x1, x2, x3, x4] : List Value)[j]? = some u → ∃ g off, some (⟨n, 0, none⟩ : Addr) = some ⟨g, off, none⟩ ∧ X.cell? ⟨g, off + j, none⟩ = some u := fun j u hj => by
  refine ⟨n, 0, rfl, ?_⟩
  rw [Nat.zero_add]
  exact (at_cell h j).trans ((show (#[x0, x1, x2, x3, x4] : Array Value)[j]? = ([x0, x1, x2, x3, x4] : List Value)[j]? by simp).trans hj)

set_option maxHeartbeats 6400000 in
theorem l8Insert_row (base b g cap : Nat) (v1 v2 : Value) (bks : List Bk) (s : Sf) (x : Bk) (w : World) (st : ShSt base b w v1 v2 (.slice (some ⟨g, 0, none⟩) bks.length cap) bks s) (hn : bks.length ≤ 6) (hm : w.ownsRow base 129 3 x.m x.rs.length (x.rs.flatMap runC)) :
    Calls Tryz.prog 101 #[.pointer (some ⟨b, 0, none⟩), .agg #[.string x.nm, .int .i64 x.sz, x.m, .bool x.fx, .int .i64 x.ep]] w fun e w' => ∃ (vb' : Value) (bks' : List Bk), e = .returned (.tuple #[]) ∧ ShSt base b w' v1 v2 vb' bks' ⟨s.cs, s.ps, insertP s.bs x.pb⟩ ∧ Only (fun i => i = b) w w' := by
  obtain ⟨i0, hi, hz0, hz1, hz2⟩ := info_parts Tryz.infoBook
  obtain ⟨xn, xz, xm, xr, xf, xe⟩ := x
  obtain ⟨mo, mc, hmf⟩ := own_slice hm
  simp only at hmf hm
  subst hmf
  obtain ⟨W0, hW0, k0, d0, z0⟩ := box1 w #[.string xn, .int .i64 xz, .slice mo xr.length mc, .bool xf, .int .i64 xe] 87
  have HW0 : Hid (W0 = _) := hW0
  have hbase : base ≤ w.heap.size := Nat.le_trans st.lo (Nat.le_of_lt (heap_lt st.box))
  have st0 := st.below d0
  have hm0 := owns_below hm d0
  have hcap := st.books.row
  have l0 := heap_lt k0
  clear hW0 hm
  obtain ⟨bs, hbs⟩ : ∃ bs, bks.map Bk.pb = bs := ⟨_, rfl⟩
  have hbs' : s.bs = bs := by rw [← st.eq, hbs]
  have HBL : Hid (bs.length = bks.length) := by rw [Hid, ← hbs, List.length_map]
  have HAT : Hid (∀ (j : Nat) (h1 : j < bks.length) (h2 : j < bs.length), bs[j].nm = bks[j].nm) := fun j h1 h2 => by subst hbs; simp [Bk.pb]
  simp only
  go_enter Tryz.func101, Tryz.ntmps101
  go_upto_block 0 with fail
  rw [← HW0.out]
  clear HW0
  go_cut [4] (fun i wr => i = .int .i64 (insertAt bs xn : Nat) ∧ Below W0.heap.size W0 wr)
  case first =>
    go_wp2_with fail
    go_loopw [4] (fun i wr => ∃ q : Nat, q ≤ bks.length ∧ i = .int .i64 q ∧ (∀ j (hj : j < bs.length), j < q → ltB bs[j].nm xn = true) ∧ Below W0.heap.size W0 wr) (fun i _ => bks.length - (intOf i).toNat)
    case atStart => exact ⟨0, Nat.zero_le _, rfl, fun j _ hj => by omega, Below.refl _ _⟩
    case round =>
      obtain ⟨q, hq, rfl, hlt, hb⟩ := hrel
      have HL : Hid _ := hlt
      have st1 := st0.below hb
      have k1 := (hb.block _ l0).trans k0
      have pB := at_cell st1.box 2
      have pN := at_cell k1 0
      clear hlt
      by_cases hql : q < bks.length
      · have i0' : (0 : Int) ≤ (q : Int) := by omega
        have i1' : (q : Int) < (bks.length : Int) := by omega
        have id : decide ((q : Int) < (bks.length : Int)) = true := decide_eq_true i1'
        have id2 : decide (q < bks.length) = true := decide_eq_true hql
        obtain ⟨⟨a0, -, -, -, -⟩, -⟩ := own_five st1.books.row q hql
        have HA : Hid _ := HAT.out q hql (by have := HBL.out; omega)
        generalize bks[q].nm = qn at a0 HA
        obtain ⟨ly, hly⟩ : ∃ y, Op.bytesLess qn.toList xn.toList = y := ⟨_, rfl⟩
        have HLY : Hid (ltB qn xn = ly) := hly
        cases ly
        · have HQ0 : Hid (insertAt bs xn = q) := insertAt_eq bs xn q (by have := HBL.out; omega) HL.out (fun h => by rw [HA.out]; exact HLY.out)
          clear st1 k1
          go_wp2_with fail
          go_quiet (fail)
          go_wp2_with fail
          go_meet
          exact ⟨by rw [HQ0.out], ⟨hb.os, hb.tape, hb.output, hb.size, hb.block⟩⟩
        · have HL2 : Hid (∀ j (hj : j < bs.length), j < q + 1 → ltB bs[j].nm xn = true) := fun j hj h => by
            rcases Nat.lt_or_ge j q with r | r
            · exact HL.out j hj r
            · obtain rfl : j = q := by omega
              rw [HA.out]
              exact HLY.out
          clear st1 k1
          go_wp2_with fail
          go_quiet (fail)
          go_wp2_with fail
          go_roundw
          case rel => exact ⟨q + 1, by omega, by go_num, HL2.out, ⟨hb.os, hb.tape, hb.output, hb.size, hb.block⟩⟩
          case measure => simp [intOf]; omega
      · have id : decide ((q : Int) < (bks.length : Int)) = false := decide_eq_false (by omega)
        have id2 : decide (q < bks.length) = false := decide_eq_false hql
        have HQ0 : Hid (insertAt bs xn = q) := insertAt_eq bs xn q (by have := HBL.out; omega) HL.out (fun h => by have := HBL.out; omega)
        clear st1 k1
        go_wp2_with fail
        go_quiet (fail)
        go_wp2_with fail
        go_meet
        exact ⟨by rw [HQ0.out], ⟨hb.os, hb.tape, hb.output, hb.size, hb.block⟩⟩
  case rest =>
    obtain ⟨rfl, hb⟩ := hcut
    have hq : insertAt bs xn ≤ bks.length := by have := insertAt_le bs xn; have := HBL.out; omega
    have HINS : Hid (insertP s.bs ⟨xn, xz, xr, xf, xe⟩ = (bks.take (insertAt bs xn) ++ [(⟨xn, xz, .slice mo xr.length mc, xr, xf, xe⟩ : Bk)] ++ bks.drop (insertAt bs xn)).map Bk.pb) := by
      rw [Hid, hbs', insertP, ← hbs, List.map_append, List.map_append, List.map_take, List.map_drop]
      rfl
    clear HAT HBL
    generalize insertAt bs xn = q at *
    generalize wc = wy at *
    have st1 := st0.below hb
    have k1 := (hb.block _ l0).trans k0
    have hm1 := owns_below hm0 hb
    have d1 := bw_call d0 hb
    have hcl : bks.length ≤ cap := by
      rcases st1.books.row.2 with ⟨e, _⟩ | ⟨g', cap', cur, e, _, hh, h1, _⟩
      · simp at e
      · simp only [Value.slice.injEq, Option.some.injEq, Addr.mk.injEq, and_true, true_and] at e
        omega
    have rr : ReadsR 5 bookC wy.heap.size wy (.slice (some ⟨g, 0, none⟩) bks.length cap) bks := ReadsR.of_own bookC_len st1.books.row
    have hfm := st1.forms
    have HD : Hid (∀ u ∈ (bks.drop q).flatMap bookC, u.oneCell' = true) := books_one _ (fun b hb => hfm b (List.mem_of_mem_drop hb))
    have HT : Hid (∀ u ∈ (bks.take q).flatMap bookC, u.oneCell' = true) := books_one _ (fun b hb => hfm b (List.mem_of_mem_take hb))
    have HDL : Hid (((bks.drop q).flatMap bookC).length = (bks.length - q) * 5) := by rw [Hid, flat_length bookC_len, List.length_drop]
    have HTL : Hid (((bks.take q).flatMap bookC).length = q * 5) := by rw [Hid, flat_length bookC_len, List.length_take, Nat.min_eq_left hq]
    clear st0 k0 hm0 d0 hb z0 l0 hfm st hcap hbs hbs'
    go_upto_region 4 with fail
    go_cut [5] (fun v wx => wx.ownsRow wy.heap.size 87 5 v (bks.length - q) ((bks.drop q).flatMap bookC) ∧ v ≠ .slice none 0 0 ∧ Below wy.heap.size wy wx)
    case first =>
      have own0 := own_nobooks wy
      have rd : ReadsR 5 bookC (wy.alloc (.cells #[] 87)).heap.size (wy.alloc (.cells #[] 87)) (.slice (some ⟨g, 0, none⟩) bks.length cap) bks := (rr.below (bw_alloc (Below.refl _ _))).mono (by simp)
      have pB := (Below.cell (bw_alloc (o := .cells #[] 87) (Below.refl wy.heap.size wy)) (p := ⟨b, 2, none⟩) (heap_lt st1.box)).trans (at_cell st1.box 2)
      have j0 : (0 : Int) ≤ (q : Int) := by omega
      have j1 : (q : Int) ≤ (bks.length : Int) := by omega
      have j2 : (q : Int) ≤ (cap : Int) := by omega
      have HM : Hid (0 + (bks.length - q) ≤ maxLen) := by rw [Hid]; unfold maxLen; omega
      have HBY : Hid ((0 + (bks.length - q)) * 64 ≤ 140737488355328) := by rw [Hid]; omega
      have HSZ : Hid (wy.heap.size ≤ (wy.alloc (.cells #[] 87)).heap.size) := by rw [Hid]; simp
      by_cases hqc : cap = q
      · have hql : bks.length = q := by omega
        have hdr : (bks.drop q).flatMap bookC = [] := by rw [List.drop_of_length_le (by omega)]; rfl
        have HF : Hid ((wy.alloc (.cells #[] 87)).ownsRow wy.heap.size 87 5 (.slice (some ⟨wy.heap.size, 0, none⟩) 0 0) (bks.length - q) ((bks.drop q).flatMap bookC) ∧ Value.slice (some ⟨wy.heap.size, 0, none⟩) 0 0 ≠ .slice none 0 0 ∧ Below wy.heap.size wy (wy.alloc (.cells #[] 87))) := by
          rw [Hid, hdr, hql, Nat.sub_self]
          exact ⟨own0, by simp, bw_alloc (Below.refl _ _)⟩
        clear hdr HDL rd own0 HD HT HTL
        go_wp2_with fail
        go_meet
        exact HF.out
      · have rd2 := rd.drop q hq
        rw [Nat.zero_add] at rd2
        have HSRC : Hid _ := flat_src bookC_len (by decide) rd2
        clear rd2
        go_wp2_with (at_builtin; refine wpList_append_reads rfl _ _ 40 rfl wy.heap.size 87 i0 (.agg #[.string ByteArray.empty, .int .i64 0, .slice none 0 0, .bool false, .int .i64 0]) 5 64 Tryz.underlying40 hi hz0 hz1 hz2 rfl (by decide) (.slice (some ⟨wy.heap.size, 0, none⟩) 0 0) 0 [] rfl own0 (some ⟨g, q * 5, none⟩) (bks.length - q) (cap - q) ((bks.drop q).flatMap bookC) rfl HDL.out HSRC.out HD.out HM.out HBY.out HSZ.out ?_)
        intro v' w3 hown hgrow hnil
        have hown2 : w3.ownsRow wy.heap.size 87 5 v' (bks.length - q) ((bks.drop q).flatMap bookC) := by simpa using hown
        have hb3 : Below wy.heap.size wy w3 := (bw_alloc (Below.refl _ _)).grown hgrow (by simp) (fun z hz => (own0.lt z hz).1)
        have HF : Hid (w3.ownsRow wy.heap.size 87 5 v' (bks.length - q) ((bks.drop q).flatMap bookC) ∧ v' ≠ .slice none 0 0 ∧ Below wy.heap.size wy w3) := ⟨hown2, hnil, hb3⟩
        clear hown hgrow hnil hown2 hb3 own0 rd pB HSRC
        go_wp2_with fail
        go_meet
        exact HF.out
    case rest =>
      obtain ⟨own6, hn6, b6⟩ := hcut
      generalize wc = wx at *
      have st2 := st1.below b6
      have k2 := (b6.block _ (heap_lt k1)).trans k1
      have d2 := bw_call d1 b6
      have hm2 := owns_below hm1 b6
      have rT := ((rr.take q hq).below b6).mono b6.size
      obtain ⟨e0b, e0f, e00, e01, e02, e03, e04⟩ := ins_facts (X := wx.drew) ((Below.refl _ _).drew) st2.box k2
      obtain ⟨e1b, e1f, e10, e11, e12, e13, e14⟩ := ins_facts (X := (wx.alloc (.cells #[] 87)).drew) ((bw_alloc (Below.refl _ _)).drew) st2.box k2
      obtain ⟨e2b, e2f, e20, e21, e22, e23, e24⟩ := ins_facts (X := (wx.alloc (.cells #[.string xn, .int .i64 xz, .slice mo xr.length mc, .bool xf, .int .i64 xe] 87)).drew) ((bw_alloc (Below.refl _ _)).drew) st2.box k2
      obtain ⟨e3b, e3f, e30, e31, e32, e33, e34⟩ := ins_facts (X := ((wx.alloc (.cells #[] 87)).alloc (.cells #[.string xn, .int .i64 xz, .slice mo xr.length mc, .bool xf, .int .i64 xe] 87)).drew) ((bw_alloc (bw_alloc (Below.refl _ _))).drew) st2.box k2
      obtain ⟨e4b, e4f, e40, e41, e42, e43, e44⟩ := ins_facts (X := ((wx.alloc (.cells #[.string xn, .int .i64 xz, .slice mo xr.length mc, .bool xf, .int .i64 xe] 87)).alloc (.cells #[] 87)).drew) ((bw_alloc (bw_alloc (Below.refl _ _))).drew) st2.box k2
      have j0 : (0 : Int) ≤ (q : Int) := by omega
      have j1 : (q : Int) ≤ (bks.length : Int) := by omega
      have j2 : (q : Int) ≤ (cap : Int) := by omega
      obtain ⟨o6, c6, hv6⟩ := own_slice own6
      subst hv6
      have HS1 : Hid (∀ X : World, Below wx.heap.size wx X → ∀ j u, ((bks.take q).flatMap bookC)[j]? = some u → ∃ g' off', some (⟨g, 0, none⟩ : Addr) = some ⟨g', off', none⟩ ∧ X.cell? ⟨g', off' + j, none⟩ = some u) := fun X bX => flat_src bookC_len (by decide) (rT.below bX)
      have r6 : ReadsR 5 bookC wx.heap.size wx (.slice o6 (bks.length - q) c6) (bks.drop q) := ReadsR.of_own bookC_len (by rw [List.length_drop]; exact own6)
      have HS3 : Hid (∀ X : World, Below wx.heap.size wx X → ∀ j u, ((bks.drop q).flatMap bookC)[j]? = some u → ∃ g' off', o6 = some ⟨g', off', none⟩ ∧ X.cell? ⟨g', off' + j, none⟩ = some u) := fun X bX => flat_src bookC_len (by decide) (r6.below bX)
      have HX1 : Hid (∀ u ∈ ([.string xn, .int .i64 xz, .slice mo xr.length mc, .bool xf, .int .i64 xe] : List Value), u.oneCell' = true) := one_book ⟨xn, xz, .slice mo xr.length mc, xr, xf, xe⟩ ⟨_, _, _, rfl⟩
      have HM1 : Hid (0 + q ≤ maxLen) := by rw [Hid]; unfold maxLen; omega
      have HB1 : Hid ((0 + q) * 64 ≤ 140737488355328) := by rw [Hid]; omega
      have HM2 : Hid (0 + q + 1 ≤ maxLen) := by rw [Hid]; unfold maxLen; omega
      have HB2 : Hid ((0 + q + 1) * 64 ≤ 140737488355328) := by rw [Hid]; omega
      have HM3 : Hid (0 + q + 1 + (bks.length - q) ≤ maxLen) := by rw [Hid]; unfold maxLen; omega
      have HB3 : Hid ((0 + q + 1 + (bks.length - q)) * 64 ≤ 140737488355328) := by rw [Hid]; omega
      have HBX1 : Hid (((wx.alloc (.cells #[] 87)).alloc (.cells #[.string xn, .int .i64 xz, .slice mo xr.length mc, .bool xf, .int .i64 xe] 87)).heap[wx.heap.size + 1]? = some (.cells #[.string xn, .int .i64 xz, .slice mo xr.length mc, .bool xf, .int .i64 xe] 87 (0, 0))) := by
        obtain ⟨W, hW, -, h, -⟩ := box2 wx #[] #[.string xn, .int .i64 xz, .slice mo xr.length mc, .bool xf, .int .i64 xe] 87 87
        rw [hW] at h
        exact h
      have HBX2 : Hid (((wx.alloc (.cells #[.string xn, .int .i64 xz, .slice mo xr.length mc, .bool xf, .int .i64 xe] 87)).alloc (.cells #[] 87)).heap[wx.heap.size]? = some (.cells #[.string xn, .int .i64 xz, .slice mo xr.length mc, .bool xf, .int .i64 xe] 87 (0, 0))) := by
        obtain ⟨W, hW, h, -⟩ := box2 wx #[.string xn, .int .i64 xz, .slice mo xr.length mc, .bool xf, .int .i64 xe] #[] 87 87
        rw [hW] at h
        exact h
      go_wp2_with fail
      go_region_law (first
        | (refine step_append_reads rfl (.tmp 37) (.tmp 43) 40 rfl wx.heap.size 87 i0 (.agg #[.string ByteArray.empty, .int .i64 0, .slice none 0 0, .bool false, .int .i64 0]) 5 64 Tryz.underlying40 hi hz0 hz1 hz2 rfl (by decide) (.slice (some ⟨wx.heap.size, 0, none⟩) 0 0) 0 [] ?e1 ?own (some ⟨g, 0, none⟩) q cap ((bks.take q).flatMap bookC) ?e2 HTL.out ?hn HT.out HM1.out HB1.out ?hbase ?_
           case e1 => first | rfl | simp [Act.eval]
           case e2 => first | rfl | simp [Act.eval]
           case own => exact own_nobooks wx
           case hn => exact HS1.out _ (bw_alloc (Below.refl _ _)).drew
           case hbase => simp <;> omega
           intro va wa owna growa nila
           have ba : Below wx.heap.size wx wa := ((bw_alloc (Below.refl _ _)).drew).grown growa (by simp <;> omega) (fun z hz => by simp [Value.ownBlock] at hz; omega)
           obtain ⟨eab, eaf, ea0, ea1, ea2, ea3, ea4⟩ := ins_facts (X := wa) ba st2.box k2
           skip)
        | (refine step_append_reads rfl (.tmp 37) (.tmp 43) 40 rfl wx.heap.size 87 i0 (.agg #[.string ByteArray.empty, .int .i64 0, .slice none 0 0, .bool false, .int .i64 0]) 5 64 Tryz.underlying40 hi hz0 hz1 hz2 rfl (by decide) (.slice (some ⟨wx.heap.size, 0, none⟩) 0 0) 0 [] ?e1 ?own (some ⟨g, 0, none⟩) q cap ((bks.take q).flatMap bookC) ?e2 HTL.out ?hn HT.out HM1.out HB1.out ?hbase ?_
           case e1 => first | rfl | simp [Act.eval]
           case e2 => first | rfl | simp [Act.eval]
           case own => exact (own_nobooks wx).alloc (.cells #[.string xn, .int .i64 xz, .slice mo xr.length mc, .bool xf, .int .i64 xe] 87)
           case hn => exact HS1.out _ (bw_alloc (bw_alloc (Below.refl _ _))).drew
           case hbase => simp <;> omega
           intro va wa owna growa nila
           have ba : Below wx.heap.size wx wa := ((bw_alloc (bw_alloc (Below.refl _ _))).drew).grown growa (by simp <;> omega) (fun z hz => by simp [Value.ownBlock] at hz; omega)
           obtain ⟨eab, eaf, ea0, ea1, ea2, ea3, ea4⟩ := ins_facts (X := wa) ba st2.box k2
           have kbx := (growa.block (wx.heap.size + 1) (by simp <;> omega) (by simp [Value.ownBlock])).trans HBX1.out)
        | (refine step_append_reads rfl (.tmp 37) (.tmp 43) 40 rfl wx.heap.size 87 i0 (.agg #[.string ByteArray.empty, .int .i64 0, .slice none 0 0, .bool false, .int .i64 0]) 5 64 Tryz.underlying40 hi hz0 hz1 hz2 rfl (by decide) (.slice (some ⟨wx.heap.size + 1, 0, none⟩) 0 0) 0 [] ?e1 ?own (some ⟨g, 0, none⟩) q cap ((bks.take q).flatMap bookC) ?e2 HTL.out ?hn HT.out HM1.out HB1.out ?hbase ?_
           case e1 => first | rfl | simp [Act.eval]
           case e2 => first | rfl | simp [Act.eval]
           case own => exact (by have h := own_nobooks (wx.alloc (.cells #[.string xn, .int .i64 xz, .slice mo xr.length mc, .bool xf, .int .i64 xe] 87)); rw [show (wx.alloc (.cells #[.string xn, .int .i64 xz, .slice mo xr.length mc, .bool xf, .int .i64 xe] 87)).heap.size = wx.heap.size + 1 by simp] at h; exact owns_mono h (by omega))
           case hn => exact HS1.out _ (bw_alloc (bw_alloc (Below.refl _ _))).drew
           case hbase => simp <;> omega
           intro va wa owna growa nila
           have ba : Below wx.heap.size wx wa := ((bw_alloc (bw_alloc (Below.refl _ _))).drew).grown growa (by simp <;> omega) (fun z hz => by simp [Value.ownBlock] at hz; omega)
           obtain ⟨eab, eaf, ea0, ea1, ea2, ea3, ea4⟩ := ins_facts (X := wa) ba st2.box k2
           have kbx := (growa.block wx.heap.size (by simp <;> omega) (by simp [Value.ownBlock])).trans (HBX2.out))
        | (refine step_append_reads rfl (.tmp 44) (.tmp 46) 40 rfl wx.heap.size 87 i0 (.agg #[.string ByteArray.empty, .int .i64 0, .slice none 0 0, .bool false, .int .i64 0]) 5 64 Tryz.underlying40 hi hz0 hz1 hz2 rfl (by decide) va (0 + q) ([] ++ (bks.take q).flatMap bookC) ?e1 (owna.alloc _) (some ⟨wa.heap.size, 0, none⟩) 1 1 [.string xn, .int .i64 xz, .slice mo xr.length mc, .bool xf, .int .i64 xe] ?e2 rfl ?hn HX1.out HM2.out HB2.out ?hbase ?_
           case e1 => first | rfl | simp [Act.eval]
           case e2 => first | rfl | simp [Act.eval]
           case hn => exact five_src (new_box wa _ _)
           case hbase => have := ba.size; simp <;> omega
           intro vc wcc ownc growc nilc
           have bc : Below wx.heap.size wx wcc := (bw_alloc ba).grown growc (by have := ba.size; simp <;> omega) (fun z hz => (owna.lt z hz).1)
           obtain ⟨ecb, ecf, ec0, ec1, ec2, ec3, ec4⟩ := ins_facts (X := wcc) bc st2.box k2)
        | (refine step_append_reads rfl (.tmp 44) (.tmp 46) 40 rfl wx.heap.size 87 i0 (.agg #[.string ByteArray.empty, .int .i64 0, .slice none 0 0, .bool false, .int .i64 0]) 5 64 Tryz.underlying40 hi hz0 hz1 hz2 rfl (by decide) va (0 + q) ([] ++ (bks.take q).flatMap bookC) ?e1 owna (some ⟨wx.heap.size + 1, 0, none⟩) 1 1 [.string xn, .int .i64 xz, .slice mo xr.length mc, .bool xf, .int .i64 xe] ?e2 rfl ?hn HX1.out HM2.out HB2.out ?hbase ?_
           case e1 => first | rfl | simp [Act.eval]
           case e2 => first | rfl | simp [Act.eval]
           case hn => exact five_src kbx
           case hbase => have := ba.size; simp <;> omega
           intro vc wcc ownc growc nilc
           have bc : Below wx.heap.size wx wcc := (ba).grown growc (by have := ba.size; simp <;> omega) (fun z hz => (owna.lt z hz).1)
           obtain ⟨ecb, ecf, ec0, ec1, ec2, ec3, ec4⟩ := ins_facts (X := wcc) bc st2.box k2)
        | (refine step_append_reads rfl (.tmp 44) (.tmp 46) 40 rfl wx.heap.size 87 i0 (.agg #[.string ByteArray.empty, .int .i64 0, .slice none 0 0, .bool false, .int .i64 0]) 5 64 Tryz.underlying40 hi hz0 hz1 hz2 rfl (by decide) va (0 + q) ([] ++ (bks.take q).flatMap bookC) ?e1 owna (some ⟨wx.heap.size, 0, none⟩) 1 1 [.string xn, .int .i64 xz, .slice mo xr.length mc, .bool xf, .int .i64 xe] ?e2 rfl ?hn HX1.out HM2.out HB2.out ?hbase ?_
           case e1 => first | rfl | simp [Act.eval]
           case e2 => first | rfl | simp [Act.eval]
           case hn => exact five_src kbx
           case hbase => have := ba.size; simp <;> omega
           intro vc wcc ownc growc nilc
           have bc : Below wx.heap.size wx wcc := (ba).grown growc (by have := ba.size; simp <;> omega) (fun z hz => (owna.lt z hz).1)
           obtain ⟨ecb, ecf, ec0, ec1, ec2, ec3, ec4⟩ := ins_facts (X := wcc) bc st2.box k2)
        | (refine step_append_reads rfl (.tmp 47) (.tmp 48) 40 rfl wx.heap.size 87 i0 (.agg #[.string ByteArray.empty, .int .i64 0, .slice none 0 0, .bool false, .int .i64 0]) 5 64 Tryz.underlying40 hi hz0 hz1 hz2 rfl (by decide) vc (0 + q + 1) ([] ++ (bks.take q).flatMap bookC ++ [.string xn, .int .i64 xz, .slice mo xr.length mc, .bool xf, .int .i64 xe]) ?e1 ownc o6 (bks.length - q) c6 ((bks.drop q).flatMap bookC) ?e2 HDL.out (HS3.out _ bc) HD.out HM3.out HB3.out ?hbase ?_
           case e1 => first | rfl | simp [Act.eval]
           case e2 => first | rfl | simp [Act.eval]
           case hbase => have := bc.size; omega
           intro vd wd ownd growd nild
           obtain ⟨od, cd, hvd⟩ := own_slice ownd
           subst hvd
           have bd : Below wx.heap.size wx wd := bc.grown growd (by have := bc.size; omega) (fun z hz => (ownc.lt z hz).1)
           obtain ⟨edb, edf, ed0, ed1, ed2, ed3, ed4⟩ := ins_facts (X := wd) bd st2.box k2))
      all_goals
        have HF : Hid _ := ins_end (x := ⟨xn, xz, .slice mo xr.length mc, xr, xf, xe⟩) hq hbase d2 st2 hm2 bd ownd HINS.out
        exact bodyPost_end (results_none rfl _ _ _) rfl ⟨_, _, rfl, HF.out⟩
end Go.Proofs.YtcefcglonooelaaGreatDoor

namespace Go.Proofs.YtcefcglonooelaaGreatDoor
open Go.RowKit

set_option linter.unusedVariables false

set_option maxRecDepth 100000


set_option maxHeartbeats 6400000 in
theorem l8Insert_nil (base b : Nat) (v1 v2 : Value) (s : Sf) (x : Bk) (w : World) (st : ShSt base b w v1 v2 (.slice none 0 0) [] s) (hm : w.ownsRow base 129 3 x.m x.rs.length (x.rs.flatMap runC)) :
    Calls Tryz.prog 101 #[.pointer (some ⟨b, 0, none⟩), .agg #[.string x.nm, .int .i64 x.sz, x.m, .bool x.fx, .int .i64 x.ep]] w fun e w' => ∃ (vb' : Value) (bks' : List Bk), e = .returned (.tuple #[]) ∧ ShSt base b w' v1 v2 vb' bks' ⟨s.cs, s.ps, insertP s.bs x.pb⟩ ∧ Only (fun i => i = b) w w' := by
  obtain ⟨i0, hi, hz0, hz1, hz2⟩ := info_parts Tryz.infoBook
  obtain ⟨xn, xz, xm, xr, xf, xe⟩ := x
  obtain ⟨mo, mc, hmf⟩ := own_slice hm
  simp only at hmf hm
  subst hmf
  obtain ⟨W0, hW0, k0, d0, z0⟩ := box1 w #[.string xn, .int .i64 xz, .slice mo xr.length mc, .bool xf, .int .i64 xe] 87
  have HW0 : Hid (W0 = _) := hW0
  have hbase : base ≤ w.heap.size := Nat.le_trans st.lo (Nat.le_of_lt (heap_lt st.box))
  have st0 := st.below d0
  have hm0 := owns_below hm d0
  have l0 := heap_lt k0
  have HINS : Hid (insertP s.bs ⟨xn, xz, xr, xf, xe⟩ = (([] : List Bk).take 0 ++ [(⟨xn, xz, .slice mo xr.length mc, xr, xf, xe⟩ : Bk)] ++ ([] : List Bk).drop 0).map Bk.pb) := by
    rw [Hid, ← st.eq]
    rfl
  clear hW0 hm
  simp only
  go_enter Tryz.func101, Tryz.ntmps101
  go_upto_block 0 with fail
  rw [← HW0.out]
  clear HW0
  go_cut [4] (fun i wr => i = .int .i64 0 ∧ Below W0.heap.size W0 wr)
  case first =>
    go_wp2_with fail
    go_loopw [4] (fun i wr => i = .int .i64 0 ∧ Below W0.heap.size W0 wr) (fun i _ => 0)
    case atStart => exact ⟨rfl, Below.refl _ _⟩
    case round =>
      obtain ⟨rfl, hb⟩ := hrel
      have st1 := st0.below hb
      have pB := at_cell st1.box 2
      go_wp2_with fail
      go_quiet (fail)
      go_wp2_with fail
      go_meet
      exact ⟨rfl, ⟨hb.os, hb.tape, hb.output, hb.size, hb.block⟩⟩
  case rest =>
    obtain ⟨rfl, hb⟩ := hcut
    generalize wc = wy at *
    have st1 := st0.below hb
    have k1 := (hb.block _ l0).trans k0
    have hm1 := owns_below hm0 hb
    have d1 := bw_call d0 hb
    have b6 : Below wy.heap.size wy (wy.alloc (.cells #[] 87)) := bw_alloc (Below.refl _ _)
    have pB := (Below.cell b6 (p := ⟨b, 2, none⟩) (heap_lt st1.box)).trans (at_cell st1.box 2)
    obtain ⟨wx, hwx⟩ : ∃ wx, wx = wy.alloc (.cells #[] 87) := ⟨_, rfl⟩
    have HWX : Hid (wx = _) := hwx
    rw [← hwx] at b6
    have st2 := st1.below b6
    have k2 := (b6.block _ (heap_lt k1)).trans k1
    have d2 := bw_call d1 b6
    have hm2 := owns_below hm1 b6
    obtain ⟨e0b, e0f, e00, e01, e02, e03, e04⟩ := ins_facts (X := wx.drew) ((Below.refl _ _).drew) st2.box k2
    obtain ⟨e1b, e1f, e10, e11, e12, e13, e14⟩ := ins_facts (X := (wx.alloc (.cells #[] 87)).drew) ((bw_alloc (Below.refl _ _)).drew) st2.box k2
    obtain ⟨e2b, e2f, e20, e21, e22, e23, e24⟩ := ins_facts (X := (wx.alloc (.cells #[.string xn, .int .i64 xz, .slice mo xr.length mc, .bool xf, .int .i64 xe] 87)).drew) ((bw_alloc (Below.refl _ _)).drew) st2.box k2
    obtain ⟨e3b, e3f, e30, e31, e32, e33, e34⟩ := ins_facts (X := ((wx.alloc (.cells #[] 87)).alloc (.cells #[.string xn, .int .i64 xz, .slice mo xr.length mc, .bool xf, .int .i64 xe] 87)).drew) ((bw_alloc (bw_alloc (Below.refl _ _))).drew) st2.box k2
    obtain ⟨e4b, e4f, e40, e41, e42, e43, e44⟩ := ins_facts (X := ((wx.alloc (.cells #[.string xn, .int .i64 xz, .slice mo xr.length mc, .bool xf, .int .i64 xe] 87)).alloc (.cells #[] 87)).drew) ((bw_alloc (bw_alloc (Below.refl _ _))).drew) st2.box k2
    have HX1 : Hid (∀ u ∈ ([.string xn, .int .i64 xz, .slice mo xr.length mc, .bool xf, .int .i64 xe] : List Value), u.oneCell' = true) := one_book ⟨xn, xz, .slice mo xr.length mc, xr, xf, xe⟩ ⟨_, _, _, rfl⟩
    have HM2 : Hid (0 + 1 ≤ maxLen) := by rw [Hid]; unfold maxLen; omega
    have HB2 : Hid ((0 + 1) * 64 ≤ 140737488355328) := by rw [Hid]; omega
    have HM3 : Hid (0 + 1 + 0 ≤ maxLen) := by rw [Hid]; unfold maxLen; omega
    have HB3 : Hid ((0 + 1 + 0) * 64 ≤ 140737488355328) := by rw [Hid]; omega
    have HBX1 : Hid (((wx.alloc (.cells #[] 87)).alloc (.cells #[.string xn, .int .i64 xz, .slice mo xr.length mc, .bool xf, .int .i64 xe] 87)).heap[wx.heap.size + 1]? = some (.cells #[.string xn, .int .i64 xz, .slice mo xr.length mc, .bool xf, .int .i64 xe] 87 (0, 0))) := by
      obtain ⟨W, hW, -, h, -⟩ := box2 wx #[] #[.string xn, .int .i64 xz, .slice mo xr.length mc, .bool xf, .int .i64 xe] 87 87
      rw [hW] at h
      exact h
    have HBX2 : Hid (((wx.alloc (.cells #[.string xn, .int .i64 xz, .slice mo xr.length mc, .bool xf, .int .i64 xe] 87)).alloc (.cells #[] 87)).heap[wx.heap.size]? = some (.cells #[.string xn, .int .i64 xz, .slice mo xr.length mc, .bool xf, .int .i64 xe] 87 (0, 0))) := by
      obtain ⟨W, hW, h, -⟩ := box2 wx #[.string xn, .int .i64 xz, .slice mo xr.length mc, .bool xf, .int .i64 xe] #[] 87 87
      rw [hW] at h
      exact h
    clear hwx st0 k0 hm0 d0 hb z0 l0 st
    go_wp2_with fail
    rw [← HWX.out]
    clear HWX pB
    go_region_law (first
        | (refine step_append_reads rfl (.tmp 44) (.tmp 46) 40 rfl wx.heap.size 87 i0 (.agg #[.string ByteArray.empty, .int .i64 0, .slice none 0 0, .bool false, .int .i64 0]) 5 64 Tryz.underlying40 hi hz0 hz1 hz2 rfl (by decide) (.slice (some ⟨wx.heap.size, 0, none⟩) 0 0) 0 [] ?e1 ?own (some ⟨wx.heap.size + 1, 0, none⟩) 1 1 [.string xn, .int .i64 xz, .slice mo xr.length mc, .bool xf, .int .i64 xe] ?e2 rfl ?hn HX1.out HM2.out HB2.out ?hbase ?_
           case e1 => first | rfl | simp [Act.eval]
           case e2 => first | rfl | simp [Act.eval]
           case own => exact (own_nobooks wx).alloc (.cells #[.string xn, .int .i64 xz, .slice mo xr.length mc, .bool xf, .int .i64 xe] 87)
           case hn => exact five_src HBX1.out
           case hbase => simp <;> omega
           intro vc wcc ownc growc nilc
           have bc : Below wx.heap.size wx wcc := ((bw_alloc (bw_alloc (Below.refl _ _))).drew).grown growc (by simp <;> omega) (fun z hz => by simp [Value.ownBlock] at hz; omega)
           obtain ⟨ecb, ecf, ec0, ec1, ec2, ec3, ec4⟩ := ins_facts (X := wcc) bc st2.box k2)
        | (refine step_append_reads rfl (.tmp 44) (.tmp 46) 40 rfl wx.heap.size 87 i0 (.agg #[.string ByteArray.empty, .int .i64 0, .slice none 0 0, .bool false, .int .i64 0]) 5 64 Tryz.underlying40 hi hz0 hz1 hz2 rfl (by decide) (.slice (some ⟨wx.heap.size + 1, 0, none⟩) 0 0) 0 [] ?e1 ?own (some ⟨wx.heap.size, 0, none⟩) 1 1 [.string xn, .int .i64 xz, .slice mo xr.length mc, .bool xf, .int .i64 xe] ?e2 rfl ?hn HX1.out HM2.out HB2.out ?hbase ?_
           case e1 => first | rfl | simp [Act.eval]
           case e2 => first | rfl | simp [Act.eval]
           case own => exact (by have h := own_nobooks (wx.alloc (.cells #[.string xn, .int .i64 xz, .slice mo xr.length mc, .bool xf, .int .i64 xe] 87)); rw [show (wx.alloc (.cells #[.string xn, .int .i64 xz, .slice mo xr.length mc, .bool xf, .int .i64 xe] 87)).heap.size = wx.heap.size + 1 by simp] at h; exact owns_mono h (by omega))
           case hn => exact five_src HBX2.out
           case hbase => simp <;> omega
           intro vc wcc ownc growc nilc
           have bc : Below wx.heap.size wx wcc := ((bw_alloc (bw_alloc (Below.refl _ _))).drew).grown growc (by simp <;> omega) (fun z hz => by simp [Value.ownBlock] at hz; omega)
           obtain ⟨ecb, ecf, ec0, ec1, ec2, ec3, ec4⟩ := ins_facts (X := wcc) bc st2.box k2)
        | (refine step_append_reads rfl (.tmp 47) (.tmp 48) 40 rfl wx.heap.size 87 i0 (.agg #[.string ByteArray.empty, .int .i64 0, .slice none 0 0, .bool false, .int .i64 0]) 5 64 Tryz.underlying40 hi hz0 hz1 hz2 rfl (by decide) vc (0 + 1) ([] ++ [.string xn, .int .i64 xz, .slice mo xr.length mc, .bool xf, .int .i64 xe]) ?e1 ownc (some ⟨wy.heap.size, 0, none⟩) 0 0 [] ?e2 rfl (fun j u h => by simp at h) (fun u h => by simp at h) HM3.out HB3.out ?hbase ?_
           case e1 => first | rfl | simp [Act.eval]
           case e2 => first | rfl | simp [Act.eval]
           case hbase => have := bc.size; omega
           intro vd wd ownd growd nild
           obtain ⟨od, cd, hvd⟩ := own_slice ownd
           subst hvd
           have bd : Below wx.heap.size wx wd := bc.grown growd (by have := bc.size; omega) (fun z hz => (ownc.lt z hz).1)
           obtain ⟨edb, edf, ed0, ed1, ed2, ed3, ed4⟩ := ins_facts (X := wd) bd st2.box k2))
    all_goals
      have HF : Hid _ := ins_end (q := 0) (x := ⟨xn, xz, .slice mo xr.length mc, xr, xf, xe⟩) (Nat.le_refl _) hbase d2 st2 hm2 bd ownd HINS.out
      exact bodyPost_end (results_none rfl _ _ _) rfl ⟨_, _, rfl, HF.out⟩

/-- A book is laid into the row of books, by its name. -/
theorem l8Insert_any (base b : Nat) (v1 v2 vb : Value) (bks : List Bk) (s : Sf) (x : Bk) (w : World) (st : ShSt base b w v1 v2 vb bks s) (hn : bks.length ≤ 6) (hm : w.ownsRow base 129 3 x.m x.rs.length (x.rs.flatMap runC)) :
    Calls Tryz.prog 101 #[.pointer (some ⟨b, 0, none⟩), .agg #[.string x.nm, .int .i64 x.sz, x.m, .bool x.fx, .int .i64 x.ep]] w fun e w' => ∃ (vb' : Value) (bks' : List Bk), e = .returned (.tuple #[]) ∧ ShSt base b w' v1 v2 vb' bks' ⟨s.cs, s.ps, insertP s.bs x.pb⟩ ∧ Only (fun i => i = b) w w' := by
  rcases st.books.row.2 with ⟨e, h0⟩ | ⟨g, cap, cur, e, _⟩
  · subst e
    obtain rfl : bks = [] := List.length_eq_zero_iff.1 h0
    exact l8Insert_nil base b v1 v2 s x w st hm
  · subst e
    exact l8Insert_row base b g cap v1 v2 bks s x w st hn hm
end Go.Proofs.YtcefcglonooelaaGreatDoor

