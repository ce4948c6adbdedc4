/-
  JournalCrash.
-/
import Derived.Test.YtemldlhhlneleaaDoorJlG
namespace Go.Proofs.YtemldlhhlneleaaDoor.Jn
open Go.RowKit Dk Wi

/-- what an append of two lists leaves -/
def LgRel2 (l : List S) (W : World) (x : Value) (wx : World) : Prop := ∃ wv u c, wv = wx ∧ x = .slice u l.length c ∧ LAt wv (.slice u l.length c) l ∧ Below W.heap.size W wv
theorem ne_snoc {l : List S} {x : S} (h : l = l ++ [x]) : False := by
  have := congrArg List.length h
  rw [List.length_append, List.length_singleton] at this
  omega
/-- a list outlives a store into a disk's box -/
theorem LAt.put {svb pvb : Value} {l0 : Int} {b0 : Bool} {g : Nat} {W : World} {v : Value} {l : List S} (h : LAt W v l) (hb : Bx svb pvb l0 b0 g W) (hs : ∀ s, svb ≠ .string s) (hp : ∀ s, pvb ≠ .string s) (sv pv : Value) (l' : Int) (b : Bool) : LAt (put4 W g sv pv l' b) v l := by
  have str : ∀ (g' o : Nat) (s : B), W.cell? ⟨g', o, none⟩ = some (.string s) → g' ≠ g ∨ 3 < o := by
    intro g' o s h
    apply Classical.byContradiction
    intro hc
    have e1 : g' = g := Classical.byContradiction fun e => hc (.inl e)
    subst e1
    have e2 : o ≤ 3 := by omega
    match o, e2 with
    | 0, _ => rw [hb.c0] at h; simp only [Option.some.injEq] at h; exact hs s h
    | 1, _ => rw [hb.c1] at h; simp only [Option.some.injEq] at h; exact hp s h
    | 2, _ => rw [hb.c2] at h; simp at h
    | 3, _ => rw [hb.c3] at h; simp at h
  obtain ⟨a, c, e1, h1, h2⟩ := h
  refine ⟨a, c, e1, h1, fun j x hx => ?_⟩
  obtain ⟨q, off, e3, hlt, hcell⟩ := h2 j x hx
  rw [List.getElem?_map] at hx
  obtain ⟨s, -, rfl⟩ := Option.map_eq_some_iff.1 hx
  exact ⟨q, off, e3, by simpa using hlt, by rw [put4_other _ _ _ _ _ (str _ _ _ hcell)]; exact hcell⟩
/-- behind a call that starts a disk, its result in a variable -/
def ZRel (W : World) (d : D) (x y : Value) (wx : World) : Prop := ∃ wv G a c p e, wv = wx ∧ x = .pointer (some ⟨G, 0, none⟩) ∧ y = .int .i64 0 ∧ Bx (.slice a 60 c) (.slice p 0 e) (-1) false G wv ∧ DAt wv (.agg #[.slice a 60 c, .slice p 0 e, .int .i64 (-1), .bool false]) d ∧ W.heap.size ≤ G ∧ Below W.heap.size W wv
/-- behind the store of the started disk -/
def PtRel (w : World) (f : Int) (g : Nat) (a : Option Addr) (c : Nat) (p : Option Addr) (e : Nat) (d : D) (v1 : Value) (l1 : List S) (v2 : Value) (l2 : List S) (x : Value) (wx : World) : Prop := ∃ wv, wv = wx ∧ x = .int .i64 f ∧ Bx (.slice a 60 c) (.slice p 0 e) (-1) false g wv ∧
  DAt wv (.agg #[.slice a 60 c, .slice p 0 e, .int .i64 (-1), .bool false]) d ∧ LAt wv v1 l1 ∧ LAt wv v2 l2 ∧ Below w.heap.size w wv
/-- append onto an own list, at an operation whose guard is met -/
theorem wpList_append_own_g {P : Program} {ops : Array Oper} {rest : List Oper} {o : Oper} {a : Act} {w : World} {Q : Exit → Act → World → Prop} (hw : Region.wanted o (yielded ops a.tmps) = true) (s x : Operand) (t : TypeId)
    (ho : o.op = .call { callee := .builtin .append, args := #[s, x], argTypes := #[t, t] })
    (base : Nat) (e : TypeId) (i : TypeInfo) (z : Value) (size bytes : Nat) (ht : P.underlying t = some (.slice e)) (hi : P.info? e = some i) (hz : i.zero = some z)
    (hsize : i.size = size) (hby : i.bytes = bytes) (hzs : z.cells.size = size) (hsz : 0 < size)
    (v : Value) (n : Nat) (xs : List Value) (hs : a.eval s = v) (hown : w.ownsRow base e size v n xs)
    (ad : Addr) (m c : Nat) (news : List Value) (hx : a.eval x = .slice (some ad) m c) (hl : news.length = m * size) (hnews : ∀ j u, news[j]? = some u → w.cell? (ad.add j) = some u) (h1 : ∀ u ∈ news, u.oneCell' = true)
    (h63 : n + m ≤ maxLen) (hbytes : (n + m) * bytes ≤ 140737488355328) (hbase : base ≤ w.heap.size)
    (h : ∀ v' w', w'.ownsRow base e size v' (n + m) (xs ++ news) → w.grownBy w' v.ownBlock → (v' = .slice none 0 0 ↔ v = .slice none 0 0 ∧ m = 0) → wpList P ops Q rest (a.put o.dst v') w') : wpList P ops Q (o :: rest) a w :=
  wpList_step fun K hK => by
    simp only [hw, if_true]
    exact wp_append_own w s x t ho base e i z size bytes ht hi hz hsize hby hzs hsz v n xs hs hown ad m c news hx hl hnews h1 h63 hbytes hbase fun v' w' h2 h3 h4 => hK _ _ (h v' w' h2 h3 h4)
theorem lat_some {w : World} {ad : Addr} {n c : Nat} {l : List S} (h : LAt w (.slice (some ad) n c) l) : ∀ j u, (strs (l.map mkB))[j]? = some u → w.cell? (ad.add j) = some u := by
  obtain ⟨a, c', e, -, h2⟩ := h
  simp only [Value.slice.injEq] at e
  obtain ⟨rfl, -, -⟩ := e
  intro j u hu
  obtain ⟨b, off, e, -, h3⟩ := h2 j u hu
  injection e with e
  subst e
  rw [add_plain]
  exact h3
theorem lat_none {w : World} {n c : Nat} {l : List S} (h : LAt w (.slice none n c) l) : l = [] := by
  obtain ⟨a, c', e, -, h2⟩ := h
  simp only [Value.slice.injEq] at e
  obtain ⟨rfl, -, -⟩ := e
  cases l with
  | nil => rfl
  | cons x t =>
    obtain ⟨b, off, e, -⟩ := h2 0 (.string (mkB x)) rfl
    cases e

set_option maxHeartbeats 12800000 in
set_option maxRecDepth 100000 in
theorem crash_x (ok : DiskOk) (jk : JournalOk) (v : Value) (l : List S) (s t : B) (n : Int) (w : World) (ht : Tb w) (h : LAt w v l) (hl : l.length ≤ 9223372036854775807) (hs : ∀ s ∈ l, s.length ≤ 9223372036854775807) (hss : s.size ≤ 9223372036854775807) (htt : t.size ≤ 9223372036854775807) :
    Calls Tryd.prog 4 #[v, .string s, .string t, .int .i64 n] w fun r w' => r = .returned (.bool true) ∧ Below w.heap.size w w' := by
  have HT := Lib.hid ht
  clear ht
  have HL0 := Lib.hid h
  obtain ⟨sa, sc, rfl, -, -⟩ := h
  have ll : (strs (l.map mkB)).length = l.length := by simp
  rw [ll] at HL0 ⊢
  have HS := Lib.hid hs
  have HLE := Lib.hid hl
  clear ll hs hl
  obtain ⟨fb, hfb⟩ : ∃ t, fitsB (l.map mkB) ((6 : Nat) : Int) = t := ⟨_, rfl⟩
  have HFB := Lib.hid hfb
  clear hfb
  go_enter Tryd.func4, Tryd.ntmps4
  have HSN := Lib.hid (sane_x jk w HT.out)
  go_wp2_with fail
  refine HSN.out.mono ?_
  rintro r w1 ⟨rfl, b1⟩
  have B1 := Lib.hid b1
  have HL1 := Lib.hid (HL0.out.next b1)
  clear b1 HSN
  have HFT := Lib.hid (fits_l _ l 6 w1 HL1.out HLE.out HS.out HFB.out)
  go_wp2_with fail
  refine HFT.out.mono ?_
  rintro r w2 ⟨rfl, rfl⟩
  clear HFT
  cases fb with
  | false =>
    go_wp2_with fail
    go_ret
    exact ⟨by rfl, B1.out⟩
  | true =>
  obtain ⟨hs1, hl6⟩ := fits_lst.1 HFB.out
  have HS1 := Lib.hid hs1
  clear hs1
  by_cases ts : s.size ≤ 100
  case neg =>
    have t1 : 100 < (s.size : Int) := by omega
    clear ts
    go_wp2_with fail
    go_ret
    exact ⟨by rfl, B1.out⟩
  case pos =>
  have t1 : ¬ 100 < (s.size : Int) := by omega
  by_cases tt : t.size ≤ 100
  case neg =>
    have t2 : 100 < (t.size : Int) := by omega
    clear tt
    go_wp2_with fail
    go_ret
    exact ⟨by rfl, B1.out⟩
  case pos =>
  have t2 : ¬ 100 < (t.size : Int) := by omega
  obtain ⟨r1, r2, r3⟩ := crash_room (s := s.data.toList) (t := t.data.toList) HS1.out hl6 ts tt
  have R1 := Lib.hid r1
  have R2 := Lib.hid r2
  have R3 := Lib.hid r3
  clear r1 r2 r3
  have HFD := Lib.hid (filled_x jk 60 _ l w1 (HT.out.next B1.out) HL1.out (by decide) (by decide) (by omega) HS1.out (by omega))
  go_wp2_with fail
  refine HFD.out.mono ?_
  rintro r w2 ⟨x, d, rfl, hF, hD, b2⟩
  obtain ⟨a, c, p, c2, rfl, -, -, -, -⟩ := hD.form
  have f1 := hF.len
  have f2 : d.pend.length = 0 := by rw [hF.check.2.2]; rfl
  have f3 := hF.left
  have f4 := hF.check.2.1
  rw [f1, f2, f3, f4] at hD ⊢
  have HF := Lib.hid hF
  have Ll := Lib.hid (HL1.out.next b2)
  have BB := Lib.hid (chain B1.out b2)
  have h2 := Lib.hid hD
  clear f1 f2 f3 f4 hF hD b2 HFD HL1 B1
  have Ml := Lib.hid (Ll.out.next (Below.new1 (.cells #[.slice a 60 c, .slice p 0 c2, .int .i64 (-1), .bool false] 27)))
  clear Ll
  have Ll := Lib.hid Ml.out
  clear Ml
  have BB' := Lib.hid (chain BB.out (Below.new1 (.cells #[.slice a 60 c, .slice p 0 c2, .int .i64 (-1), .bool false] 27)))
  clear BB
  have BB := Lib.hid BB'.out
  clear BB'
  have Pd := Lib.hid (Bx.new w2 (.slice a 60 c) (.slice p 0 c2) (-1) false 27)
  have Hd := Lib.hid (h2.out.next (Below.new1 (.cells #[.slice a 60 c, .slice p 0 c2, .int .i64 (-1), .bool false] 27)))
  clear h2
  obtain ⟨a1, ha1⟩ : ∃ x, n.tmod 16 = x := ⟨_, rfl⟩
  obtain ⟨b1', hb1⟩ : ∃ x, (a1 + 16).tmod 16 = x := ⟨_, rfl⟩
  have h1a : -16 < a1 := by rw [← ha1]; have := Int.tmod_lt_of_pos (-n) (b := 16) (by decide); rw [Int.neg_tmod] at this; omega
  have h1b : a1 < 16 := by rw [← ha1]; exact Int.tmod_lt_of_pos n (by decide)
  have h1c : 0 ≤ b1' := by rw [← hb1]; exact Int.tmod_nonneg 16 (by omega)
  have h1d : b1' < 16 := by rw [← hb1]; exact Int.tmod_lt_of_pos _ (by decide)
  obtain ⟨kk, rfl⟩ := Int.eq_ofNat_of_zero_le h1c
  obtain ⟨q1, q2⟩ := HF.out.arm (k := kk) (by omega)
  have Q1 := Lib.hid q1
  have Q2 := Lib.hid q2
  have FX := Lib.hid (fit_right (allV_ok.1 q2).1.1)
  clear q1 q2
  have CP := Lib.hid (crash_plain (s := s.data.toList) (k := kk) HF.out (by omega) (by rw [size_list]; omega) (by omega) R1.out)
  have x0 := Pd.out.c0
  have x1 := Pd.out.c1
  have x2 := Pd.out.c2
  have x3 := Pd.out.c3
  have xl := Pd.out.lt
  have HC := Lib.hid (conv_sh (ok.arm _ d (kk : Int) _ Hd.out HF.out.fit (by unfold I64; omega)) Q1.out HF.out.len rfl rfl rfl)
  go_wp2_with fail
  refine HC.out.mono ?_
  rintro r w3 ⟨a3, c3, p3, e3, rfl, h3, b3⟩
  clear HC x0 x1 x2 x3 xl
  have Qd := Lib.hid (Pd.out.next (b3))
  have Id := Lib.hid (Hd.out.next (b3))
  clear Pd Hd
  have Pd := Lib.hid Qd.out
  have Hd := Lib.hid Id.out
  clear Qd Id
  have Ml := Lib.hid (Ll.out.next (b3))
  clear Ll
  have Ll := Lib.hid Ml.out
  clear Ml
  have BB' := Lib.hid (chain BB.out (b3))
  clear BB
  have BB := Lib.hid BB'.out
  clear BB'
  have h3' := Lib.hid (h3.next (Below.new1 (.cells #[.slice a3 60 c3, .slice p3 0 e3, .int .i64 (kk : Int), .bool false] 27)))
  clear h3 b3
  have Qd := Lib.hid (Pd.out.next (Below.new1 (.cells #[.slice a3 60 c3, .slice p3 0 e3, .int .i64 (kk : Int), .bool false] 27)))
  have Id := Lib.hid (Hd.out.next (Below.new1 (.cells #[.slice a3 60 c3, .slice p3 0 e3, .int .i64 (kk : Int), .bool false] 27)))
  clear Pd Hd
  have Pd := Lib.hid Qd.out
  have Hd := Lib.hid Id.out
  clear Qd Id
  have Ml := Lib.hid (Ll.out.next (Below.new1 (.cells #[.slice a3 60 c3, .slice p3 0 e3, .int .i64 (kk : Int), .bool false] 27)))
  clear Ll
  have Ll := Lib.hid Ml.out
  clear Ml
  have BB' := Lib.hid (chain BB.out (Below.new1 (.cells #[.slice a3 60 c3, .slice p3 0 e3, .int .i64 (kk : Int), .bool false] 27)))
  clear BB
  have BB := Lib.hid BB'.out
  clear BB'
  have Px := Lib.hid (Bx.new w3 (.slice a3 60 c3) (.slice p3 0 e3) (kk : Int) false 27)
  have Hx := Lib.hid h3'.out
  clear h3'
  obtain ⟨L2, hL2⟩ : ∃ x, l ++ [s.data.toList] = x := ⟨_, rfl⟩
  have NL2 : Hid (L2.length = l.length + 1) := by show _ = _; rw [← hL2, List.length_append, List.length_singleton]
  have HL2 := Lib.hid hL2
  have LB : Hid (l.length ≤ 1099511627776) := by show _ ≤ _; omega
  have LB2 : Hid (L2.length ≤ 1099511627776) := by show _ ≤ _; have := NL2.out; omega
  have r3' := R3.out
  rw [hL2] at r3'
  clear R3
  have R3 := Lib.hid r3'
  clear r3' hL2
  rcases CP.out with hcp | hcp
  · obtain ⟨ys, yl, e1, e2, e3, e4, e5, e6, e7⟩ := hcp
    rw [HL2.out] at e7
    have E4 := Lib.hid e4
    have E5 := Lib.hid e5
    clear e4 e5
    have E1 := Lib.hid e1
    have E2 := Lib.hid e2
    have E3 := Lib.hid e3
    have E6 := Lib.hid e6
    have E7 := Lib.hid e7
    clear e1 e2 e3 e6 e7
    have x0 := Px.out.c0
    have x1 := Px.out.c1
    have x2 := Px.out.c2
    have x3 := Px.out.c3
    have xl := Px.out.lt
    have HC := Lib.hid (conv_sh (jk.append _ (ds d.secs (kk : Int) false) s _ Hx.out FX.out hss (HT.out.next BB.out)) E1.out E3.out rfl rfl rfl)
    go_wp2_with fail
    refine HC.out.mono ?_
    rintro r w4 ⟨a4, c4, p4, e4, rfl, h4, b4⟩
    clear HC x0 x1 x2 x3 xl
    have Qd := Lib.hid (Pd.out.next (b4))
    have Id := Lib.hid (Hd.out.next (b4))
    have Qx := Lib.hid (Px.out.next (b4))
    have Ix := Lib.hid (Hx.out.next (b4))
    clear Pd Hd Px Hx
    have Pd := Lib.hid Qd.out
    have Hd := Lib.hid Id.out
    have Px := Lib.hid Qx.out
    have Hx := Lib.hid Ix.out
    clear Qd Id Qx Ix
    have Ml := Lib.hid (Ll.out.next (b4))
    clear Ll
    have Ll := Lib.hid Ml.out
    clear Ml
    have BB' := Lib.hid (chain BB.out (b4))
    clear BB
    have BB := Lib.hid BB'.out
    clear BB'
    have GY : Hid (w.heap.size ≤ w4.heap.size) := BB.out.size
    have h4' := Lib.hid (h4.next (Below.new1 (.cells #[.slice a4 60 c4, .slice p4 0 e4, .int .i64 yl, .bool false] 27)))
    clear h4 b4
    have Qd := Lib.hid (Pd.out.next (Below.new1 (.cells #[.slice a4 60 c4, .slice p4 0 e4, .int .i64 yl, .bool false] 27)))
    have Id := Lib.hid (Hd.out.next (Below.new1 (.cells #[.slice a4 60 c4, .slice p4 0 e4, .int .i64 yl, .bool false] 27)))
    have Qx := Lib.hid (Px.out.next (Below.new1 (.cells #[.slice a4 60 c4, .slice p4 0 e4, .int .i64 yl, .bool false] 27)))
    have Ix := Lib.hid (Hx.out.next (Below.new1 (.cells #[.slice a4 60 c4, .slice p4 0 e4, .int .i64 yl, .bool false] 27)))
    clear Pd Hd Px Hx
    have Pd := Lib.hid Qd.out
    have Hd := Lib.hid Id.out
    have Px := Lib.hid Qx.out
    have Hx := Lib.hid Ix.out
    clear Qd Id Qx Ix
    have Ml := Lib.hid (Ll.out.next (Below.new1 (.cells #[.slice a4 60 c4, .slice p4 0 e4, .int .i64 yl, .bool false] 27)))
    clear Ll
    have Ll := Lib.hid Ml.out
    clear Ml
    have BB' := Lib.hid (chain BB.out (Below.new1 (.cells #[.slice a4 60 c4, .slice p4 0 e4, .int .i64 yl, .bool false] 27)))
    clear BB
    have BB := Lib.hid BB'.out
    clear BB'
    have Py := Lib.hid (Bx.new w4 (.slice a4 60 c4) (.slice p4 0 e4) yl false 27)
    have Hy := Lib.hid h4'.out
    clear h4'
    go_upto_region 11 with fail
    go_cut [16] (fun x wx => LgRel2 (l ++ [s.data.toList]) (w4.alloc (.cells #[.slice a4 60 c4, .slice p4 0 e4, .int .i64 yl, .bool false] 27)) x wx)
    case first =>
      obtain ⟨WW, hWW⟩ : ∃ x, x = (w4.alloc (.cells #[.slice a4 60 c4, .slice p4 0 e4, .int .i64 yl, .bool false] 27)) := ⟨_, rfl⟩
      have Lw : Hid (LAt WW (.slice sa l.length sc) l) := by show LAt _ _ _; rw [hWW]; exact Ll.out
      rw [← hWW]
      have HWW := Lib.hid hWW
      clear hWW
      obtain ⟨rj, hj, hy0, hy1, hy2⟩ := info_parts infoS
      have Hj := Lib.hid hj
      have Hy0 := Lib.hid hy0
      have Hy1 := Lib.hid hy1
      have Hy2 := Lib.hid hy2
      clear hj hy0 hy1 hy2
      cases sa with
      | none =>
        obtain rfl : l = [] := lat_none Lw.out
        have HO5 : Hid ((WW.alloc (.cells #[] 9)).ownsRow WW.heap.size 9 1 (.slice (some ⟨WW.heap.size, 0, none⟩) 0 0) 0 []) := own_none WW _ _ _ rfl (Nat.le_refl _)
        have B5 : Hid (Below WW.heap.size WW (WW.alloc (.cells #[] 9))) := Below.new1 _
        go_wp2_with (at_builtin; refine wpList_append_own _ rfl (.tmp 80) (.tmp 82) 24 rfl WW.heap.size 9 rj (.string ⟨#[]⟩) 1 16 Tryd.underlying24 Hj.out Hy0.out Hy1.out Hy2.out rfl (by decide) _ 0 ([]) rfl (HO5.out.alloc _) ⟨WW.heap.size + 1, 0, none⟩ 1 1 [.string s] rfl rfl ?g1 ?g2 ?g3 ?g4 ?g5 ?_)
        case g1 => exact cell_new1 _ _ _ _ (by first | rfl | simp)
        case g2 => intro u hu; simp at hu; subst hu; rfl
        case g3 => unfold maxLen; omega
        case g4 => omega
        case g5 => have := B5.out.size; simp; omega
        intro v6 w6 hown6 hgrow6 _
        have hrow6 : ∀ jj, (Value.slice (some ⟨WW.heap.size, 0, none⟩) 0 0).ownBlock = some jj → WW.heap.size ≤ jj := fun jj hj => (HO5.out.lt jj hj).1
        have B6 : Hid (Below WW.heap.size WW w6) := B5.out.trans (((Below.refl WW.heap.size _).alloc B5.out.size _).grown hgrow6 (by have := B5.out.size; simp; omega) hrow6)
        have hl6' : ([] : List Value) ++ [.string s] = strs (([] ++ [s.data.toList]).map mkB) := by simp [strs, mkB_of]
        have hown6 : w6.ownsRow WW.heap.size 9 1 v6 (0 + 1) (strs (([] ++ [s.data.toList]).map mkB)) := by rw [← hl6']; first | exact hown6 | (rw [← List.map_map] at hown6; exact hown6)
        obtain ⟨u6, c6, e6, h6, h7⟩ := SAt.own hown6 (by simp)
        have hn6 : (strs (([] ++ [s.data.toList]).map mkB)).length = 0 + 1 := by simp
        rw [hn6] at e6
        subst e6
        go_wp2_with fail
        go_meet
        exact ⟨_, u6, c6, rfl, by rw [List.length_append]; rfl, by rw [List.length_append]; exact SAt.own hown6 hn6.symm, by have q := B6.out; rw [HWW.out] at q; exact q⟩
      | some ad =>
        go_wp2_with (at_builtin; refine wpList_append_own _ rfl (.tmp 78) (.tmp 79) 24 rfl WW.heap.size 9 rj (.string ⟨#[]⟩) 1 16 Tryd.underlying24 Hj.out Hy0.out Hy1.out Hy2.out rfl (by decide) _ 0 [] rfl (own_none WW _ _ _ rfl (Nat.le_refl _)) ad l.length sc (strs (l.map mkB)) rfl ?f0 ?f1 ?f2 ?f3 ?f4 ?f5 ?_)
        case f0 => simp
        case f1 => exact lat_some (Lw.out.next (Below.new1 _))
        case f2 => intro u hu; obtain ⟨y, -, rfl⟩ := List.mem_map.1 hu; rfl
        case f3 => unfold maxLen; omega
        case f4 => omega
        case f5 => simp
        intro v5 w5 hown5 hgrow5 _
        have hown5' : w5.ownsRow WW.heap.size 9 1 v5 l.length (strs (l.map mkB)) := by simpa using hown5
        have HO5 := Lib.hid hown5'
        have B5 : Hid (Below WW.heap.size WW w5) := ((Below.refl WW.heap.size WW).alloc (Nat.le_refl _) _).grown hgrow5 (by simp) (fun jj hj => by simp [Value.ownBlock] at hj; omega)
        clear hown5 hown5'
        go_wp2_with (at_builtin; refine wpList_append_own _ rfl (.tmp 80) (.tmp 82) 24 rfl WW.heap.size 9 rj (.string ⟨#[]⟩) 1 16 Tryd.underlying24 Hj.out Hy0.out Hy1.out Hy2.out rfl (by decide) _ l.length (strs (l.map mkB)) rfl (HO5.out.alloc _) ⟨w5.heap.size, 0, none⟩ 1 1 [.string s] rfl rfl ?g1 ?g2 ?g3 ?g4 ?g5 ?_)
        case g1 => exact cell_new1 _ _ _ _ (by first | rfl | simp)
        case g2 => intro u hu; simp at hu; subst hu; rfl
        case g3 => unfold maxLen; omega
        case g4 => omega
        case g5 => have := B5.out.size; simp; omega
        intro v6 w6 hown6 hgrow6 _
        have hrow6 : ∀ jj, v5.ownBlock = some jj → WW.heap.size ≤ jj := fun jj hj => (HO5.out.lt jj hj).1
        have B6 : Hid (Below WW.heap.size WW w6) := B5.out.trans (((Below.refl WW.heap.size _).alloc B5.out.size _).grown hgrow6 (by have := B5.out.size; simp; omega) hrow6)
        have hl6' : strs (l.map mkB) ++ [.string s] = strs ((l ++ [s.data.toList]).map mkB) := by simp [strs, mkB_of]
        have hown6 : w6.ownsRow WW.heap.size 9 1 v6 (l.length + 1) (strs ((l ++ [s.data.toList]).map mkB)) := by rw [← hl6']; first | exact hown6 | (rw [← List.map_map] at hown6; exact hown6)
        obtain ⟨u6, c6, e6, h6, h7⟩ := SAt.own hown6 (by simp)
        have hn6 : (strs ((l ++ [s.data.toList]).map mkB)).length = l.length + 1 := by simp
        rw [hn6] at e6
        subst e6
        go_wp2_with fail
        go_meet
        exact ⟨_, u6, c6, rfl, by rw [List.length_append]; rfl, by rw [List.length_append]; exact SAt.own hown6 hn6.symm, by have q := B6.out; rw [HWW.out] at q; exact q⟩
    case rest =>
    rw [HL2.out] at hcut
    obtain ⟨wl, ug, cg, hw, rfl, hL6, hb6⟩ := hcut
    subst hw
    have hL6' := Lib.hid hL6
    clear hL6
    have Qd := Lib.hid (Pd.out.next (hb6))
    have Id := Lib.hid (Hd.out.next (hb6))
    have Qx := Lib.hid (Px.out.next (hb6))
    have Ix := Lib.hid (Hx.out.next (hb6))
    have Qy := Lib.hid (Py.out.next (hb6))
    have Iy := Lib.hid (Hy.out.next (hb6))
    clear Pd Hd Px Hx Py Hy
    have Pd := Lib.hid Qd.out
    have Hd := Lib.hid Id.out
    have Px := Lib.hid Qx.out
    have Hx := Lib.hid Ix.out
    have Py := Lib.hid Qy.out
    have Hy := Lib.hid Iy.out
    clear Qd Id Qx Ix Qy Iy
    have Ml := Lib.hid (Ll.out.next (hb6))
    clear Ll
    have Ll := Lib.hid Ml.out
    clear Ml
    have BB' := Lib.hid (chain BB.out (hb6))
    clear BB
    have BB := Lib.hid BB'.out
    clear BB'
    have Lg := Lib.hid hL6'.out
    clear hL6' hb6
    have x0 := Py.out.c0
    have x1 := Py.out.c1
    have x2 := Py.out.c2
    have x3 := Py.out.c3
    have xl := Py.out.lt
    have HC := Lib.hid (conv_sh (ok.cut _ (ds ys yl false) _ Hy.out (fit_right E2.out)) E4.out E3.out rfl rfl rfl)
    go_wp2_with fail
    refine HC.out.mono ?_
    rintro r w5 ⟨a5, c5, p5, e5, rfl, h5, b5⟩
    clear HC x0 x1 x2 x3 xl
    have Qd := Lib.hid (Pd.out.next (b5))
    have Id := Lib.hid (Hd.out.next (b5))
    have Qx := Lib.hid (Px.out.next (b5))
    have Ix := Lib.hid (Hx.out.next (b5))
    have Qy := Lib.hid (Py.out.next (b5))
    have Iy := Lib.hid (Hy.out.next (b5))
    clear Pd Hd Px Hx Py Hy
    have Pd := Lib.hid Qd.out
    have Hd := Lib.hid Id.out
    have Px := Lib.hid Qx.out
    have Hx := Lib.hid Ix.out
    have Py := Lib.hid Qy.out
    have Hy := Lib.hid Iy.out
    clear Qd Id Qx Ix Qy Iy
    have Ml := Lib.hid (Ll.out.next (b5))
    have Mg := Lib.hid (Lg.out.next (b5))
    clear Ll Lg
    have Ll := Lib.hid Ml.out
    have Lg := Lib.hid Mg.out
    clear Ml Mg
    have BB' := Lib.hid (chain BB.out (b5))
    clear BB
    have BB := Lib.hid BB'.out
    clear BB'
    have h5' := Lib.hid (h5.next (Below.new1 (.cells #[.slice a5 60 c5, .slice p5 0 e5, .int .i64 (-1), .bool true] 27)))
    clear h5 b5
    have Qd := Lib.hid (Pd.out.next (Below.new1 (.cells #[.slice a5 60 c5, .slice p5 0 e5, .int .i64 (-1), .bool true] 27)))
    have Id := Lib.hid (Hd.out.next (Below.new1 (.cells #[.slice a5 60 c5, .slice p5 0 e5, .int .i64 (-1), .bool true] 27)))
    have Qx := Lib.hid (Px.out.next (Below.new1 (.cells #[.slice a5 60 c5, .slice p5 0 e5, .int .i64 (-1), .bool true] 27)))
    have Ix := Lib.hid (Hx.out.next (Below.new1 (.cells #[.slice a5 60 c5, .slice p5 0 e5, .int .i64 (-1), .bool true] 27)))
    have Qy := Lib.hid (Py.out.next (Below.new1 (.cells #[.slice a5 60 c5, .slice p5 0 e5, .int .i64 (-1), .bool true] 27)))
    have Iy := Lib.hid (Hy.out.next (Below.new1 (.cells #[.slice a5 60 c5, .slice p5 0 e5, .int .i64 (-1), .bool true] 27)))
    clear Pd Hd Px Hx Py Hy
    have Pd := Lib.hid Qd.out
    have Hd := Lib.hid Id.out
    have Px := Lib.hid Qx.out
    have Hx := Lib.hid Ix.out
    have Py := Lib.hid Qy.out
    have Hy := Lib.hid Iy.out
    clear Qd Id Qx Ix Qy Iy
    have Ml := Lib.hid (Ll.out.next (Below.new1 (.cells #[.slice a5 60 c5, .slice p5 0 e5, .int .i64 (-1), .bool true] 27)))
    have Mg := Lib.hid (Lg.out.next (Below.new1 (.cells #[.slice a5 60 c5, .slice p5 0 e5, .int .i64 (-1), .bool true] 27)))
    clear Ll Lg
    have Ll := Lib.hid Ml.out
    have Lg := Lib.hid Mg.out
    clear Ml Mg
    have BB' := Lib.hid (chain BB.out (Below.new1 (.cells #[.slice a5 60 c5, .slice p5 0 e5, .int .i64 (-1), .bool true] 27)))
    clear BB
    have BB := Lib.hid BB'.out
    clear BB'
    have Pz := Lib.hid (Bx.new w5 (.slice a5 60 c5) (.slice p5 0 e5) (-1) true 27)
    have Hz := Lib.hid h5'.out
    clear h5'
    go_upto_region 18 with fail
    go_cut [21, 22] (fun x y wx => ZRel (w5.alloc (.cells #[.slice a5 60 c5, .slice p5 0 e5, .int .i64 (-1), .bool true] 27)) (ds ys (-1) false) x y wx)
    case first =>
      have x0 := Pz.out.c0
      have x1 := Pz.out.c1
      have x2 := Pz.out.c2
      have x3 := Pz.out.c3
      have xl := Pz.out.lt
      have HC := Lib.hid (conv_sh (ok.start _ (ds ys (-1) true) _ Hz.out (fit_right E5.out)) E6.out E3.out rfl rfl rfl)
      go_wp2_with fail
      refine HC.out.mono ?_
      rintro r w6 ⟨a6, c6, p6, e6, rfl, h6, b6⟩
      have R : Hid (ZRel (w5.alloc (.cells #[.slice a5 60 c5, .slice p5 0 e5, .int .i64 (-1), .bool true] 27)) (ds ys (-1) false) (.pointer (some ⟨w6.heap.size, 0, none⟩)) (.int .i64 0) (w6.alloc (.cells #[.slice a6 60 c6, .slice p6 0 e6, .int .i64 (-1), .bool false] 27))) := ⟨_, _, a6, c6, p6, e6, rfl, rfl, rfl, Bx.new _ _ _ _ _ _, h6.next (Below.new1 _), b6.size, chain b6 (Below.new1 _)⟩
      clear HC h6 b6 x0 x1 x2 x3 xl
      go_wp2_with fail
      go_meet
      exact R.out
    case rest =>
    obtain ⟨wv6, G6, a6, c6, p6, e6, hw, rfl, rfl, hP, hH, hg, hb⟩ := hcut
    subst hw
    have hP' := Lib.hid hP
    have hH' := Lib.hid hH
    clear hP hH hg
    have Qd := Lib.hid (Pd.out.next (hb))
    have Id := Lib.hid (Hd.out.next (hb))
    have Qx := Lib.hid (Px.out.next (hb))
    have Ix := Lib.hid (Hx.out.next (hb))
    have Qy := Lib.hid (Py.out.next (hb))
    have Iy := Lib.hid (Hy.out.next (hb))
    have Qz := Lib.hid (Pz.out.next (hb))
    have Iz := Lib.hid (Hz.out.next (hb))
    clear Pd Hd Px Hx Py Hy Pz Hz
    have Pd := Lib.hid Qd.out
    have Hd := Lib.hid Id.out
    have Px := Lib.hid Qx.out
    have Hx := Lib.hid Ix.out
    have Py := Lib.hid Qy.out
    have Hy := Lib.hid Iy.out
    have Pz := Lib.hid Qz.out
    have Hz := Lib.hid Iz.out
    clear Qd Id Qx Ix Qy Iy Qz Iz
    have Ml := Lib.hid (Ll.out.next (hb))
    have Mg := Lib.hid (Lg.out.next (hb))
    clear Ll Lg
    have Ll := Lib.hid Ml.out
    have Lg := Lib.hid Mg.out
    clear Ml Mg
    have BB' := Lib.hid (chain BB.out (hb))
    clear BB
    have BB := Lib.hid BB'.out
    clear BB'
    have Pq := Lib.hid hP'.out
    have Hq := Lib.hid hH'.out
    clear hP' hH' hb
    have x0 := Pq.out.c0
    have x1 := Pq.out.c1
    have x2 := Pq.out.c2
    have x3 := Pq.out.c3
    have xl := Pq.out.lt
    have z0 := Py.out.c0
    have z1 := Py.out.c1
    have z2 := Py.out.c2
    have z3 := Py.out.c3
    have zl := Py.out.lt
    have zf := Py.out.fz
    go_upto_region 21 with fail
    go_cut [15] (fun x wx => PtRel w 0 (w4.heap.size) a6 c6 p6 e6 (ds ys (-1) false) (.slice sa l.length sc) l (.slice ug L2.length cg) L2 x wx)
    case first =>
      have R : Hid (PtRel w 0 (w4.heap.size) a6 c6 p6 e6 (ds ys (-1) false) (.slice sa l.length sc) l (.slice ug L2.length cg) L2 (.int .i64 0) (put4 wv6 (w4.heap.size) (.slice a6 60 c6) (.slice p6 0 e6) (-1) false)) := ⟨_, rfl, rfl, Py.out.put _ _ _ _, Hq.out.put Py.out (fun s => by simp) (fun s => by simp) _ _ _ _, LAt.put Ll.out Py.out (fun s => by simp) (fun s => by simp) _ _ _ _, LAt.put Lg.out Py.out (fun s => by simp) (fun s => by simp) _ _ _ _, below_put BB.out GY.out _ _ _ _⟩
      go_wp2_with fail
      go_meet
      exact R.out
    case rest =>
    clear x0 x1 x2 x3 xl z0 z1 z2 z3 zl zf Pd Hd Px Hx Py Hy Pz Hz Pq Hq Ll Lg BB
    obtain ⟨wp, hw, rfl, hP, hH, hl1, hl2, hb⟩ := hcut
    subst hw
    have Py := Lib.hid hP
    have Hy := Lib.hid hH
    have Ll := Lib.hid hl1
    have Lg := Lib.hid hl2
    have BB := Lib.hid hb
    clear hP hH hl1 hl2 hb
    have x0 := Py.out.c0
    have x1 := Py.out.c1
    have x2 := Py.out.c2
    have x3 := Py.out.c3
    have xl := Py.out.lt
    have HC := Lib.hid (conv_all (jk.all _ (ds ys (-1) false) _ Hy.out (fit_right E7.out.check.1)) E7.out.all)
    go_wp2_with fail
    refine HC.out.mono ?_
    rintro r w7 ⟨a7, c7, rfl, h7, b7⟩
    clear HC x0 x1 x2 x3 xl
    have Qy := Lib.hid (Py.out.next (b7))
    have Iy := Lib.hid (Hy.out.next (b7))
    clear Py Hy
    have Py := Lib.hid Qy.out
    have Hy := Lib.hid Iy.out
    clear Qy Iy
    have Ml := Lib.hid (Ll.out.next (b7))
    have Mg := Lib.hid (Lg.out.next (b7))
    clear Ll Lg
    have Ll := Lib.hid Ml.out
    have Lg := Lib.hid Mg.out
    clear Ml Mg
    have BB' := Lib.hid (chain BB.out (b7))
    clear BB
    have BB := Lib.hid BB'.out
    clear BB'
    have Ln := Lib.hid h7
    clear h7 b7
    have HC := Lib.hid (same_b (t := false) Ln.out Ll.out LB2.out LB.out (decide_eq_false (fun q => ne_snoc (q.symm.trans HL2.out.symm))))
    go_wp2_with fail
    refine HC.out.mono ?_
    rintro r w8 ⟨rfl, b8⟩
    clear HC
    have Qy := Lib.hid (Py.out.next (b8))
    have Iy := Lib.hid (Hy.out.next (b8))
    clear Py Hy
    have Py := Lib.hid Qy.out
    have Hy := Lib.hid Iy.out
    clear Qy Iy
    have Ml := Lib.hid (Ll.out.next (b8))
    have Mg := Lib.hid (Lg.out.next (b8))
    have Mn := Lib.hid (Ln.out.next (b8))
    clear Ll Lg Ln
    have Ll := Lib.hid Ml.out
    have Lg := Lib.hid Mg.out
    have Ln := Lib.hid Mn.out
    clear Ml Mg Mn
    have BB' := Lib.hid (chain BB.out (b8))
    clear BB
    have BB := Lib.hid BB'.out
    clear BB'
    clear b8
    have HC := Lib.hid (same_b (t := true) Ln.out Lg.out LB2.out LB2.out (decide_eq_true rfl))
    go_wp2_with fail
    refine HC.out.mono ?_
    rintro r w9 ⟨rfl, b9⟩
    clear HC
    have Qy := Lib.hid (Py.out.next (b9))
    have Iy := Lib.hid (Hy.out.next (b9))
    clear Py Hy
    have Py := Lib.hid Qy.out
    have Hy := Lib.hid Iy.out
    clear Qy Iy
    have Ml := Lib.hid (Ll.out.next (b9))
    have Mg := Lib.hid (Lg.out.next (b9))
    have Mn := Lib.hid (Ln.out.next (b9))
    clear Ll Lg Ln
    have Ll := Lib.hid Ml.out
    have Lg := Lib.hid Mg.out
    have Ln := Lib.hid Mn.out
    clear Ml Mg Mn
    have BB' := Lib.hid (chain BB.out (b9))
    clear BB
    have BB := Lib.hid BB'.out
    clear BB'
    clear b9
    obtain ⟨d3, q1, q2⟩ := E7.out.more (s := t.data.toList) (by rw [size_list]; omega) (by have := NL2.out; omega) R3.out
    have Q3 := Lib.hid q1
    obtain ⟨L3, hL3⟩ : ∃ x, L2 ++ [t.data.toList] = x := ⟨_, rfl⟩
    rw [hL3] at q2
    have A3 := Lib.hid q2
    have HL3 := Lib.hid hL3
    have LB3 : Hid (L3.length ≤ 1099511627776) := by show _ ≤ _; rw [← hL3, List.length_append, List.length_singleton]; have := NL2.out; omega
    clear q1 q2 hL3
    have x0 := Py.out.c0
    have x1 := Py.out.c1
    have x2 := Py.out.c2
    have x3 := Py.out.c3
    have xl := Py.out.lt
    have HC := Lib.hid (conv_sh (jk.append _ (ds ys (-1) false) t _ Hy.out (fit_right E7.out.check.1) htt (HT.out.next BB.out)) Q3.out A3.out.len (by rw [A3.out.check.2.2]; try rfl) A3.out.left A3.out.check.2.1)
    go_wp2_with fail
    refine HC.out.mono ?_
    rintro r w10 ⟨a10, c10, p10, e10, rfl, h10, b10⟩
    clear HC x0 x1 x2 x3 xl
    have Qy := Lib.hid (Py.out.next (b10))
    have Iy := Lib.hid (Hy.out.next (b10))
    clear Py Hy
    have Py := Lib.hid Qy.out
    have Hy := Lib.hid Iy.out
    clear Qy Iy
    have Ml := Lib.hid (Ll.out.next (b10))
    have Mg := Lib.hid (Lg.out.next (b10))
    have Mn := Lib.hid (Ln.out.next (b10))
    clear Ll Lg Ln
    have Ll := Lib.hid Ml.out
    have Lg := Lib.hid Mg.out
    have Ln := Lib.hid Mn.out
    clear Ml Mg Mn
    have BB' := Lib.hid (chain BB.out (b10))
    clear BB
    have BB := Lib.hid BB'.out
    clear BB'
    have h10' := Lib.hid (h10.next (Below.new1 (.cells #[.slice a10 60 c10, .slice p10 0 e10, .int .i64 (-1), .bool false] 27)))
    clear h10 b10
    have Qy := Lib.hid (Py.out.next (Below.new1 (.cells #[.slice a10 60 c10, .slice p10 0 e10, .int .i64 (-1), .bool false] 27)))
    have Iy := Lib.hid (Hy.out.next (Below.new1 (.cells #[.slice a10 60 c10, .slice p10 0 e10, .int .i64 (-1), .bool false] 27)))
    clear Py Hy
    have Py := Lib.hid Qy.out
    have Hy := Lib.hid Iy.out
    clear Qy Iy
    have Ml := Lib.hid (Ll.out.next (Below.new1 (.cells #[.slice a10 60 c10, .slice p10 0 e10, .int .i64 (-1), .bool false] 27)))
    have Mg := Lib.hid (Lg.out.next (Below.new1 (.cells #[.slice a10 60 c10, .slice p10 0 e10, .int .i64 (-1), .bool false] 27)))
    have Mn := Lib.hid (Ln.out.next (Below.new1 (.cells #[.slice a10 60 c10, .slice p10 0 e10, .int .i64 (-1), .bool false] 27)))
    clear Ll Lg Ln
    have Ll := Lib.hid Ml.out
    have Lg := Lib.hid Mg.out
    have Ln := Lib.hid Mn.out
    clear Ml Mg Mn
    have BB' := Lib.hid (chain BB.out (Below.new1 (.cells #[.slice a10 60 c10, .slice p10 0 e10, .int .i64 (-1), .bool false] 27)))
    clear BB
    have BB := Lib.hid BB'.out
    clear BB'
    have Pv := Lib.hid (Bx.new w10 (.slice a10 60 c10) (.slice p10 0 e10) (-1) false 27)
    have Hv := Lib.hid h10'.out
    clear h10'
    have x0 := Pv.out.c0
    have x1 := Pv.out.c1
    have x2 := Pv.out.c2
    have x3 := Pv.out.c3
    have xl := Pv.out.lt
    have HC := Lib.hid (conv_all (jk.all _ d3 _ Hv.out (fit_right A3.out.check.1)) A3.out.all)
    go_wp2_with fail
    refine HC.out.mono ?_
    rintro r w11 ⟨a11, c11, rfl, h11, b11⟩
    clear HC x0 x1 x2 x3 xl
    have Qy := Lib.hid (Py.out.next (b11))
    have Iy := Lib.hid (Hy.out.next (b11))
    have Qv := Lib.hid (Pv.out.next (b11))
    have Iv := Lib.hid (Hv.out.next (b11))
    clear Py Hy Pv Hv
    have Py := Lib.hid Qy.out
    have Hy := Lib.hid Iy.out
    have Pv := Lib.hid Qv.out
    have Hv := Lib.hid Iv.out
    clear Qy Iy Qv Iv
    have Ml := Lib.hid (Ll.out.next (b11))
    have Mg := Lib.hid (Lg.out.next (b11))
    have Mn := Lib.hid (Ln.out.next (b11))
    clear Ll Lg Ln
    have Ll := Lib.hid Ml.out
    have Lg := Lib.hid Mg.out
    have Ln := Lib.hid Mn.out
    clear Ml Mg Mn
    have BB' := Lib.hid (chain BB.out (b11))
    clear BB
    have BB := Lib.hid BB'.out
    clear BB'
    have Lm := Lib.hid h11
    clear h11 b11
    obtain ⟨rj, hj, hy0, hy1, hy2⟩ := info_parts infoS
    have Hj := Lib.hid hj
    have Hy0 := Lib.hid hy0
    have Hy1 := Lib.hid hy1
    have Hy2 := Lib.hid hy2
    clear hj hy0 hy1 hy2
    cases a7 with
    | none =>
      obtain rfl : L2 = [] := lat_none Ln.out
      have HO5 : Hid ((w11.alloc (.cells #[] 9)).ownsRow w11.heap.size 9 1 (.slice (some ⟨w11.heap.size, 0, none⟩) 0 0) 0 []) := own_none w11 _ _ _ rfl (Nat.le_refl _)
      have B5 : Hid (Below w11.heap.size w11 (w11.alloc (.cells #[] 9))) := Below.new1 _
      go_wp2_with (at_builtin; refine wpList_append_own_g (by rfl) (.tmp 164) (.tmp 166) 24 rfl w11.heap.size 9 rj (.string ⟨#[]⟩) 1 16 Tryd.underlying24 Hj.out Hy0.out Hy1.out Hy2.out rfl (by decide) _ 0 ([]) rfl (HO5.out.alloc _) ⟨w11.heap.size + 1, 0, none⟩ 1 1 [.string t] rfl rfl ?g1 ?g2 ?g3 ?g4 ?g5 ?_)
      case g1 => exact cell_new1 _ _ _ _ (by first | rfl | simp)
      case g2 => intro u hu; simp at hu; subst hu; rfl
      case g3 => unfold maxLen; have := NL2.out; omega
      case g4 => have := NL2.out; omega
      case g5 => have := B5.out.size; simp; omega
      intro v6 w6 hown6 hgrow6 _
      have hrow6 : ∀ jj, (Value.slice (some ⟨w11.heap.size, 0, none⟩) 0 0).ownBlock = some jj → w11.heap.size ≤ jj := fun jj hj => (HO5.out.lt jj hj).1
      have B6 : Hid (Below w11.heap.size w11 w6) := B5.out.trans (((Below.refl w11.heap.size _).alloc B5.out.size _).grown hgrow6 (by have := B5.out.size; simp; omega) hrow6)
      have hl6' : ([] : List Value) ++ [.string t] = strs (([] ++ [t.data.toList]).map mkB) := by simp [strs, mkB_of]
      have hown6 : w6.ownsRow w11.heap.size 9 1 v6 (0 + 1) (strs (([] ++ [t.data.toList]).map mkB)) := by rw [← hl6']; first | exact hown6 | (rw [← List.map_map] at hown6; exact hown6)
      obtain ⟨u6, c6, e6, h6, h7⟩ := SAt.own hown6 (by simp)
      have hn6 : (strs (([] ++ [t.data.toList]).map mkB)).length = 0 + 1 := by simp
      rw [hn6] at e6
      subst e6
      have h8 : LAt w6 (.slice u6 (0 + 1) c6) ([] ++ [t.data.toList]) := SAt.own hown6 hn6.symm
      rw [HL3.out] at h8
      have HS7 := Lib.hid (same_b (t := true) (Lm.out.next B6.out) h8 LB3.out LB3.out (decide_eq_true rfl))
      have B7 := Lib.hid (chain BB.out B6.out)
      clear h8 hown6 hgrow6 hrow6
      go_wp2_with fail
      refine HS7.out.mono ?_
      rintro r w8 ⟨rfl, b8⟩
      have B8 := Lib.hid (chain B7.out b8)
      clear b8 HS7
      go_wp2_with fail
      go_ret
      exact ⟨by rfl, B8.out⟩
    | some ad =>
      go_wp2_with (at_builtin; refine wpList_append_own_g (by rfl) (.tmp 162) (.tmp 163) 24 rfl w11.heap.size 9 rj (.string ⟨#[]⟩) 1 16 Tryd.underlying24 Hj.out Hy0.out Hy1.out Hy2.out rfl (by decide) _ 0 [] rfl (own_none w11 _ _ _ rfl (Nat.le_refl _)) ad L2.length c7 (strs (L2.map mkB)) rfl ?f0 ?f1 ?f2 ?f3 ?f4 ?f5 ?_)
      case f0 => simp
      case f1 => exact lat_some (Ln.out.next (Below.new1 _))
      case f2 => intro u hu; obtain ⟨y, -, rfl⟩ := List.mem_map.1 hu; rfl
      case f3 => unfold maxLen; have := NL2.out; omega
      case f4 => have := NL2.out; omega
      case f5 => simp
      intro v5 w5 hown5 hgrow5 _
      have hown5' : w5.ownsRow w11.heap.size 9 1 v5 L2.length (strs (L2.map mkB)) := by simpa using hown5
      have HO5 := Lib.hid hown5'
      have B5 : Hid (Below w11.heap.size w11 w5) := ((Below.refl w11.heap.size w11).alloc (Nat.le_refl _) _).grown hgrow5 (by simp) (fun jj hj => by simp [Value.ownBlock] at hj; omega)
      clear hown5 hown5'
      go_wp2_with (at_builtin; refine wpList_append_own_g (by rfl) (.tmp 164) (.tmp 166) 24 rfl w11.heap.size 9 rj (.string ⟨#[]⟩) 1 16 Tryd.underlying24 Hj.out Hy0.out Hy1.out Hy2.out rfl (by decide) _ L2.length (strs (L2.map mkB)) rfl (HO5.out.alloc _) ⟨w5.heap.size, 0, none⟩ 1 1 [.string t] rfl rfl ?g1 ?g2 ?g3 ?g4 ?g5 ?_)
      case g1 => exact cell_new1 _ _ _ _ (by first | rfl | simp)
      case g2 => intro u hu; simp at hu; subst hu; rfl
      case g3 => unfold maxLen; have := NL2.out; omega
      case g4 => have := NL2.out; omega
      case g5 => have := B5.out.size; simp; omega
      intro v6 w6 hown6 hgrow6 _
      have hrow6 : ∀ jj, v5.ownBlock = some jj → w11.heap.size ≤ jj := fun jj hj => (HO5.out.lt jj hj).1
      have B6 : Hid (Below w11.heap.size w11 w6) := B5.out.trans (((Below.refl w11.heap.size _).alloc B5.out.size _).grown hgrow6 (by have := B5.out.size; simp; omega) hrow6)
      have hl6' : strs (L2.map mkB) ++ [.string t] = strs ((L2 ++ [t.data.toList]).map mkB) := by simp [strs, mkB_of]
      have hown6 : w6.ownsRow w11.heap.size 9 1 v6 (L2.length + 1) (strs ((L2 ++ [t.data.toList]).map mkB)) := by rw [← hl6']; first | exact hown6 | (rw [← List.map_map] at hown6; exact hown6)
      obtain ⟨u6, c6, e6, h6, h7⟩ := SAt.own hown6 (by simp)
      have hn6 : (strs ((L2 ++ [t.data.toList]).map mkB)).length = L2.length + 1 := by simp
      rw [hn6] at e6
      subst e6
      have h8 : LAt w6 (.slice u6 (L2.length + 1) c6) (L2 ++ [t.data.toList]) := SAt.own hown6 hn6.symm
      rw [HL3.out] at h8
      have HS7 := Lib.hid (same_b (t := true) (Lm.out.next B6.out) h8 LB3.out LB3.out (decide_eq_true rfl))
      have B7 := Lib.hid (chain BB.out B6.out)
      clear h8 hown6 hgrow6 hrow6
      go_wp2_with fail
      refine HS7.out.mono ?_
      rintro r w8 ⟨rfl, b8⟩
      have B8 := Lib.hid (chain B7.out b8)
      clear b8 HS7
      go_wp2_with fail
      go_ret
      exact ⟨by rfl, B8.out⟩
  · obtain ⟨ys, e1, e2, e3, e6, e7⟩ := hcp
    rcases e7 with e7 | e7
    · have E1 := Lib.hid e1
      have E2 := Lib.hid e2
      have E3 := Lib.hid e3
      have E6 := Lib.hid e6
      have E7 := Lib.hid e7
      clear e1 e2 e3 e6 e7
      have x0 := Px.out.c0
      have x1 := Px.out.c1
      have x2 := Px.out.c2
      have x3 := Px.out.c3
      have xl := Px.out.lt
      have HC := Lib.hid (conv_sh (jk.append _ (ds d.secs (kk : Int) false) s _ Hx.out FX.out hss (HT.out.next BB.out)) E1.out E3.out rfl rfl rfl)
      go_wp2_with fail
      refine HC.out.mono ?_
      rintro r w4 ⟨a4, c4, p4, e4, rfl, h4, b4⟩
      clear HC x0 x1 x2 x3 xl
      have Qd := Lib.hid (Pd.out.next (b4))
      have Id := Lib.hid (Hd.out.next (b4))
      have Qx := Lib.hid (Px.out.next (b4))
      have Ix := Lib.hid (Hx.out.next (b4))
      clear Pd Hd Px Hx
      have Pd := Lib.hid Qd.out
      have Hd := Lib.hid Id.out
      have Px := Lib.hid Qx.out
      have Hx := Lib.hid Ix.out
      clear Qd Id Qx Ix
      have Ml := Lib.hid (Ll.out.next (b4))
      clear Ll
      have Ll := Lib.hid Ml.out
      clear Ml
      have BB' := Lib.hid (chain BB.out (b4))
      clear BB
      have BB := Lib.hid BB'.out
      clear BB'
      have GY : Hid (w.heap.size ≤ w4.heap.size) := BB.out.size
      have h4' := Lib.hid (h4.next (Below.new1 (.cells #[.slice a4 60 c4, .slice p4 0 e4, .int .i64 (-1), .bool true] 27)))
      clear h4 b4
      have Qd := Lib.hid (Pd.out.next (Below.new1 (.cells #[.slice a4 60 c4, .slice p4 0 e4, .int .i64 (-1), .bool true] 27)))
      have Id := Lib.hid (Hd.out.next (Below.new1 (.cells #[.slice a4 60 c4, .slice p4 0 e4, .int .i64 (-1), .bool true] 27)))
      have Qx := Lib.hid (Px.out.next (Below.new1 (.cells #[.slice a4 60 c4, .slice p4 0 e4, .int .i64 (-1), .bool true] 27)))
      have Ix := Lib.hid (Hx.out.next (Below.new1 (.cells #[.slice a4 60 c4, .slice p4 0 e4, .int .i64 (-1), .bool true] 27)))
      clear Pd Hd Px Hx
      have Pd := Lib.hid Qd.out
      have Hd := Lib.hid Id.out
      have Px := Lib.hid Qx.out
      have Hx := Lib.hid Ix.out
      clear Qd Id Qx Ix
      have Ml := Lib.hid (Ll.out.next (Below.new1 (.cells #[.slice a4 60 c4, .slice p4 0 e4, .int .i64 (-1), .bool true] 27)))
      clear Ll
      have Ll := Lib.hid Ml.out
      clear Ml
      have BB' := Lib.hid (chain BB.out (Below.new1 (.cells #[.slice a4 60 c4, .slice p4 0 e4, .int .i64 (-1), .bool true] 27)))
      clear BB
      have BB := Lib.hid BB'.out
      clear BB'
      have Py := Lib.hid (Bx.new w4 (.slice a4 60 c4) (.slice p4 0 e4) (-1) true 27)
      have Hy := Lib.hid h4'.out
      clear h4'
      go_upto_region 11 with fail
      go_cut [16] (fun x wx => LgRel2 (l ++ [s.data.toList]) (w4.alloc (.cells #[.slice a4 60 c4, .slice p4 0 e4, .int .i64 (-1), .bool true] 27)) x wx)
      case first =>
        obtain ⟨WW, hWW⟩ : ∃ x, x = (w4.alloc (.cells #[.slice a4 60 c4, .slice p4 0 e4, .int .i64 (-1), .bool true] 27)) := ⟨_, rfl⟩
        have Lw : Hid (LAt WW (.slice sa l.length sc) l) := by show LAt _ _ _; rw [hWW]; exact Ll.out
        rw [← hWW]
        have HWW := Lib.hid hWW
        clear hWW
        obtain ⟨rj, hj, hy0, hy1, hy2⟩ := info_parts infoS
        have Hj := Lib.hid hj
        have Hy0 := Lib.hid hy0
        have Hy1 := Lib.hid hy1
        have Hy2 := Lib.hid hy2
        clear hj hy0 hy1 hy2
        cases sa with
        | none =>
          obtain rfl : l = [] := lat_none Lw.out
          have HO5 : Hid ((WW.alloc (.cells #[] 9)).ownsRow WW.heap.size 9 1 (.slice (some ⟨WW.heap.size, 0, none⟩) 0 0) 0 []) := own_none WW _ _ _ rfl (Nat.le_refl _)
          have B5 : Hid (Below WW.heap.size WW (WW.alloc (.cells #[] 9))) := Below.new1 _
          go_wp2_with (at_builtin; refine wpList_append_own _ rfl (.tmp 80) (.tmp 82) 24 rfl WW.heap.size 9 rj (.string ⟨#[]⟩) 1 16 Tryd.underlying24 Hj.out Hy0.out Hy1.out Hy2.out rfl (by decide) _ 0 ([]) rfl (HO5.out.alloc _) ⟨WW.heap.size + 1, 0, none⟩ 1 1 [.string s] rfl rfl ?g1 ?g2 ?g3 ?g4 ?g5 ?_)
          case g1 => exact cell_new1 _ _ _ _ (by first | rfl | simp)
          case g2 => intro u hu; simp at hu; subst hu; rfl
          case g3 => unfold maxLen; omega
          case g4 => omega
          case g5 => have := B5.out.size; simp; omega
          intro v6 w6 hown6 hgrow6 _
          have hrow6 : ∀ jj, (Value.slice (some ⟨WW.heap.size, 0, none⟩) 0 0).ownBlock = some jj → WW.heap.size ≤ jj := fun jj hj => (HO5.out.lt jj hj).1
          have B6 : Hid (Below WW.heap.size WW w6) := B5.out.trans (((Below.refl WW.heap.size _).alloc B5.out.size _).grown hgrow6 (by have := B5.out.size; simp; omega) hrow6)
          have hl6' : ([] : List Value) ++ [.string s] = strs (([] ++ [s.data.toList]).map mkB) := by simp [strs, mkB_of]
          have hown6 : w6.ownsRow WW.heap.size 9 1 v6 (0 + 1) (strs (([] ++ [s.data.toList]).map mkB)) := by rw [← hl6']; first | exact hown6 | (rw [← List.map_map] at hown6; exact hown6)
          obtain ⟨u6, c6, e6, h6, h7⟩ := SAt.own hown6 (by simp)
          have hn6 : (strs (([] ++ [s.data.toList]).map mkB)).length = 0 + 1 := by simp
          rw [hn6] at e6
          subst e6
          go_wp2_with fail
          go_meet
          exact ⟨_, u6, c6, rfl, by rw [List.length_append]; rfl, by rw [List.length_append]; exact SAt.own hown6 hn6.symm, by have q := B6.out; rw [HWW.out] at q; exact q⟩
        | some ad =>
          go_wp2_with (at_builtin; refine wpList_append_own _ rfl (.tmp 78) (.tmp 79) 24 rfl WW.heap.size 9 rj (.string ⟨#[]⟩) 1 16 Tryd.underlying24 Hj.out Hy0.out Hy1.out Hy2.out rfl (by decide) _ 0 [] rfl (own_none WW _ _ _ rfl (Nat.le_refl _)) ad l.length sc (strs (l.map mkB)) rfl ?f0 ?f1 ?f2 ?f3 ?f4 ?f5 ?_)
          case f0 => simp
          case f1 => exact lat_some (Lw.out.next (Below.new1 _))
          case f2 => intro u hu; obtain ⟨y, -, rfl⟩ := List.mem_map.1 hu; rfl
          case f3 => unfold maxLen; omega
          case f4 => omega
          case f5 => simp
          intro v5 w5 hown5 hgrow5 _
          have hown5' : w5.ownsRow WW.heap.size 9 1 v5 l.length (strs (l.map mkB)) := by simpa using hown5
          have HO5 := Lib.hid hown5'
          have B5 : Hid (Below WW.heap.size WW w5) := ((Below.refl WW.heap.size WW).alloc (Nat.le_refl _) _).grown hgrow5 (by simp) (fun jj hj => by simp [Value.ownBlock] at hj; omega)
          clear hown5 hown5'
          go_wp2_with (at_builtin; refine wpList_append_own _ rfl (.tmp 80) (.tmp 82) 24 rfl WW.heap.size 9 rj (.string ⟨#[]⟩) 1 16 Tryd.underlying24 Hj.out Hy0.out Hy1.out Hy2.out rfl (by decide) _ l.length (strs (l.map mkB)) rfl (HO5.out.alloc _) ⟨w5.heap.size, 0, none⟩ 1 1 [.string s] rfl rfl ?g1 ?g2 ?g3 ?g4 ?g5 ?_)
          case g1 => exact cell_new1 _ _ _ _ (by first | rfl | simp)
          case g2 => intro u hu; simp at hu; subst hu; rfl
          case g3 => unfold maxLen; omega
          case g4 => omega
          case g5 => have := B5.out.size; simp; omega
          intro v6 w6 hown6 hgrow6 _
          have hrow6 : ∀ jj, v5.ownBlock = some jj → WW.heap.size ≤ jj := fun jj hj => (HO5.out.lt jj hj).1
          have B6 : Hid (Below WW.heap.size WW w6) := B5.out.trans (((Below.refl WW.heap.size _).alloc B5.out.size _).grown hgrow6 (by have := B5.out.size; simp; omega) hrow6)
          have hl6' : strs (l.map mkB) ++ [.string s] = strs ((l ++ [s.data.toList]).map mkB) := by simp [strs, mkB_of]
          have hown6 : w6.ownsRow WW.heap.size 9 1 v6 (l.length + 1) (strs ((l ++ [s.data.toList]).map mkB)) := by rw [← hl6']; first | exact hown6 | (rw [← List.map_map] at hown6; exact hown6)
          obtain ⟨u6, c6, e6, h6, h7⟩ := SAt.own hown6 (by simp)
          have hn6 : (strs ((l ++ [s.data.toList]).map mkB)).length = l.length + 1 := by simp
          rw [hn6] at e6
          subst e6
          go_wp2_with fail
          go_meet
          exact ⟨_, u6, c6, rfl, by rw [List.length_append]; rfl, by rw [List.length_append]; exact SAt.own hown6 hn6.symm, by have q := B6.out; rw [HWW.out] at q; exact q⟩
      case rest =>
      rw [HL2.out] at hcut
      obtain ⟨wl, ug, cg, hw, rfl, hL6, hb6⟩ := hcut
      subst hw
      have hL6' := Lib.hid hL6
      clear hL6
      have Qd := Lib.hid (Pd.out.next (hb6))
      have Id := Lib.hid (Hd.out.next (hb6))
      have Qx := Lib.hid (Px.out.next (hb6))
      have Ix := Lib.hid (Hx.out.next (hb6))
      have Qy := Lib.hid (Py.out.next (hb6))
      have Iy := Lib.hid (Hy.out.next (hb6))
      clear Pd Hd Px Hx Py Hy
      have Pd := Lib.hid Qd.out
      have Hd := Lib.hid Id.out
      have Px := Lib.hid Qx.out
      have Hx := Lib.hid Ix.out
      have Py := Lib.hid Qy.out
      have Hy := Lib.hid Iy.out
      clear Qd Id Qx Ix Qy Iy
      have Ml := Lib.hid (Ll.out.next (hb6))
      clear Ll
      have Ll := Lib.hid Ml.out
      clear Ml
      have BB' := Lib.hid (chain BB.out (hb6))
      clear BB
      have BB := Lib.hid BB'.out
      clear BB'
      have Lg := Lib.hid hL6'.out
      clear hL6' hb6
      go_upto_region 13 with fail
      go_cut [17, 18] (fun x y wx => ZRel wl (ds ys (-1) false) x y wx)
      case first =>
        have x0 := Py.out.c0
        have x1 := Py.out.c1
        have x2 := Py.out.c2
        have x3 := Py.out.c3
        have xl := Py.out.lt
        have HC := Lib.hid (conv_sh (ok.start _ (ds ys (-1) true) _ Hy.out (fit_right E2.out)) E6.out E3.out rfl rfl rfl)
        go_wp2_with fail
        refine HC.out.mono ?_
        rintro r w5 ⟨a5, c5, p5, e5, rfl, h5, b5⟩
        have R : Hid (ZRel wl (ds ys (-1) false) (.pointer (some ⟨w5.heap.size, 0, none⟩)) (.int .i64 0) (w5.alloc (.cells #[.slice a5 60 c5, .slice p5 0 e5, .int .i64 (-1), .bool false] 27))) := ⟨_, _, a5, c5, p5, e5, rfl, rfl, rfl, Bx.new _ _ _ _ _ _, h5.next (Below.new1 _), b5.size, chain b5 (Below.new1 _)⟩
        clear HC h5 b5 x0 x1 x2 x3 xl
        go_wp2_with fail
        go_meet
        exact R.out
      case rest =>
      obtain ⟨wv5, G5, a5, c5, p5, e5, hw, rfl, rfl, hP, hH, hg, hb⟩ := hcut
      subst hw
      have hP' := Lib.hid hP
      have hH' := Lib.hid hH
      clear hP hH hg
      have Qd := Lib.hid (Pd.out.next (hb))
      have Id := Lib.hid (Hd.out.next (hb))
      have Qx := Lib.hid (Px.out.next (hb))
      have Ix := Lib.hid (Hx.out.next (hb))
      have Qy := Lib.hid (Py.out.next (hb))
      have Iy := Lib.hid (Hy.out.next (hb))
      clear Pd Hd Px Hx Py Hy
      have Pd := Lib.hid Qd.out
      have Hd := Lib.hid Id.out
      have Px := Lib.hid Qx.out
      have Hx := Lib.hid Ix.out
      have Py := Lib.hid Qy.out
      have Hy := Lib.hid Iy.out
      clear Qd Id Qx Ix Qy Iy
      have Ml := Lib.hid (Ll.out.next (hb))
      have Mg := Lib.hid (Lg.out.next (hb))
      clear Ll Lg
      have Ll := Lib.hid Ml.out
      have Lg := Lib.hid Mg.out
      clear Ml Mg
      have BB' := Lib.hid (chain BB.out (hb))
      clear BB
      have BB := Lib.hid BB'.out
      clear BB'
      have Pq := Lib.hid hP'.out
      have Hq := Lib.hid hH'.out
      clear hP' hH' hb
      have x0 := Pq.out.c0
      have x1 := Pq.out.c1
      have x2 := Pq.out.c2
      have x3 := Pq.out.c3
      have xl := Pq.out.lt
      have z0 := Py.out.c0
      have z1 := Py.out.c1
      have z2 := Py.out.c2
      have z3 := Py.out.c3
      have zl := Py.out.lt
      have zf := Py.out.fz
      go_upto_region 16 with fail
      go_cut [15] (fun x wx => PtRel w 8 (w4.heap.size) a5 c5 p5 e5 (ds ys (-1) false) (.slice sa l.length sc) l (.slice ug L2.length cg) L2 x wx)
      case first =>
        have R : Hid (PtRel w 8 (w4.heap.size) a5 c5 p5 e5 (ds ys (-1) false) (.slice sa l.length sc) l (.slice ug L2.length cg) L2 (.int .i64 8) (put4 wv5 (w4.heap.size) (.slice a5 60 c5) (.slice p5 0 e5) (-1) false)) := ⟨_, rfl, rfl, Py.out.put _ _ _ _, Hq.out.put Py.out (fun s => by simp) (fun s => by simp) _ _ _ _, LAt.put Ll.out Py.out (fun s => by simp) (fun s => by simp) _ _ _ _, LAt.put Lg.out Py.out (fun s => by simp) (fun s => by simp) _ _ _ _, below_put BB.out GY.out _ _ _ _⟩
        go_wp2_with fail
        go_meet
        exact R.out
      case rest =>
      clear x0 x1 x2 x3 xl z0 z1 z2 z3 zl zf Pd Hd Px Hx Py Hy Pq Hq Ll Lg BB
      obtain ⟨wp, hw, rfl, hP, hH, hl1, hl2, hb⟩ := hcut
      subst hw
      have Py := Lib.hid hP
      have Hy := Lib.hid hH
      have Ll := Lib.hid hl1
      have Lg := Lib.hid hl2
      have BB := Lib.hid hb
      clear hP hH hl1 hl2 hb
      have x0 := Py.out.c0
      have x1 := Py.out.c1
      have x2 := Py.out.c2
      have x3 := Py.out.c3
      have xl := Py.out.lt
      have HC := Lib.hid (conv_all (jk.all _ (ds ys (-1) false) _ Hy.out (fit_right E7.out.check.1)) E7.out.all)
      go_wp2_with fail
      refine HC.out.mono ?_
      rintro r w6 ⟨a6, c6, rfl, h6, b6⟩
      clear HC x0 x1 x2 x3 xl
      have Qy := Lib.hid (Py.out.next (b6))
      have Iy := Lib.hid (Hy.out.next (b6))
      clear Py Hy
      have Py := Lib.hid Qy.out
      have Hy := Lib.hid Iy.out
      clear Qy Iy
      have Ml := Lib.hid (Ll.out.next (b6))
      have Mg := Lib.hid (Lg.out.next (b6))
      clear Ll Lg
      have Ll := Lib.hid Ml.out
      have Lg := Lib.hid Mg.out
      clear Ml Mg
      have BB' := Lib.hid (chain BB.out (b6))
      clear BB
      have BB := Lib.hid BB'.out
      clear BB'
      have Ln := Lib.hid h6
      clear h6 b6
      have HC := Lib.hid (same_b (t := true) Ln.out Ll.out LB.out LB.out (decide_eq_true rfl))
      go_wp2_with fail
      refine HC.out.mono ?_
      rintro r w7 ⟨rfl, b7⟩
      clear HC
      have Qy := Lib.hid (Py.out.next (b7))
      have Iy := Lib.hid (Hy.out.next (b7))
      clear Py Hy
      have Py := Lib.hid Qy.out
      have Hy := Lib.hid Iy.out
      clear Qy Iy
      have Ml := Lib.hid (Ll.out.next (b7))
      have Mg := Lib.hid (Lg.out.next (b7))
      have Mn := Lib.hid (Ln.out.next (b7))
      clear Ll Lg Ln
      have Ll := Lib.hid Ml.out
      have Lg := Lib.hid Mg.out
      have Ln := Lib.hid Mn.out
      clear Ml Mg Mn
      have BB' := Lib.hid (chain BB.out (b7))
      clear BB
      have BB := Lib.hid BB'.out
      clear BB'
      clear b7
      have HC := Lib.hid (same_b (t := false) Ln.out Lg.out LB.out LB2.out (decide_eq_false (fun q => ne_snoc (q.trans HL2.out.symm))))
      go_wp2_with fail
      refine HC.out.mono ?_
      rintro r w8 ⟨rfl, b8⟩
      clear HC
      have Qy := Lib.hid (Py.out.next (b8))
      have Iy := Lib.hid (Hy.out.next (b8))
      clear Py Hy
      have Py := Lib.hid Qy.out
      have Hy := Lib.hid Iy.out
      clear Qy Iy
      have Ml := Lib.hid (Ll.out.next (b8))
      have Mg := Lib.hid (Lg.out.next (b8))
      have Mn := Lib.hid (Ln.out.next (b8))
      clear Ll Lg Ln
      have Ll := Lib.hid Ml.out
      have Lg := Lib.hid Mg.out
      have Ln := Lib.hid Mn.out
      clear Ml Mg Mn
      have BB' := Lib.hid (chain BB.out (b8))
      clear BB
      have BB := Lib.hid BB'.out
      clear BB'
      clear b8
      obtain ⟨d3, q1, q2⟩ := E7.out.more (s := t.data.toList) (by rw [size_list]; omega) (by have := NL2.out; omega) R2.out
      have Q3 := Lib.hid q1
      obtain ⟨L3, hL3⟩ : ∃ x, l ++ [t.data.toList] = x := ⟨_, rfl⟩
      rw [hL3] at q2
      have A3 := Lib.hid q2
      have HL3 := Lib.hid hL3
      have LB3 : Hid (L3.length ≤ 1099511627776) := by show _ ≤ _; rw [← hL3, List.length_append, List.length_singleton]; have := NL2.out; omega
      clear q1 q2 hL3
      have x0 := Py.out.c0
      have x1 := Py.out.c1
      have x2 := Py.out.c2
      have x3 := Py.out.c3
      have xl := Py.out.lt
      have HC := Lib.hid (conv_sh (jk.append _ (ds ys (-1) false) t _ Hy.out (fit_right E7.out.check.1) htt (HT.out.next BB.out)) Q3.out A3.out.len (by rw [A3.out.check.2.2]; try rfl) A3.out.left A3.out.check.2.1)
      go_wp2_with fail
      refine HC.out.mono ?_
      rintro r w9 ⟨a9, c9, p9, e9, rfl, h9, b9⟩
      clear HC x0 x1 x2 x3 xl
      have Qy := Lib.hid (Py.out.next (b9))
      have Iy := Lib.hid (Hy.out.next (b9))
      clear Py Hy
      have Py := Lib.hid Qy.out
      have Hy := Lib.hid Iy.out
      clear Qy Iy
      have Ml := Lib.hid (Ll.out.next (b9))
      have Mg := Lib.hid (Lg.out.next (b9))
      have Mn := Lib.hid (Ln.out.next (b9))
      clear Ll Lg Ln
      have Ll := Lib.hid Ml.out
      have Lg := Lib.hid Mg.out
      have Ln := Lib.hid Mn.out
      clear Ml Mg Mn
      have BB' := Lib.hid (chain BB.out (b9))
      clear BB
      have BB := Lib.hid BB'.out
      clear BB'
      have h9' := Lib.hid (h9.next (Below.new1 (.cells #[.slice a9 60 c9, .slice p9 0 e9, .int .i64 (-1), .bool false] 27)))
      clear h9 b9
      have Qy := Lib.hid (Py.out.next (Below.new1 (.cells #[.slice a9 60 c9, .slice p9 0 e9, .int .i64 (-1), .bool false] 27)))
      have Iy := Lib.hid (Hy.out.next (Below.new1 (.cells #[.slice a9 60 c9, .slice p9 0 e9, .int .i64 (-1), .bool false] 27)))
      clear Py Hy
      have Py := Lib.hid Qy.out
      have Hy := Lib.hid Iy.out
      clear Qy Iy
      have Ml := Lib.hid (Ll.out.next (Below.new1 (.cells #[.slice a9 60 c9, .slice p9 0 e9, .int .i64 (-1), .bool false] 27)))
      have Mg := Lib.hid (Lg.out.next (Below.new1 (.cells #[.slice a9 60 c9, .slice p9 0 e9, .int .i64 (-1), .bool false] 27)))
      have Mn := Lib.hid (Ln.out.next (Below.new1 (.cells #[.slice a9 60 c9, .slice p9 0 e9, .int .i64 (-1), .bool false] 27)))
      clear Ll Lg Ln
      have Ll := Lib.hid Ml.out
      have Lg := Lib.hid Mg.out
      have Ln := Lib.hid Mn.out
      clear Ml Mg Mn
      have BB' := Lib.hid (chain BB.out (Below.new1 (.cells #[.slice a9 60 c9, .slice p9 0 e9, .int .i64 (-1), .bool false] 27)))
      clear BB
      have BB := Lib.hid BB'.out
      clear BB'
      have Pv := Lib.hid (Bx.new w9 (.slice a9 60 c9) (.slice p9 0 e9) (-1) false 27)
      have Hv := Lib.hid h9'.out
      clear h9'
      have x0 := Pv.out.c0
      have x1 := Pv.out.c1
      have x2 := Pv.out.c2
      have x3 := Pv.out.c3
      have xl := Pv.out.lt
      have HC := Lib.hid (conv_all (jk.all _ d3 _ Hv.out (fit_right A3.out.check.1)) A3.out.all)
      go_wp2_with fail
      refine HC.out.mono ?_
      rintro r w10 ⟨a10, c10, rfl, h10, b10⟩
      clear HC x0 x1 x2 x3 xl
      have Qy := Lib.hid (Py.out.next (b10))
      have Iy := Lib.hid (Hy.out.next (b10))
      have Qv := Lib.hid (Pv.out.next (b10))
      have Iv := Lib.hid (Hv.out.next (b10))
      clear Py Hy Pv Hv
      have Py := Lib.hid Qy.out
      have Hy := Lib.hid Iy.out
      have Pv := Lib.hid Qv.out
      have Hv := Lib.hid Iv.out
      clear Qy Iy Qv Iv
      have Ml := Lib.hid (Ll.out.next (b10))
      have Mg := Lib.hid (Lg.out.next (b10))
      have Mn := Lib.hid (Ln.out.next (b10))
      clear Ll Lg Ln
      have Ll := Lib.hid Ml.out
      have Lg := Lib.hid Mg.out
      have Ln := Lib.hid Mn.out
      clear Ml Mg Mn
      have BB' := Lib.hid (chain BB.out (b10))
      clear BB
      have BB := Lib.hid BB'.out
      clear BB'
      have Lm := Lib.hid h10
      clear h10 b10
      obtain ⟨rj, hj, hy0, hy1, hy2⟩ := info_parts infoS
      have Hj := Lib.hid hj
      have Hy0 := Lib.hid hy0
      have Hy1 := Lib.hid hy1
      have Hy2 := Lib.hid hy2
      clear hj hy0 hy1 hy2
      cases a6 with
      | none =>
        obtain rfl : l = [] := lat_none Ln.out
        have HO5 : Hid ((w10.alloc (.cells #[] 9)).ownsRow w10.heap.size 9 1 (.slice (some ⟨w10.heap.size, 0, none⟩) 0 0) 0 []) := own_none w10 _ _ _ rfl (Nat.le_refl _)
        have B5 : Hid (Below w10.heap.size w10 (w10.alloc (.cells #[] 9))) := Below.new1 _
        go_wp2_with (at_builtin; refine wpList_append_own_g (by rfl) (.tmp 164) (.tmp 166) 24 rfl w10.heap.size 9 rj (.string ⟨#[]⟩) 1 16 Tryd.underlying24 Hj.out Hy0.out Hy1.out Hy2.out rfl (by decide) _ 0 ([]) rfl (HO5.out.alloc _) ⟨w10.heap.size + 1, 0, none⟩ 1 1 [.string t] rfl rfl ?g1 ?g2 ?g3 ?g4 ?g5 ?_)
        case g1 => exact cell_new1 _ _ _ _ (by first | rfl | simp)
        case g2 => intro u hu; simp at hu; subst hu; rfl
        case g3 => unfold maxLen; have := NL2.out; omega
        case g4 => have := NL2.out; omega
        case g5 => have := B5.out.size; simp; omega
        intro v6 w6 hown6 hgrow6 _
        have hrow6 : ∀ jj, (Value.slice (some ⟨w10.heap.size, 0, none⟩) 0 0).ownBlock = some jj → w10.heap.size ≤ jj := fun jj hj => (HO5.out.lt jj hj).1
        have B6 : Hid (Below w10.heap.size w10 w6) := B5.out.trans (((Below.refl w10.heap.size _).alloc B5.out.size _).grown hgrow6 (by have := B5.out.size; simp; omega) hrow6)
        have hl6' : ([] : List Value) ++ [.string t] = strs (([] ++ [t.data.toList]).map mkB) := by simp [strs, mkB_of]
        have hown6 : w6.ownsRow w10.heap.size 9 1 v6 (0 + 1) (strs (([] ++ [t.data.toList]).map mkB)) := by rw [← hl6']; first | exact hown6 | (rw [← List.map_map] at hown6; exact hown6)
        obtain ⟨u6, c6, e6, h6, h7⟩ := SAt.own hown6 (by simp)
        have hn6 : (strs (([] ++ [t.data.toList]).map mkB)).length = 0 + 1 := by simp
        rw [hn6] at e6
        subst e6
        have h8 : LAt w6 (.slice u6 (0 + 1) c6) ([] ++ [t.data.toList]) := SAt.own hown6 hn6.symm
        rw [HL3.out] at h8
        have HS7 := Lib.hid (same_b (t := true) (Lm.out.next B6.out) h8 LB3.out LB3.out (decide_eq_true rfl))
        have B7 := Lib.hid (chain BB.out B6.out)
        clear h8 hown6 hgrow6 hrow6
        go_wp2_with fail
        refine HS7.out.mono ?_
        rintro r w8 ⟨rfl, b8⟩
        have B8 := Lib.hid (chain B7.out b8)
        clear b8 HS7
        go_wp2_with fail
        go_ret
        exact ⟨by rfl, B8.out⟩
      | some ad =>
        go_wp2_with (at_builtin; refine wpList_append_own_g (by rfl) (.tmp 162) (.tmp 163) 24 rfl w10.heap.size 9 rj (.string ⟨#[]⟩) 1 16 Tryd.underlying24 Hj.out Hy0.out Hy1.out Hy2.out rfl (by decide) _ 0 [] rfl (own_none w10 _ _ _ rfl (Nat.le_refl _)) ad l.length c6 (strs (l.map mkB)) rfl ?f0 ?f1 ?f2 ?f3 ?f4 ?f5 ?_)
        case f0 => simp
        case f1 => exact lat_some (Ln.out.next (Below.new1 _))
        case f2 => intro u hu; obtain ⟨y, -, rfl⟩ := List.mem_map.1 hu; rfl
        case f3 => unfold maxLen; have := NL2.out; omega
        case f4 => have := NL2.out; omega
        case f5 => simp
        intro v5 w5 hown5 hgrow5 _
        have hown5' : w5.ownsRow w10.heap.size 9 1 v5 l.length (strs (l.map mkB)) := by simpa using hown5
        have HO5 := Lib.hid hown5'
        have B5 : Hid (Below w10.heap.size w10 w5) := ((Below.refl w10.heap.size w10).alloc (Nat.le_refl _) _).grown hgrow5 (by simp) (fun jj hj => by simp [Value.ownBlock] at hj; omega)
        clear hown5 hown5'
        go_wp2_with (at_builtin; refine wpList_append_own_g (by rfl) (.tmp 164) (.tmp 166) 24 rfl w10.heap.size 9 rj (.string ⟨#[]⟩) 1 16 Tryd.underlying24 Hj.out Hy0.out Hy1.out Hy2.out rfl (by decide) _ l.length (strs (l.map mkB)) rfl (HO5.out.alloc _) ⟨w5.heap.size, 0, none⟩ 1 1 [.string t] rfl rfl ?g1 ?g2 ?g3 ?g4 ?g5 ?_)
        case g1 => exact cell_new1 _ _ _ _ (by first | rfl | simp)
        case g2 => intro u hu; simp at hu; subst hu; rfl
        case g3 => unfold maxLen; have := NL2.out; omega
        case g4 => have := NL2.out; omega
        case g5 => have := B5.out.size; simp; omega
        intro v6 w6 hown6 hgrow6 _
        have hrow6 : ∀ jj, v5.ownBlock = some jj → w10.heap.size ≤ jj := fun jj hj => (HO5.out.lt jj hj).1
        have B6 : Hid (Below w10.heap.size w10 w6) := B5.out.trans (((Below.refl w10.heap.size _).alloc B5.out.size _).grown hgrow6 (by have := B5.out.size; simp; omega) hrow6)
        have hl6' : strs (l.map mkB) ++ [.string t] = strs ((l ++ [t.data.toList]).map mkB) := by simp [strs, mkB_of]
        have hown6 : w6.ownsRow w10.heap.size 9 1 v6 (l.length + 1) (strs ((l ++ [t.data.toList]).map mkB)) := by rw [← hl6']; first | exact hown6 | (rw [← List.map_map] at hown6; exact hown6)
        obtain ⟨u6, c6, e6, h6, h7⟩ := SAt.own hown6 (by simp)
        have hn6 : (strs ((l ++ [t.data.toList]).map mkB)).length = l.length + 1 := by simp
        rw [hn6] at e6
        subst e6
        have h8 : LAt w6 (.slice u6 (l.length + 1) c6) (l ++ [t.data.toList]) := SAt.own hown6 hn6.symm
        rw [HL3.out] at h8
        have HS7 := Lib.hid (same_b (t := true) (Lm.out.next B6.out) h8 LB3.out LB3.out (decide_eq_true rfl))
        have B7 := Lib.hid (chain BB.out B6.out)
        clear h8 hown6 hgrow6 hrow6
        go_wp2_with fail
        refine HS7.out.mono ?_
        rintro r w8 ⟨rfl, b8⟩
        have B8 := Lib.hid (chain B7.out b8)
        clear b8 HS7
        go_wp2_with fail
        go_ret
        exact ⟨by rfl, B8.out⟩
    · rw [HL2.out] at e7
      have E1 := Lib.hid e1
      have E2 := Lib.hid e2
      have E3 := Lib.hid e3
      have E6 := Lib.hid e6
      have E7 := Lib.hid e7
      clear e1 e2 e3 e6 e7
      have x0 := Px.out.c0
      have x1 := Px.out.c1
      have x2 := Px.out.c2
      have x3 := Px.out.c3
      have xl := Px.out.lt
      have HC := Lib.hid (conv_sh (jk.append _ (ds d.secs (kk : Int) false) s _ Hx.out FX.out hss (HT.out.next BB.out)) E1.out E3.out rfl rfl rfl)
      go_wp2_with fail
      refine HC.out.mono ?_
      rintro r w4 ⟨a4, c4, p4, e4, rfl, h4, b4⟩
      clear HC x0 x1 x2 x3 xl
      have Qd := Lib.hid (Pd.out.next (b4))
      have Id := Lib.hid (Hd.out.next (b4))
      have Qx := Lib.hid (Px.out.next (b4))
      have Ix := Lib.hid (Hx.out.next (b4))
      clear Pd Hd Px Hx
      have Pd := Lib.hid Qd.out
      have Hd := Lib.hid Id.out
      have Px := Lib.hid Qx.out
      have Hx := Lib.hid Ix.out
      clear Qd Id Qx Ix
      have Ml := Lib.hid (Ll.out.next (b4))
      clear Ll
      have Ll := Lib.hid Ml.out
      clear Ml
      have BB' := Lib.hid (chain BB.out (b4))
      clear BB
      have BB := Lib.hid BB'.out
      clear BB'
      have GY : Hid (w.heap.size ≤ w4.heap.size) := BB.out.size
      have h4' := Lib.hid (h4.next (Below.new1 (.cells #[.slice a4 60 c4, .slice p4 0 e4, .int .i64 (-1), .bool true] 27)))
      clear h4 b4
      have Qd := Lib.hid (Pd.out.next (Below.new1 (.cells #[.slice a4 60 c4, .slice p4 0 e4, .int .i64 (-1), .bool true] 27)))
      have Id := Lib.hid (Hd.out.next (Below.new1 (.cells #[.slice a4 60 c4, .slice p4 0 e4, .int .i64 (-1), .bool true] 27)))
      have Qx := Lib.hid (Px.out.next (Below.new1 (.cells #[.slice a4 60 c4, .slice p4 0 e4, .int .i64 (-1), .bool true] 27)))
      have Ix := Lib.hid (Hx.out.next (Below.new1 (.cells #[.slice a4 60 c4, .slice p4 0 e4, .int .i64 (-1), .bool true] 27)))
      clear Pd Hd Px Hx
      have Pd := Lib.hid Qd.out
      have Hd := Lib.hid Id.out
      have Px := Lib.hid Qx.out
      have Hx := Lib.hid Ix.out
      clear Qd Id Qx Ix
      have Ml := Lib.hid (Ll.out.next (Below.new1 (.cells #[.slice a4 60 c4, .slice p4 0 e4, .int .i64 (-1), .bool true] 27)))
      clear Ll
      have Ll := Lib.hid Ml.out
      clear Ml
      have BB' := Lib.hid (chain BB.out (Below.new1 (.cells #[.slice a4 60 c4, .slice p4 0 e4, .int .i64 (-1), .bool true] 27)))
      clear BB
      have BB := Lib.hid BB'.out
      clear BB'
      have Py := Lib.hid (Bx.new w4 (.slice a4 60 c4) (.slice p4 0 e4) (-1) true 27)
      have Hy := Lib.hid h4'.out
      clear h4'
      go_upto_region 11 with fail
      go_cut [16] (fun x wx => LgRel2 (l ++ [s.data.toList]) (w4.alloc (.cells #[.slice a4 60 c4, .slice p4 0 e4, .int .i64 (-1), .bool true] 27)) x wx)
      case first =>
        obtain ⟨WW, hWW⟩ : ∃ x, x = (w4.alloc (.cells #[.slice a4 60 c4, .slice p4 0 e4, .int .i64 (-1), .bool true] 27)) := ⟨_, rfl⟩
        have Lw : Hid (LAt WW (.slice sa l.length sc) l) := by show LAt _ _ _; rw [hWW]; exact Ll.out
        rw [← hWW]
        have HWW := Lib.hid hWW
        clear hWW
        obtain ⟨rj, hj, hy0, hy1, hy2⟩ := info_parts infoS
        have Hj := Lib.hid hj
        have Hy0 := Lib.hid hy0
        have Hy1 := Lib.hid hy1
        have Hy2 := Lib.hid hy2
        clear hj hy0 hy1 hy2
        cases sa with
        | none =>
          obtain rfl : l = [] := lat_none Lw.out
          have HO5 : Hid ((WW.alloc (.cells #[] 9)).ownsRow WW.heap.size 9 1 (.slice (some ⟨WW.heap.size, 0, none⟩) 0 0) 0 []) := own_none WW _ _ _ rfl (Nat.le_refl _)
          have B5 : Hid (Below WW.heap.size WW (WW.alloc (.cells #[] 9))) := Below.new1 _
          go_wp2_with (at_builtin; refine wpList_append_own _ rfl (.tmp 80) (.tmp 82) 24 rfl WW.heap.size 9 rj (.string ⟨#[]⟩) 1 16 Tryd.underlying24 Hj.out Hy0.out Hy1.out Hy2.out rfl (by decide) _ 0 ([]) rfl (HO5.out.alloc _) ⟨WW.heap.size + 1, 0, none⟩ 1 1 [.string s] rfl rfl ?g1 ?g2 ?g3 ?g4 ?g5 ?_)
          case g1 => exact cell_new1 _ _ _ _ (by first | rfl | simp)
          case g2 => intro u hu; simp at hu; subst hu; rfl
          case g3 => unfold maxLen; omega
          case g4 => omega
          case g5 => have := B5.out.size; simp; omega
          intro v6 w6 hown6 hgrow6 _
          have hrow6 : ∀ jj, (Value.slice (some ⟨WW.heap.size, 0, none⟩) 0 0).ownBlock = some jj → WW.heap.size ≤ jj := fun jj hj => (HO5.out.lt jj hj).1
          have B6 : Hid (Below WW.heap.size WW w6) := B5.out.trans (((Below.refl WW.heap.size _).alloc B5.out.size _).grown hgrow6 (by have := B5.out.size; simp; omega) hrow6)
          have hl6' : ([] : List Value) ++ [.string s] = strs (([] ++ [s.data.toList]).map mkB) := by simp [strs, mkB_of]
          have hown6 : w6.ownsRow WW.heap.size 9 1 v6 (0 + 1) (strs (([] ++ [s.data.toList]).map mkB)) := by rw [← hl6']; first | exact hown6 | (rw [← List.map_map] at hown6; exact hown6)
          obtain ⟨u6, c6, e6, h6, h7⟩ := SAt.own hown6 (by simp)
          have hn6 : (strs (([] ++ [s.data.toList]).map mkB)).length = 0 + 1 := by simp
          rw [hn6] at e6
          subst e6
          go_wp2_with fail
          go_meet
          exact ⟨_, u6, c6, rfl, by rw [List.length_append]; rfl, by rw [List.length_append]; exact SAt.own hown6 hn6.symm, by have q := B6.out; rw [HWW.out] at q; exact q⟩
        | some ad =>
          go_wp2_with (at_builtin; refine wpList_append_own _ rfl (.tmp 78) (.tmp 79) 24 rfl WW.heap.size 9 rj (.string ⟨#[]⟩) 1 16 Tryd.underlying24 Hj.out Hy0.out Hy1.out Hy2.out rfl (by decide) _ 0 [] rfl (own_none WW _ _ _ rfl (Nat.le_refl _)) ad l.length sc (strs (l.map mkB)) rfl ?f0 ?f1 ?f2 ?f3 ?f4 ?f5 ?_)
          case f0 => simp
          case f1 => exact lat_some (Lw.out.next (Below.new1 _))
          case f2 => intro u hu; obtain ⟨y, -, rfl⟩ := List.mem_map.1 hu; rfl
          case f3 => unfold maxLen; omega
          case f4 => omega
          case f5 => simp
          intro v5 w5 hown5 hgrow5 _
          have hown5' : w5.ownsRow WW.heap.size 9 1 v5 l.length (strs (l.map mkB)) := by simpa using hown5
          have HO5 := Lib.hid hown5'
          have B5 : Hid (Below WW.heap.size WW w5) := ((Below.refl WW.heap.size WW).alloc (Nat.le_refl _) _).grown hgrow5 (by simp) (fun jj hj => by simp [Value.ownBlock] at hj; omega)
          clear hown5 hown5'
          go_wp2_with (at_builtin; refine wpList_append_own _ rfl (.tmp 80) (.tmp 82) 24 rfl WW.heap.size 9 rj (.string ⟨#[]⟩) 1 16 Tryd.underlying24 Hj.out Hy0.out Hy1.out Hy2.out rfl (by decide) _ l.length (strs (l.map mkB)) rfl (HO5.out.alloc _) ⟨w5.heap.size, 0, none⟩ 1 1 [.string s] rfl rfl ?g1 ?g2 ?g3 ?g4 ?g5 ?_)
          case g1 => exact cell_new1 _ _ _ _ (by first | rfl | simp)
          case g2 => intro u hu; simp at hu; subst hu; rfl
          case g3 => unfold maxLen; omega
          case g4 => omega
          case g5 => have := B5.out.size; simp; omega
          intro v6 w6 hown6 hgrow6 _
          have hrow6 : ∀ jj, v5.ownBlock = some jj → WW.heap.size ≤ jj := fun jj hj => (HO5.out.lt jj hj).1
          have B6 : Hid (Below WW.heap.size WW w6) := B5.out.trans (((Below.refl WW.heap.size _).alloc B5.out.size _).grown hgrow6 (by have := B5.out.size; simp; omega) hrow6)
          have hl6' : strs (l.map mkB) ++ [.string s] = strs ((l ++ [s.data.toList]).map mkB) := by simp [strs, mkB_of]
          have hown6 : w6.ownsRow WW.heap.size 9 1 v6 (l.length + 1) (strs ((l ++ [s.data.toList]).map mkB)) := by rw [← hl6']; first | exact hown6 | (rw [← List.map_map] at hown6; exact hown6)
          obtain ⟨u6, c6, e6, h6, h7⟩ := SAt.own hown6 (by simp)
          have hn6 : (strs ((l ++ [s.data.toList]).map mkB)).length = l.length + 1 := by simp
          rw [hn6] at e6
          subst e6
          go_wp2_with fail
          go_meet
          exact ⟨_, u6, c6, rfl, by rw [List.length_append]; rfl, by rw [List.length_append]; exact SAt.own hown6 hn6.symm, by have q := B6.out; rw [HWW.out] at q; exact q⟩
      case rest =>
      rw [HL2.out] at hcut
      obtain ⟨wl, ug, cg, hw, rfl, hL6, hb6⟩ := hcut
      subst hw
      have hL6' := Lib.hid hL6
      clear hL6
      have Qd := Lib.hid (Pd.out.next (hb6))
      have Id := Lib.hid (Hd.out.next (hb6))
      have Qx := Lib.hid (Px.out.next (hb6))
      have Ix := Lib.hid (Hx.out.next (hb6))
      have Qy := Lib.hid (Py.out.next (hb6))
      have Iy := Lib.hid (Hy.out.next (hb6))
      clear Pd Hd Px Hx Py Hy
      have Pd := Lib.hid Qd.out
      have Hd := Lib.hid Id.out
      have Px := Lib.hid Qx.out
      have Hx := Lib.hid Ix.out
      have Py := Lib.hid Qy.out
      have Hy := Lib.hid Iy.out
      clear Qd Id Qx Ix Qy Iy
      have Ml := Lib.hid (Ll.out.next (hb6))
      clear Ll
      have Ll := Lib.hid Ml.out
      clear Ml
      have BB' := Lib.hid (chain BB.out (hb6))
      clear BB
      have BB := Lib.hid BB'.out
      clear BB'
      have Lg := Lib.hid hL6'.out
      clear hL6' hb6
      go_upto_region 13 with fail
      go_cut [17, 18] (fun x y wx => ZRel wl (ds ys (-1) false) x y wx)
      case first =>
        have x0 := Py.out.c0
        have x1 := Py.out.c1
        have x2 := Py.out.c2
        have x3 := Py.out.c3
        have xl := Py.out.lt
        have HC := Lib.hid (conv_sh (ok.start _ (ds ys (-1) true) _ Hy.out (fit_right E2.out)) E6.out E3.out rfl rfl rfl)
        go_wp2_with fail
        refine HC.out.mono ?_
        rintro r w5 ⟨a5, c5, p5, e5, rfl, h5, b5⟩
        have R : Hid (ZRel wl (ds ys (-1) false) (.pointer (some ⟨w5.heap.size, 0, none⟩)) (.int .i64 0) (w5.alloc (.cells #[.slice a5 60 c5, .slice p5 0 e5, .int .i64 (-1), .bool false] 27))) := ⟨_, _, a5, c5, p5, e5, rfl, rfl, rfl, Bx.new _ _ _ _ _ _, h5.next (Below.new1 _), b5.size, chain b5 (Below.new1 _)⟩
        clear HC h5 b5 x0 x1 x2 x3 xl
        go_wp2_with fail
        go_meet
        exact R.out
      case rest =>
      obtain ⟨wv5, G5, a5, c5, p5, e5, hw, rfl, rfl, hP, hH, hg, hb⟩ := hcut
      subst hw
      have hP' := Lib.hid hP
      have hH' := Lib.hid hH
      clear hP hH hg
      have Qd := Lib.hid (Pd.out.next (hb))
      have Id := Lib.hid (Hd.out.next (hb))
      have Qx := Lib.hid (Px.out.next (hb))
      have Ix := Lib.hid (Hx.out.next (hb))
      have Qy := Lib.hid (Py.out.next (hb))
      have Iy := Lib.hid (Hy.out.next (hb))
      clear Pd Hd Px Hx Py Hy
      have Pd := Lib.hid Qd.out
      have Hd := Lib.hid Id.out
      have Px := Lib.hid Qx.out
      have Hx := Lib.hid Ix.out
      have Py := Lib.hid Qy.out
      have Hy := Lib.hid Iy.out
      clear Qd Id Qx Ix Qy Iy
      have Ml := Lib.hid (Ll.out.next (hb))
      have Mg := Lib.hid (Lg.out.next (hb))
      clear Ll Lg
      have Ll := Lib.hid Ml.out
      have Lg := Lib.hid Mg.out
      clear Ml Mg
      have BB' := Lib.hid (chain BB.out (hb))
      clear BB
      have BB := Lib.hid BB'.out
      clear BB'
      have Pq := Lib.hid hP'.out
      have Hq := Lib.hid hH'.out
      clear hP' hH' hb
      have x0 := Pq.out.c0
      have x1 := Pq.out.c1
      have x2 := Pq.out.c2
      have x3 := Pq.out.c3
      have xl := Pq.out.lt
      have z0 := Py.out.c0
      have z1 := Py.out.c1
      have z2 := Py.out.c2
      have z3 := Py.out.c3
      have zl := Py.out.lt
      have zf := Py.out.fz
      go_upto_region 16 with fail
      go_cut [15] (fun x wx => PtRel w 8 (w4.heap.size) a5 c5 p5 e5 (ds ys (-1) false) (.slice sa l.length sc) l (.slice ug L2.length cg) L2 x wx)
      case first =>
        have R : Hid (PtRel w 8 (w4.heap.size) a5 c5 p5 e5 (ds ys (-1) false) (.slice sa l.length sc) l (.slice ug L2.length cg) L2 (.int .i64 8) (put4 wv5 (w4.heap.size) (.slice a5 60 c5) (.slice p5 0 e5) (-1) false)) := ⟨_, rfl, rfl, Py.out.put _ _ _ _, Hq.out.put Py.out (fun s => by simp) (fun s => by simp) _ _ _ _, LAt.put Ll.out Py.out (fun s => by simp) (fun s => by simp) _ _ _ _, LAt.put Lg.out Py.out (fun s => by simp) (fun s => by simp) _ _ _ _, below_put BB.out GY.out _ _ _ _⟩
        go_wp2_with fail
        go_meet
        exact R.out
      case rest =>
      clear x0 x1 x2 x3 xl z0 z1 z2 z3 zl zf Pd Hd Px Hx Py Hy Pq Hq Ll Lg BB
      obtain ⟨wp, hw, rfl, hP, hH, hl1, hl2, hb⟩ := hcut
      subst hw
      have Py := Lib.hid hP
      have Hy := Lib.hid hH
      have Ll := Lib.hid hl1
      have Lg := Lib.hid hl2
      have BB := Lib.hid hb
      clear hP hH hl1 hl2 hb
      have x0 := Py.out.c0
      have x1 := Py.out.c1
      have x2 := Py.out.c2
      have x3 := Py.out.c3
      have xl := Py.out.lt
      have HC := Lib.hid (conv_all (jk.all _ (ds ys (-1) false) _ Hy.out (fit_right E7.out.check.1)) E7.out.all)
      go_wp2_with fail
      refine HC.out.mono ?_
      rintro r w6 ⟨a6, c6, rfl, h6, b6⟩
      clear HC x0 x1 x2 x3 xl
      have Qy := Lib.hid (Py.out.next (b6))
      have Iy := Lib.hid (Hy.out.next (b6))
      clear Py Hy
      have Py := Lib.hid Qy.out
      have Hy := Lib.hid Iy.out
      clear Qy Iy
      have Ml := Lib.hid (Ll.out.next (b6))
      have Mg := Lib.hid (Lg.out.next (b6))
      clear Ll Lg
      have Ll := Lib.hid Ml.out
      have Lg := Lib.hid Mg.out
      clear Ml Mg
      have BB' := Lib.hid (chain BB.out (b6))
      clear BB
      have BB := Lib.hid BB'.out
      clear BB'
      have Ln := Lib.hid h6
      clear h6 b6
      have HC := Lib.hid (same_b (t := false) Ln.out Ll.out LB2.out LB.out (decide_eq_false (fun q => ne_snoc (q.symm.trans HL2.out.symm))))
      go_wp2_with fail
      refine HC.out.mono ?_
      rintro r w7 ⟨rfl, b7⟩
      clear HC
      have Qy := Lib.hid (Py.out.next (b7))
      have Iy := Lib.hid (Hy.out.next (b7))
      clear Py Hy
      have Py := Lib.hid Qy.out
      have Hy := Lib.hid Iy.out
      clear Qy Iy
      have Ml := Lib.hid (Ll.out.next (b7))
      have Mg := Lib.hid (Lg.out.next (b7))
      have Mn := Lib.hid (Ln.out.next (b7))
      clear Ll Lg Ln
      have Ll := Lib.hid Ml.out
      have Lg := Lib.hid Mg.out
      have Ln := Lib.hid Mn.out
      clear Ml Mg Mn
      have BB' := Lib.hid (chain BB.out (b7))
      clear BB
      have BB := Lib.hid BB'.out
      clear BB'
      clear b7
      have HC := Lib.hid (same_b (t := true) Ln.out Lg.out LB2.out LB2.out (decide_eq_true rfl))
      go_wp2_with fail
      refine HC.out.mono ?_
      rintro r w8 ⟨rfl, b8⟩
      clear HC
      have Qy := Lib.hid (Py.out.next (b8))
      have Iy := Lib.hid (Hy.out.next (b8))
      clear Py Hy
      have Py := Lib.hid Qy.out
      have Hy := Lib.hid Iy.out
      clear Qy Iy
      have Ml := Lib.hid (Ll.out.next (b8))
      have Mg := Lib.hid (Lg.out.next (b8))
      have Mn := Lib.hid (Ln.out.next (b8))
      clear Ll Lg Ln
      have Ll := Lib.hid Ml.out
      have Lg := Lib.hid Mg.out
      have Ln := Lib.hid Mn.out
      clear Ml Mg Mn
      have BB' := Lib.hid (chain BB.out (b8))
      clear BB
      have BB := Lib.hid BB'.out
      clear BB'
      clear b8
      obtain ⟨d3, q1, q2⟩ := E7.out.more (s := t.data.toList) (by rw [size_list]; omega) (by have := NL2.out; omega) R3.out
      have Q3 := Lib.hid q1
      obtain ⟨L3, hL3⟩ : ∃ x, L2 ++ [t.data.toList] = x := ⟨_, rfl⟩
      rw [hL3] at q2
      have A3 := Lib.hid q2
      have HL3 := Lib.hid hL3
      have LB3 : Hid (L3.length ≤ 1099511627776) := by show _ ≤ _; rw [← hL3, List.length_append, List.length_singleton]; have := NL2.out; omega
      clear q1 q2 hL3
      have x0 := Py.out.c0
      have x1 := Py.out.c1
      have x2 := Py.out.c2
      have x3 := Py.out.c3
      have xl := Py.out.lt
      have HC := Lib.hid (conv_sh (jk.append _ (ds ys (-1) false) t _ Hy.out (fit_right E7.out.check.1) htt (HT.out.next BB.out)) Q3.out A3.out.len (by rw [A3.out.check.2.2]; try rfl) A3.out.left A3.out.check.2.1)
      go_wp2_with fail
      refine HC.out.mono ?_
      rintro r w9 ⟨a9, c9, p9, e9, rfl, h9, b9⟩
      clear HC x0 x1 x2 x3 xl
      have Qy := Lib.hid (Py.out.next (b9))
      have Iy := Lib.hid (Hy.out.next (b9))
      clear Py Hy
      have Py := Lib.hid Qy.out
      have Hy := Lib.hid Iy.out
      clear Qy Iy
      have Ml := Lib.hid (Ll.out.next (b9))
      have Mg := Lib.hid (Lg.out.next (b9))
      have Mn := Lib.hid (Ln.out.next (b9))
      clear Ll Lg Ln
      have Ll := Lib.hid Ml.out
      have Lg := Lib.hid Mg.out
      have Ln := Lib.hid Mn.out
      clear Ml Mg Mn
      have BB' := Lib.hid (chain BB.out (b9))
      clear BB
      have BB := Lib.hid BB'.out
      clear BB'
      have h9' := Lib.hid (h9.next (Below.new1 (.cells #[.slice a9 60 c9, .slice p9 0 e9, .int .i64 (-1), .bool false] 27)))
      clear h9 b9
      have Qy := Lib.hid (Py.out.next (Below.new1 (.cells #[.slice a9 60 c9, .slice p9 0 e9, .int .i64 (-1), .bool false] 27)))
      have Iy := Lib.hid (Hy.out.next (Below.new1 (.cells #[.slice a9 60 c9, .slice p9 0 e9, .int .i64 (-1), .bool false] 27)))
      clear Py Hy
      have Py := Lib.hid Qy.out
      have Hy := Lib.hid Iy.out
      clear Qy Iy
      have Ml := Lib.hid (Ll.out.next (Below.new1 (.cells #[.slice a9 60 c9, .slice p9 0 e9, .int .i64 (-1), .bool false] 27)))
      have Mg := Lib.hid (Lg.out.next (Below.new1 (.cells #[.slice a9 60 c9, .slice p9 0 e9, .int .i64 (-1), .bool false] 27)))
      have Mn := Lib.hid (Ln.out.next (Below.new1 (.cells #[.slice a9 60 c9, .slice p9 0 e9, .int .i64 (-1), .bool false] 27)))
      clear Ll Lg Ln
      have Ll := Lib.hid Ml.out
      have Lg := Lib.hid Mg.out
      have Ln := Lib.hid Mn.out
      clear Ml Mg Mn
      have BB' := Lib.hid (chain BB.out (Below.new1 (.cells #[.slice a9 60 c9, .slice p9 0 e9, .int .i64 (-1), .bool false] 27)))
      clear BB
      have BB := Lib.hid BB'.out
      clear BB'
      have Pv := Lib.hid (Bx.new w9 (.slice a9 60 c9) (.slice p9 0 e9) (-1) false 27)
      have Hv := Lib.hid h9'.out
      clear h9'
      have x0 := Pv.out.c0
      have x1 := Pv.out.c1
      have x2 := Pv.out.c2
      have x3 := Pv.out.c3
      have xl := Pv.out.lt
      have HC := Lib.hid (conv_all (jk.all _ d3 _ Hv.out (fit_right A3.out.check.1)) A3.out.all)
      go_wp2_with fail
      refine HC.out.mono ?_
      rintro r w10 ⟨a10, c10, rfl, h10, b10⟩
      clear HC x0 x1 x2 x3 xl
      have Qy := Lib.hid (Py.out.next (b10))
      have Iy := Lib.hid (Hy.out.next (b10))
      have Qv := Lib.hid (Pv.out.next (b10))
      have Iv := Lib.hid (Hv.out.next (b10))
      clear Py Hy Pv Hv
      have Py := Lib.hid Qy.out
      have Hy := Lib.hid Iy.out
      have Pv := Lib.hid Qv.out
      have Hv := Lib.hid Iv.out
      clear Qy Iy Qv Iv
      have Ml := Lib.hid (Ll.out.next (b10))
      have Mg := Lib.hid (Lg.out.next (b10))
      have Mn := Lib.hid (Ln.out.next (b10))
      clear Ll Lg Ln
      have Ll := Lib.hid Ml.out
      have Lg := Lib.hid Mg.out
      have Ln := Lib.hid Mn.out
      clear Ml Mg Mn
      have BB' := Lib.hid (chain BB.out (b10))
      clear BB
      have BB := Lib.hid BB'.out
      clear BB'
      have Lm := Lib.hid h10
      clear h10 b10
      obtain ⟨rj, hj, hy0, hy1, hy2⟩ := info_parts infoS
      have Hj := Lib.hid hj
      have Hy0 := Lib.hid hy0
      have Hy1 := Lib.hid hy1
      have Hy2 := Lib.hid hy2
      clear hj hy0 hy1 hy2
      cases a6 with
      | none =>
        obtain rfl : L2 = [] := lat_none Ln.out
        have HO5 : Hid ((w10.alloc (.cells #[] 9)).ownsRow w10.heap.size 9 1 (.slice (some ⟨w10.heap.size, 0, none⟩) 0 0) 0 []) := own_none w10 _ _ _ rfl (Nat.le_refl _)
        have B5 : Hid (Below w10.heap.size w10 (w10.alloc (.cells #[] 9))) := Below.new1 _
        go_wp2_with (at_builtin; refine wpList_append_own_g (by rfl) (.tmp 164) (.tmp 166) 24 rfl w10.heap.size 9 rj (.string ⟨#[]⟩) 1 16 Tryd.underlying24 Hj.out Hy0.out Hy1.out Hy2.out rfl (by decide) _ 0 ([]) rfl (HO5.out.alloc _) ⟨w10.heap.size + 1, 0, none⟩ 1 1 [.string t] rfl rfl ?g1 ?g2 ?g3 ?g4 ?g5 ?_)
        case g1 => exact cell_new1 _ _ _ _ (by first | rfl | simp)
        case g2 => intro u hu; simp at hu; subst hu; rfl
        case g3 => unfold maxLen; have := NL2.out; omega
        case g4 => have := NL2.out; omega
        case g5 => have := B5.out.size; simp; omega
        intro v6 w6 hown6 hgrow6 _
        have hrow6 : ∀ jj, (Value.slice (some ⟨w10.heap.size, 0, none⟩) 0 0).ownBlock = some jj → w10.heap.size ≤ jj := fun jj hj => (HO5.out.lt jj hj).1
        have B6 : Hid (Below w10.heap.size w10 w6) := B5.out.trans (((Below.refl w10.heap.size _).alloc B5.out.size _).grown hgrow6 (by have := B5.out.size; simp; omega) hrow6)
        have hl6' : ([] : List Value) ++ [.string t] = strs (([] ++ [t.data.toList]).map mkB) := by simp [strs, mkB_of]
        have hown6 : w6.ownsRow w10.heap.size 9 1 v6 (0 + 1) (strs (([] ++ [t.data.toList]).map mkB)) := by rw [← hl6']; first | exact hown6 | (rw [← List.map_map] at hown6; exact hown6)
        obtain ⟨u6, c6, e6, h6, h7⟩ := SAt.own hown6 (by simp)
        have hn6 : (strs (([] ++ [t.data.toList]).map mkB)).length = 0 + 1 := by simp
        rw [hn6] at e6
        subst e6
        have h8 : LAt w6 (.slice u6 (0 + 1) c6) ([] ++ [t.data.toList]) := SAt.own hown6 hn6.symm
        rw [HL3.out] at h8
        have HS7 := Lib.hid (same_b (t := true) (Lm.out.next B6.out) h8 LB3.out LB3.out (decide_eq_true rfl))
        have B7 := Lib.hid (chain BB.out B6.out)
        clear h8 hown6 hgrow6 hrow6
        go_wp2_with fail
        refine HS7.out.mono ?_
        rintro r w8 ⟨rfl, b8⟩
        have B8 := Lib.hid (chain B7.out b8)
        clear b8 HS7
        go_wp2_with fail
        go_ret
        exact ⟨by rfl, B8.out⟩
      | some ad =>
        go_wp2_with (at_builtin; refine wpList_append_own_g (by rfl) (.tmp 162) (.tmp 163) 24 rfl w10.heap.size 9 rj (.string ⟨#[]⟩) 1 16 Tryd.underlying24 Hj.out Hy0.out Hy1.out Hy2.out rfl (by decide) _ 0 [] rfl (own_none w10 _ _ _ rfl (Nat.le_refl _)) ad L2.length c6 (strs (L2.map mkB)) rfl ?f0 ?f1 ?f2 ?f3 ?f4 ?f5 ?_)
        case f0 => simp
        case f1 => exact lat_some (Ln.out.next (Below.new1 _))
        case f2 => intro u hu; obtain ⟨y, -, rfl⟩ := List.mem_map.1 hu; rfl
        case f3 => unfold maxLen; have := NL2.out; omega
        case f4 => have := NL2.out; omega
        case f5 => simp
        intro v5 w5 hown5 hgrow5 _
        have hown5' : w5.ownsRow w10.heap.size 9 1 v5 L2.length (strs (L2.map mkB)) := by simpa using hown5
        have HO5 := Lib.hid hown5'
        have B5 : Hid (Below w10.heap.size w10 w5) := ((Below.refl w10.heap.size w10).alloc (Nat.le_refl _) _).grown hgrow5 (by simp) (fun jj hj => by simp [Value.ownBlock] at hj; omega)
        clear hown5 hown5'
        go_wp2_with (at_builtin; refine wpList_append_own_g (by rfl) (.tmp 164) (.tmp 166) 24 rfl w10.heap.size 9 rj (.string ⟨#[]⟩) 1 16 Tryd.underlying24 Hj.out Hy0.out Hy1.out Hy2.out rfl (by decide) _ L2.length (strs (L2.map mkB)) rfl (HO5.out.alloc _) ⟨w5.heap.size, 0, none⟩ 1 1 [.string t] rfl rfl ?g1 ?g2 ?g3 ?g4 ?g5 ?_)
        case g1 => exact cell_new1 _ _ _ _ (by first | rfl | simp)
        case g2 => intro u hu; simp at hu; subst hu; rfl
        case g3 => unfold maxLen; have := NL2.out; omega
        case g4 => have := NL2.out; omega
        case g5 => have := B5.out.size; simp; omega
        intro v6 w6 hown6 hgrow6 _
        have hrow6 : ∀ jj, v5.ownBlock = some jj → w10.heap.size ≤ jj := fun jj hj => (HO5.out.lt jj hj).1
        have B6 : Hid (Below w10.heap.size w10 w6) := B5.out.trans (((Below.refl w10.heap.size _).alloc B5.out.size _).grown hgrow6 (by have := B5.out.size; simp; omega) hrow6)
        have hl6' : strs (L2.map mkB) ++ [.string t] = strs ((L2 ++ [t.data.toList]).map mkB) := by simp [strs, mkB_of]
        have hown6 : w6.ownsRow w10.heap.size 9 1 v6 (L2.length + 1) (strs ((L2 ++ [t.data.toList]).map mkB)) := by rw [← hl6']; first | exact hown6 | (rw [← List.map_map] at hown6; exact hown6)
        obtain ⟨u6, c6, e6, h6, h7⟩ := SAt.own hown6 (by simp)
        have hn6 : (strs ((L2 ++ [t.data.toList]).map mkB)).length = L2.length + 1 := by simp
        rw [hn6] at e6
        subst e6
        have h8 : LAt w6 (.slice u6 (L2.length + 1) c6) (L2 ++ [t.data.toList]) := SAt.own hown6 hn6.symm
        rw [HL3.out] at h8
        have HS7 := Lib.hid (same_b (t := true) (Lm.out.next B6.out) h8 LB3.out LB3.out (decide_eq_true rfl))
        have B7 := Lib.hid (chain BB.out B6.out)
        clear h8 hown6 hgrow6 hrow6
        go_wp2_with fail
        refine HS7.out.mono ?_
        rintro r w8 ⟨rfl, b8⟩
        have B8 := Lib.hid (chain B7.out b8)
        clear b8 HS7
        go_wp2_with fail
        go_ret
        exact ⟨by rfl, B8.out⟩

end Go.Proofs.YtemldlhhlneleaaDoor.Jn
