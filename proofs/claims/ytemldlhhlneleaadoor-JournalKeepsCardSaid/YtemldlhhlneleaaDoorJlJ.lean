/-
  JournalKeeps.
-/
import Derived.Test.YtemldlhhlneleaaDoorJlI
namespace Go.Proofs.YtemldlhhlneleaaDoor.Jn
open Go.RowKit Dk Wi

theorem Fil.cutS {n : Nat} {l : List S} {d : D} (h : Fil n l d) : cutV d = (ds d.secs (-1) true, 0) ∧ checkB (ds d.secs (-1) true) = true ∧ d.secs.length = n ∧ stV (ds d.secs (-1) true) = (ds d.secs (-1) false, 0) ∧ allV (ds d.secs (-1) false) = (l, 0) ∧ checkB (ds d.secs (-1) false) = true := by
  obtain ⟨hc, hd, hp⟩ := h.check
  have hl := h.left
  have ha := h.all
  have hn := h.len
  obtain ⟨ys, yp, yl, yd⟩ := d
  change yd = false at hd
  change yp = [] at hp
  change yl = -1 at hl
  subst hd hp hl
  have c2 : checkB (ds ys (-1) true) = true := check_cut hc
  refine ⟨?_, c2, hn, ?_, ha, hc⟩
  · unfold cutV
    rw [if_pos (upE_zero.2 ⟨hc, rfl⟩)]
  · unfold stV
    rw [c2]
    rfl
theorem lat_take {W : World} {a : Option Addr} {n c k : Nat} {l : List S} (h : LAt W (.slice a n c) l) (hk : k ≤ l.length) : LAt W (.slice a k c) (l.take k) := by
  obtain ⟨a', c', e, h1, h2⟩ := h
  have ll : (strs (l.map mkB)).length = l.length := by simp
  rw [ll] at h1
  injection e with e1 _ e3
  subst e1 e3
  refine ⟨a, c, by rw [show (strs ((l.take k).map mkB)).length = k by simp; omega], by rw [show (strs ((l.take k).map mkB)).length = k by simp; omega]; omega, fun j x hx => ?_⟩
  have hj := (List.getElem?_eq_some_iff.1 hx).1
  refine h2 j x ?_
  rw [← hx]
  simp only [strs, List.getElem?_map]
  rw [List.getElem?_take_of_lt (by simp at hj; omega)]
/-- the disks that have been kept -/
def Kd (l : List S) (dd : List (Value × Value)) (W : World) : Prop := ∀ (j : Nat) (q : Value × Value), dd[j]? = some q → ∃ a c p e d, q = (.slice a 80 c, .slice p 0 e) ∧ Fil 80 (l.take j) d ∧ DAt W (.agg #[.slice a 80 c, .slice p 0 e, .int .i64 (-1), .bool false]) d
theorem Kd.next {l : List S} {dd : List (Value × Value)} {W W' : World} (h : Kd l dd W) (hb : Below W.heap.size W W') : Kd l dd W' := by
  intro j q hq
  obtain ⟨a, c, p, e, d, h1, h2, h3⟩ := h j q hq
  exact ⟨a, c, p, e, d, h1, h2, h3.next hb⟩
theorem Kd.grown {l : List S} {dd m : List (Value × Value)} {g cap : Nat} {W W' : World} (h : Kd l dd W) (hr : DRow W g cap m) (hg : W.grownBy W' (some g)) : Kd l dd W' := by
  intro j q hq
  obtain ⟨a, c, p, e, d, h1, h2, h3⟩ := h j q hq
  exact ⟨a, c, p, e, d, h1, h2, DAt.grown h3 h2.check.2.2 hr hg⟩
theorem Kd.put {l : List S} {dd : List (Value × Value)} {svb pvb : Value} {l0 : Int} {b0 : Bool} {g : Nat} {W : World} (h : Kd l dd W) (hb : Bx svb pvb l0 b0 g W) (hs : ∀ s, svb ≠ .string s) (hp : ∀ s, pvb ≠ .string s) (sv pv : Value) (i : Int) (b : Bool) : Kd l dd (put4 W g sv pv i b) := by
  intro j q hq
  obtain ⟨a, c, p, e, d, h1, h2, h3⟩ := h j q hq
  exact ⟨a, c, p, e, d, h1, h2, h3.put hb hs hp sv pv i b⟩
theorem Kd.snoc {l : List S} {dd : List (Value × Value)} {a : Option Addr} {c : Nat} {p : Option Addr} {e : Nat} {d : D} {W : World} (h : Kd l dd W) {k : Nat} (hk : dd.length = k) (hf : Fil 80 (l.take k) d) (hd : DAt W (.agg #[.slice a 80 c, .slice p 0 e, .int .i64 (-1), .bool false]) d) : Kd l (dd ++ [(.slice a 80 c, .slice p 0 e)]) W := by
  intro j q hq
  by_cases hj : j < dd.length
  · rw [List.getElem?_append_left hj] at hq
    exact h j q hq
  · have h2 := (List.getElem?_eq_some_iff.1 hq).1
    rw [List.length_append, List.length_singleton] at h2
    obtain rfl : j = dd.length := by omega
    rw [List.getElem?_append_right (Nat.le_refl _), Nat.sub_self] at hq
    simp only [List.getElem?_cons_zero, Option.some.injEq] at hq
    subst hq
    exact ⟨a, c, p, e, d, rfl, by rw [hk]; exact hf, hd⟩
def KpRel (l : List S) (w : World) (g6 : Nat) (x v i : Value) (wr : World) : Prop := ∃ (k g cap : Nat) (dd : List (Value × Value)) (d : D) (a : Option Addr) (c : Nat) (p : Option Addr) (e : Nat), k ≤ l.length ∧ x = .int .i64 0 ∧ i = .int .i64 (k : Int) ∧ v = .slice (some ⟨g, 0, none⟩) (k + 1) cap ∧ dd.length = k + 1 ∧ Fil 80 (l.take k) d ∧
  Bx (.slice a 80 c) (.slice p 0 e) (-1) false g6 wr ∧ DAt wr (.agg #[.slice a 80 c, .slice p 0 e, .int .i64 (-1), .bool false]) d ∧ DRow wr g cap dd ∧ (g ≠ g6 ∧ w.heap.size ≤ g) ∧ Kd l dd wr ∧ Below w.heap.size w wr
def KaRel (l : List S) (w : World) (g6 k g cap : Nat) (dd : List (Value × Value)) (x : Value) (wx : World) : Prop := ∃ wv d a c p e, wv = wx ∧ x = .int .i64 0 ∧ Fil 80 (l.take (k + 1)) d ∧
  Bx (.slice a 80 c) (.slice p 0 e) (-1) false g6 wv ∧ DAt wv (.agg #[.slice a 80 c, .slice p 0 e, .int .i64 (-1), .bool false]) d ∧ DRow wv g cap dd ∧ Kd l dd wv ∧ Below w.heap.size w wv
def CntRel (m : Nat) (W : World) (i : Value) (wr : World) : Prop := ∃ k : Nat, k ≤ m ∧ i = .int .i64 (k : Int) ∧ Below W.heap.size W wr
theorem new_check80 : checkB ⟨List.replicate 80 (zb 16), [], -1, false⟩ = true := by decide +kernel

set_option maxHeartbeats 6400000 in
set_option maxRecDepth 100000 in
theorem keeps_x (ok : DiskOk) (jk : JournalOk) (v : Value) (l : List S) (w : World) (ht : Tb w) (h : LAt w v l) (hl : l.length ≤ 9223372036854775807) (hs : ∀ s ∈ l, s.length ≤ 9223372036854775807) :
    Calls Tryd.prog 5 #[v] w fun r w' => r = .returned (.bool true) ∧ Below w.heap.size w w' := by
  have HT := Lib.hid ht
  clear ht
  have HL0 := Lib.hid h
  obtain ⟨sa, sc, rfl, hsc, hg⟩ := h
  have ll : (strs (l.map mkB)).length = l.length := by simp
  rw [ll] at HL0 hsc ⊢
  have HG : Hid (∀ (j : Nat) (x : S), l[j]? = some x → ∃ g off, sa = some ⟨g, off, none⟩ ∧ g < w.heap.size ∧ w.cell? ⟨g, off + j, none⟩ = some (.string (mkB x))) := fun j x hx => hg j _ (strs_get (by rw [List.getElem?_map, hx]; rfl))
  have HS := Lib.hid hs
  have HLE := Lib.hid hl
  clear hg ll hs hl
  obtain ⟨fb, hfb⟩ : ∃ t, fitsB (l.map mkB) ((8 : Nat) : Int) = t := ⟨_, rfl⟩
  have HFB := Lib.hid hfb
  clear hfb
  obtain ⟨d0, n1, n2, F0⟩ := fil_start (n := 80) (by decide) (by decide)
  have N1 : Hid (newV 80 = (⟨List.replicate 80 (zb 16), [], -1, false⟩, 0)) := n1
  have N2 := Lib.hid n2
  have HF0 := Lib.hid F0
  clear n1 n2 F0
  go_enter Tryd.func5, Tryd.ntmps5
  have HSN := Lib.hid (sane_x jk w HT.out)
  go_wp2_with fail
  refine HSN.out.mono ?_
  rintro r w1 ⟨rfl, b1⟩
  have BB := Lib.hid b1
  have Ll := Lib.hid (HL0.out.next b1)
  clear b1 HSN
  have HFT := Lib.hid (fits_l _ l 8 w1 Ll.out HLE.out HS.out HFB.out)
  go_wp2_with fail
  refine HFT.out.mono ?_
  rintro r w2 ⟨rfl, rfl⟩
  clear HFT
  cases fb with
  | false =>
    go_wp2_with fail
    go_ret
    exact ⟨by rfl, BB.out⟩
  | true =>
  obtain ⟨hs1, hl8⟩ := fits_lst.1 HFB.out
  have HS1 := Lib.hid hs1
  clear hs1
  have HC := Lib.hid (conv_sh (New_x 80 w1 (by unfold I64; decide)) N1.out List.length_replicate rfl rfl rfl)
  go_wp2_with fail
  refine HC.out.mono ?_
  rintro r w3 ⟨a3, c3, p3, e3, rfl, h3, b3⟩
  clear HC
  have Ml := Lib.hid (Ll.out.next (b3))
  clear Ll
  have Ll := Lib.hid Ml.out
  clear Ml
  have BB' := Lib.hid (chain BB.out (b3))
  clear BB
  have BB := Lib.hid BB'.out
  clear BB'
  have h3' := Lib.hid (h3.next (Below.new1 (.cells #[.slice a3 80 c3, .slice p3 0 e3, .int .i64 (-1), .bool false] 27)))
  clear h3 b3
  have Ml := Lib.hid (Ll.out.next (Below.new1 (.cells #[.slice a3 80 c3, .slice p3 0 e3, .int .i64 (-1), .bool false] 27)))
  clear Ll
  have Ll := Lib.hid Ml.out
  clear Ml
  have BB' := Lib.hid (chain BB.out (Below.new1 (.cells #[.slice a3 80 c3, .slice p3 0 e3, .int .i64 (-1), .bool false] 27)))
  clear BB
  have BB := Lib.hid BB'.out
  clear BB'
  have Pd := Lib.hid (Bx.new w3 (.slice a3 80 c3) (.slice p3 0 e3) (-1) false 27)
  have Hd := Lib.hid h3'.out
  clear h3'
  have x0 := Pd.out.c0
  have x1 := Pd.out.c1
  have x2 := Pd.out.c2
  have x3 := Pd.out.c3
  have xl := Pd.out.lt
  have HC := Lib.hid (conv_sh (jk.format _ ⟨List.replicate 80 (zb 16), [], -1, false⟩ _ Hd.out (fit_right new_check80) (HT.out.next BB.out)) N2.out HF0.out.len (by rw [HF0.out.check.2.2]; try rfl) HF0.out.left HF0.out.check.2.1)
  go_wp2_with fail
  refine HC.out.mono ?_
  rintro r w4 ⟨a4, c4, p4, e4, rfl, h4, b4⟩
  clear HC x0 x1 x2 x3 xl
  have Qd := Lib.hid (Pd.out.next (b4))
  have Id := Lib.hid (Hd.out.next (b4))
  clear Pd Hd
  have Pd := Lib.hid Qd.out
  have Hd := Lib.hid Id.out
  clear Qd Id
  have Ml := Lib.hid (Ll.out.next (b4))
  clear Ll
  have Ll := Lib.hid Ml.out
  clear Ml
  have BB' := Lib.hid (chain BB.out (b4))
  clear BB
  have BB := Lib.hid BB'.out
  clear BB'
  have BX4 : Hid (w.heap.size ≤ w4.heap.size) := BB.out.size
  have h4' := Lib.hid (h4.next (Below.new1 (.cells #[.slice a4 80 c4, .slice p4 0 e4, .int .i64 (-1), .bool false] 27)))
  clear h4 b4
  have Qd := Lib.hid (Pd.out.next (Below.new1 (.cells #[.slice a4 80 c4, .slice p4 0 e4, .int .i64 (-1), .bool false] 27)))
  have Id := Lib.hid (Hd.out.next (Below.new1 (.cells #[.slice a4 80 c4, .slice p4 0 e4, .int .i64 (-1), .bool false] 27)))
  clear Pd Hd
  have Pd := Lib.hid Qd.out
  have Hd := Lib.hid Id.out
  clear Qd Id
  have Ml := Lib.hid (Ll.out.next (Below.new1 (.cells #[.slice a4 80 c4, .slice p4 0 e4, .int .i64 (-1), .bool false] 27)))
  clear Ll
  have Ll := Lib.hid Ml.out
  clear Ml
  have BB' := Lib.hid (chain BB.out (Below.new1 (.cells #[.slice a4 80 c4, .slice p4 0 e4, .int .i64 (-1), .bool false] 27)))
  clear BB
  have BB := Lib.hid BB'.out
  clear BB'
  have Px := Lib.hid (Bx.new w4 (.slice a4 80 c4) (.slice p4 0 e4) (-1) false 27)
  have Hx := Lib.hid h4'.out
  clear h4'
  have hsz : (w4.alloc (.cells #[.slice a4 80 c4, .slice p4 0 e4, .int .i64 (-1), .bool false] 27)).heap.size = w4.heap.size + 1 := by simp
  have DR0 := DRow.new (w4.alloc (.cells #[.slice a4 80 c4, .slice p4 0 e4, .int .i64 (-1), .bool false] 27)) (.slice a4 80 c4) (.slice p4 0 e4) (fun b => by simp) (fun b => by simp)
  rw [hsz] at DR0
  have hws : w.heap.size ≤ w4.heap.size := BX4.out
  have R0 : Hid (KpRel l w w4.heap.size (.int .i64 0) (.slice (some ⟨w4.heap.size + 1, 0, none⟩) 1 1) (.int .i64 0) ((w4.alloc (.cells #[.slice a4 80 c4, .slice p4 0 e4, .int .i64 (-1), .bool false] 27)).alloc (.cells #[.slice a4 80 c4, .slice p4 0 e4, .int .i64 (-1), .bool false] 27))) :=
    ⟨0, w4.heap.size + 1, 1, [(.slice a4 80 c4, .slice p4 0 e4)], d0, a4, c4, p4, e4, Nat.zero_le _, rfl, rfl, rfl, rfl, by rw [List.take_zero]; exact HF0.out, Px.out.next (Below.new1 _), Hx.out.next (Below.new1 _), DR0, ⟨by omega, by omega⟩, fun j q hq => by
      match j, hq with
      | 0, hq =>
        simp only [List.getElem?_cons_zero, Option.some.injEq] at hq
        subst hq
        exact ⟨a4, c4, p4, e4, d0, rfl, by rw [List.take_zero]; exact HF0.out, Hx.out.next (Below.new1 _)⟩
      | j + 1, hq => simp at hq, chain BB.out (Below.new1 _)⟩
  have GW : Hid (w.heap.size ≤ w4.heap.size) := hws
  have x0 := Px.out.c0
  have x1 := Px.out.c1
  have x2 := Px.out.c2
  have x3 := Px.out.c3
  have xl := Px.out.lt
  clear hsz DR0 hws
  go_wp2_with fail
  clear x0 x1 x2 x3 xl Px Hx Pd Hd Ll BB
  go_loopw [7, 8, 9] (fun x v i wr => KpRel l w w4.heap.size x v i wr) (fun _ _ i _ => l.length - (intOf i).toNat)
  case atStart => exact R0.out
  case round =>
    clear R0
    obtain ⟨k, g, cap, dd, d, a, c, p, e, hk, rfl, rfl, rfl, hdl, hF, hP, hH, hR, hg6, hKd, hB⟩ := hrel
    have HF := Lib.hid hF
    have HP := Lib.hid hP
    have HH := Lib.hid hH
    have HR := Lib.hid hR
    have HG6 := Lib.hid hg6
    have HK := Lib.hid hKd
    have HB := Lib.hid hB
    have HDL := Lib.hid hdl
    have k0 : (0 : Int) ≤ (k : Int) := by omega
    clear hF hP hH hR hg6 hKd hB hdl
    by_cases cc : k < l.length
    case pos =>
      have cc0 : (k : Int) < (l.length : Int) := by omega
      obtain ⟨x, hx⟩ : ∃ s, l[k]? = some s := ⟨_, List.getElem?_eq_getElem cc⟩
      obtain ⟨lg, lo, rfl, g1, g2⟩ := HG.out k x hx
      have GX : Hid (lg < w.heap.size ∧ w.cell? ⟨lg, lo + k, none⟩ = some (.string (mkB x))) := ⟨g1, g2⟩
      have hx1 : x.length ≤ 100 := HS1.out x (List.mem_of_getElem? hx)
      obtain ⟨d', q1, q2⟩ := HF.out.more (s := x) (by omega) (by rw [List.length_take]; omega) (by
        have m1 := encA_100 (l := l.take k) (fun s hs => HS1.out s (List.mem_of_mem_take hs))
        have m2 := encS_100 hx1
        rw [List.length_take] at m1
        omega)
      rw [← take_more hx] at q2
      have HQ := Lib.hid q2
      have HAP : Hid (∀ W, Below w.heap.size w W → DAt W (.agg #[.slice a 80 c, .slice p 0 e, .int .i64 (-1), .bool false]) d → Calls Tryd.prog 13 #[.agg #[.slice a 80 c, .slice p 0 e, .int .i64 (-1), .bool false], .string (mkB x)] W fun r w' => ∃ a c p c2, r = .returned (.tuple #[.agg #[.slice a 80 c, .slice p 0 c2, .int .i64 (-1), .bool false], .int .i64 0]) ∧ DAt w' (.agg #[.slice a 80 c, .slice p 0 c2, .int .i64 (-1), .bool false]) d' ∧ Below W.heap.size W w') := by
        show ∀ W, _
        intro W hBl hW
        exact conv_fil (jk.append _ d (mkB x) W hW HF.out.fit (by rw [mkB_size]; omega) (HT.out.next hBl)) q1 q2
      clear hx q1 q2 g1 g2
      go_upto_region 10 with fail
      go_cut [7] (fun x wx => KaRel l w w4.heap.size k g cap dd x wx)
      case first =>
        have P1 := Lib.hid (HP.out.next (Below.refl _ _).drew)
        have H1 := Lib.hid (HH.out.next (Below.refl _ _).drew)
        have R1 := Lib.hid (HR.out.next (Below.refl _ _).drew)
        have K1 := Lib.hid (HK.out.next (Below.refl _ _).drew)
        have B1 := Lib.hid (chain HB.out (Below.refl _ _).drew)
        have p0 := HP.out.c0
        have p1' := HP.out.c1
        have p2' := HP.out.c2
        have p3 := HP.out.c3
        have pl := HP.out.lt
        have g3 := (HB.out.cell (p := ⟨lg, lo + k, none⟩) GX.out.1).trans GX.out.2
        have g4 : lg < wr.heap.size := Nat.lt_of_lt_of_le GX.out.1 HB.out.size
        refine wp_region_held_drew (S := fun w' => w'.cell? ⟨lg, lo + k, none⟩ = some (.string (mkB x))) (by kernel_rfl) ?_ (fun hHeld => ?_)
        · exact g3
        refine takeN1 (v := ?_) (by kernel_rfl) (by kernel_rfl) (by kernel_rfl) (fun _ _ _ h => h) (by rfl) ?_ (by assumption) ?_
        rotate_left
        · intro wz hSw
          try dsimp only at hSw
          go_simp
          try with_reducible rfl
        try simp only [Act.put, List.setIfInBounds_toArray, List.set_cons_zero, List.set_cons_succ]
        refine takeN2 (v := ?_) (by kernel_rfl) (by kernel_rfl) (by kernel_rfl) (fun _ _ _ h => h) (by rfl) ?_ (by assumption) ?_
        rotate_left
        · intro wz hSw
          try dsimp only at hSw
          go_simp
          try with_reducible rfl
        try simp only [Act.put, List.setIfInBounds_toArray, List.set_cons_zero, List.set_cons_succ]
        refine takeN3 (v := ?_) (by kernel_rfl) (by kernel_rfl) (by kernel_rfl) (fun _ _ _ h => h) (by rfl) ?_ (by assumption) ?_
        rotate_left
        · intro wz hSw
          try dsimp only at hSw
          go_simp
          try with_reducible rfl
        try simp only [Act.put, List.setIfInBounds_toArray, List.set_cons_zero, List.set_cons_succ]
        refine takeN4 (v := ?_) (by kernel_rfl) (by kernel_rfl) (by kernel_rfl) (fun _ _ _ h => h) (by rfl) ?_ (by assumption) ?_
        rotate_left
        · intro wz hSw
          try dsimp only at hSw
          go_simp
          try with_reducible rfl
        try simp only [Act.put, List.setIfInBounds_toArray, List.set_cons_zero, List.set_cons_succ]
        refine comeN0 (by kernel_rfl) (by rfl) (fun K hK => ?_)
        go_simp
        refine hK.out _ _ ?_ (fun hHeld => ?_)
        · exact g3
        clear hK K
        try simp only [Act.put, List.setIfInBounds_toArray, List.set_cons_zero, List.set_cons_succ]
        refine comeN5 (by kernel_rfl) (by rfl) (fun K hK => ?_)
        go_simp
        (go_at_call 13; refine (HAP.out _ B1.out H1.out).mono ?_; rintro r w5 ⟨a5, c5, p5, e5, rfl, h5', b5⟩)
        try go_wp2_with fail
        have P5 := Lib.hid (P1.out.next b5)
        have R5 := Lib.hid (R1.out.next b5)
        have K5 := Lib.hid (K1.out.next b5)
        have B5 := Lib.hid (chain B1.out b5)
        have H5 := Lib.hid h5'
        clear h5' b5 p0 p1' p2' p3 pl
        refine hK.out _ _ ?_ (fun hHeld => ?_)
        · exact (B5.out.cell (p := ⟨lg, lo + k, none⟩) GX.out.1).trans GX.out.2
        clear hK K
        try simp only [Act.put, List.setIfInBounds_toArray, List.set_cons_zero, List.set_cons_succ]
        refine takeN6 (v := ?_) (by kernel_rfl) (by kernel_rfl) (by kernel_rfl) (fun _ _ _ h => h) (by rfl) ?_ (by assumption) ?_
        rotate_left
        · intro wz hSw
          try dsimp only at hSw
          go_simp
          try with_reducible rfl
        try simp only [Act.put, List.setIfInBounds_toArray, List.set_cons_zero, List.set_cons_succ]
        refine takeN7 (v := ?_) (by kernel_rfl) (by kernel_rfl) (by kernel_rfl) (fun _ _ _ h => h) (by rfl) ?_ (by assumption) ?_
        rotate_left
        · intro wz hSw
          try dsimp only at hSw
          go_simp
          try with_reducible rfl
        try simp only [Act.put, List.setIfInBounds_toArray, List.set_cons_zero, List.set_cons_succ]
        refine takeN8 (v := ?_) (by kernel_rfl) (by kernel_rfl) (by kernel_rfl) (fun _ _ _ h => h) (by rfl) ?_ (by assumption) ?_
        rotate_left
        · intro wz hSw
          try dsimp only at hSw
          go_simp
          try with_reducible rfl
        try simp only [Act.put, List.setIfInBounds_toArray, List.set_cons_zero, List.set_cons_succ]
        refine comeN9 (by kernel_rfl) (by rfl) (fun K hK => ?_)
        have p0 := P5.out.c0
        have p1' := P5.out.c1
        have p2' := P5.out.c2
        have p3 := P5.out.c3
        have pl := P5.out.lt
        have pf := P5.out.fz
        go_simp
        have R : Hid (KaRel l w w4.heap.size k g cap dd (.int .i64 0) (put4 w5 (w4.heap.size) (.slice a5 80 c5) (.slice p5 0 e5) (-1) false)) := ⟨_, d', a5, c5, p5, e5, rfl, rfl, HQ.out, P5.out.put (.slice a5 80 c5) (.slice p5 0 e5) (-1) false, H5.out.put P5.out (fun s => by simp) (fun s => by simp) (.slice a5 80 c5) (.slice p5 0 e5) (-1) false, R5.out.put HG6.out.1 (.slice a5 80 c5) (.slice p5 0 e5) (-1) false, K5.out.put P5.out (fun s => by simp) (fun s => by simp) (.slice a5 80 c5) (.slice p5 0 e5) (-1) false, below_put B5.out GW.out (.slice a5 80 c5) (.slice p5 0 e5) (-1) false⟩
        have B6 := Lib.hid (below_put B5.out (g := w4.heap.size) GW.out (.slice a5 80 c5) (.slice p5 0 e5) (-1) false)
        refine hK.out _ _ ?_ (fun hHeld => ?_)
        · exact (B6.out.cell (p := ⟨lg, lo + k, none⟩) GX.out.1).trans GX.out.2
        clear hK K
        try simp only [Act.put, List.setIfInBounds_toArray, List.set_cons_zero, List.set_cons_succ]
        refine takeN10 (v := ?_) (by kernel_rfl) (by kernel_rfl) (by kernel_rfl) (fun _ _ _ h => h) (by rfl) ?_ (by assumption) ?_
        rotate_left
        · intro wz hSw
          try dsimp only at hSw
          go_simp
          try with_reducible rfl
        try simp only [Act.put, List.setIfInBounds_toArray, List.set_cons_zero, List.set_cons_succ]
        refine wpAnyH_done (by kernel_rfl) ?_ _
        clear p0 p1' p2' p3 pl pf g3 g4
        go_wp2_with fail
        go_meet
        exact R.out
      case rest =>
      clear HP HH HR HK HB HF HAP
      obtain ⟨wv, d2, a2, c2, p2, e2, hw, rfl, hF, hP, hH, hR, hKd, hB⟩ := hcut
      subst hw
      have HF := Lib.hid hF
      have P1 := Lib.hid (hP.next (Below.new1 (.cells #[.slice a2 80 c2, .slice p2 0 e2, .int .i64 (-1), .bool false] 27)))
      have H1 := Lib.hid (hH.next (Below.new1 (.cells #[.slice a2 80 c2, .slice p2 0 e2, .int .i64 (-1), .bool false] 27)))
      have R1 := Lib.hid (hR.next (Below.new1 (.cells #[.slice a2 80 c2, .slice p2 0 e2, .int .i64 (-1), .bool false] 27)))
      have K1 := Lib.hid (hKd.next (Below.new1 (.cells #[.slice a2 80 c2, .slice p2 0 e2, .int .i64 (-1), .bool false] 27)))
      have B1 := Lib.hid (chain hB (Below.new1 (.cells #[.slice a2 80 c2, .slice p2 0 e2, .int .i64 (-1), .bool false] 27)))
      have x0 := hP.c0
      have x1 := hP.c1
      have x2 := hP.c2
      have x3 := hP.c3
      have xl := hP.lt
      have XL := Lib.hid xl
      have hsz : (wv.alloc (.cells #[.slice a2 80 c2, .slice p2 0 e2, .int .i64 (-1), .bool false] 27)).heap.size = wv.heap.size + 1 := by simp
      have HSZ := Lib.hid hsz
      clear hF hP hH hR hKd hB hsz
      go_wp2_with (at_builtin; refine wpList_append_ds rfl (.tmp 57) (.tmp 59) rfl g cap dd R1.out (by rw [HDL.out]; rfl) ⟨wv.heap.size, 0, none⟩ 1 (.slice a2 80 c2, .slice p2 0 e2) rfl ?f1 ?f2 ?f3 ?f4 (k + 1) HDL.out ?_)
      case f1 =>
        intro j u hu
        rw [add_plain, Nat.zero_add, World.cell?_alloc_new]
        simpa [dC] using hu
      case f2 => intro u hu; simp [dC] at hu; rcases hu with rfl | rfl | rfl | rfl <;> rfl
      case f3 => intro s hs; simp [dC] at hs
      case f4 => rw [HDL.out]; omega
      intro g' cap' w' hR' hgr hg'
      have P2 := Lib.hid (Bx.grown P1.out HG6.out.1.symm hgr)
      have H2 := Lib.hid (DAt.grown H1.out HF.out.check.2.2 R1.out hgr)
      have K2 := Lib.hid ((K1.out.grown R1.out hgr).snoc HDL.out HF.out H2.out)
      have B2 := Lib.hid (B1.out.grown hgr B1.out.size (fun j hj => by cases hj; exact HG6.out.2))
      have HR' := Lib.hid hR'
      have G2 : Hid (g' ≠ w4.heap.size ∧ w.heap.size ≤ g') := by
        show _ ∧ _
        have h1 := HG6.out
        have h2 := XL.out
        have h3 := GW.out
        rcases hg' with k | k
        · rw [k]; exact h1
        · have h4 := HSZ.out; omega
      have HL2 : Hid ((dd ++ [((Value.slice a2 80 c2 : Value), (Value.slice p2 0 e2 : Value))]).length = k + 1 + 1) := by show _ = _; rw [List.length_append, HDL.out]; rfl
      clear hR' hgr hg' x0 x1 x2 x3 xl
      go_wp2_with fail
      go_roundw
      case rel => exact ⟨k + 1, g', cap', dd ++ [(.slice a2 80 c2, .slice p2 0 e2)], d2, a2, c2, p2, e2, by omega, rfl, by congr 1, rfl, HL2.out, HF.out, P2.out, H2.out, HR'.out, G2.out, K2.out, B2.out⟩
      case measure => simp [intOf]; omega
    case neg =>
      obtain rfl : k = l.length := by omega
      clear cc HP HH
      have LR := Lib.hid (HL0.out.next HB.out)
      obtain ⟨wq, hwq⟩ : ∃ x, x = wr := ⟨_, rfl⟩
      subst hwq
      have BQ := Lib.hid HB.out
      clear HB
      go_wp2_with fail
      go_loopw [10] (fun i wr => CntRel (l.length + 1) wq i wr) (fun i _ => l.length + 1 - (intOf i).toNat)
      case atStart => exact ⟨0, Nat.zero_le _, rfl, Below.refl _ _⟩
      case round =>
        obtain ⟨k2, hk2, rfl, hb2⟩ := hrel
        have BB := Lib.hid hb2
        have k20 : (0 : Int) ≤ (k2 : Int) := by omega
        clear hb2
        by_cases c2 : k2 < l.length + 1
        case neg =>
          have c20 : ¬ (k2 : Int) < (l.length : Int) + 1 := by omega
          clear c2
          go_wp2_with fail
          go_ret
          exact ⟨by rfl, chain BQ.out BB.out⟩
        case pos =>
          have c20 : (k2 : Int) < (l.length : Int) + 1 := by omega
          obtain ⟨q3, hq3⟩ : ∃ q, dd[k2]? = some q := ⟨_, List.getElem?_eq_getElem (by have := HDL.out; omega)⟩
          obtain ⟨a3, c3, p3, e3, d3, rfl, hF3, hD3⟩ := HK.out k2 q3 hq3
          have HF3 := Lib.hid hF3
          have HQ3 : Hid (∀ W, Below wq.heap.size wq W → DAt W (.agg #[.slice a3 80 c3, .slice p3 0 e3, .int .i64 (-1), .bool false]) d3) := fun W hW => hD3.next hW
          have CQ : Hid (∀ W, Below wq.heap.size wq W → W.cell? ⟨g, k2 * 4, none⟩ = some (.slice a3 80 c3) ∧ W.cell? ⟨g, k2 * 4 + 1, none⟩ = some (.slice p3 0 e3) ∧ W.cell? ⟨g, k2 * 4 + 2, none⟩ = some (.int .i64 (-1)) ∧ W.cell? ⟨g, k2 * 4 + 3, none⟩ = some (.bool false) ∧ g < W.heap.size) := by
            show ∀ W, _
            intro W hW
            have hR := HR.out.next hW
            exact ⟨hR.cell (i := 0) hq3 (by decide), hR.cell (i := 1) hq3 (by decide), hR.cell (i := 2) hq3 (by decide), hR.cell (i := 3) hq3 (by decide), hR.lt⟩
          obtain ⟨f1, f2, f3, f4, f5, f6⟩ := hF3.cutS
          have E1 := Lib.hid f1
          have E2 := Lib.hid f2
          have E3 := Lib.hid f3
          have E4 := Lib.hid f4
          have E6 := Lib.hid f6
          obtain ⟨T, hT⟩ : ∃ T, l.take k2 = T := ⟨_, rfl⟩
          rw [hT] at f5 HF3
          have E5 := Lib.hid f5
          have HTT := Lib.hid hT
          have hTl : T.length = k2 := by rw [← hT, List.length_take]; omega
          have LT : Hid (T.length ≤ 1099511627776) := by show _ ≤ _; omega
          have TK : Hid (∀ W, LAt W (.slice sa l.length sc) l → LAt W (.slice sa k2 sc) T) := by
            show ∀ W, _
            intro W hW
            rw [← hT]
            exact lat_take hW (by omega)
          have ks : (k2 : Int) ≤ (sc : Int) := by omega
          have Ll := Lib.hid (LR.out.next BB.out)
          clear hq3 hF3 hD3 f1 f2 f3 f4 f5 f6 hT hTl
          obtain ⟨r0, r1, r2, r3, rl⟩ := CQ.out _ BB.out
          have HC := Lib.hid (conv_sh (ok.cut _ d3 _ (HQ3.out _ BB.out) HF3.out.fit) E1.out E3.out rfl rfl rfl)
          go_wp2_with fail
          refine HC.out.mono ?_
          rintro r w21 ⟨a21, c21, p21, e21, rfl, h21, b21⟩
          clear HC
          have Ml := Lib.hid (Ll.out.next (b21))
          clear Ll
          have Ll := Lib.hid Ml.out
          clear Ml
          have BB' := Lib.hid (chain BB.out (b21))
          clear BB
          have BB := Lib.hid BB'.out
          clear BB'
          have h21' := Lib.hid (h21.next (Below.new1 (.cells #[.slice a21 80 c21, .slice p21 0 e21, .int .i64 (-1), .bool true] 27)))
          clear h21 b21
          have Ml := Lib.hid (Ll.out.next (Below.new1 (.cells #[.slice a21 80 c21, .slice p21 0 e21, .int .i64 (-1), .bool true] 27)))
          clear Ll
          have Ll := Lib.hid Ml.out
          clear Ml
          have BB' := Lib.hid (chain BB.out (Below.new1 (.cells #[.slice a21 80 c21, .slice p21 0 e21, .int .i64 (-1), .bool true] 27)))
          clear BB
          have BB := Lib.hid BB'.out
          clear BB'
          have Py := Lib.hid (Bx.new w21 (.slice a21 80 c21) (.slice p21 0 e21) (-1) true 27)
          have Hy := Lib.hid h21'.out
          clear h21'
          clear r0 r1 r2 r3 rl
          have x0 := Py.out.c0
          have x1 := Py.out.c1
          have x2 := Py.out.c2
          have x3 := Py.out.c3
          have xl := Py.out.lt
          have HC := Lib.hid (conv_sh (ok.start _ (ds d3.secs (-1) true) _ Hy.out (fit_right E2.out)) E4.out E3.out rfl rfl rfl)
          go_wp2_with fail
          refine HC.out.mono ?_
          rintro r w22 ⟨a22, c22, p22, e22, rfl, h22, b22⟩
          clear HC x0 x1 x2 x3 xl
          have Qy := Lib.hid (Py.out.next (b22))
          have Iy := Lib.hid (Hy.out.next (b22))
          clear Py Hy
          have Py := Lib.hid Qy.out
          have Hy := Lib.hid Iy.out
          clear Qy Iy
          have Ml := Lib.hid (Ll.out.next (b22))
          clear Ll
          have Ll := Lib.hid Ml.out
          clear Ml
          have BB' := Lib.hid (chain BB.out (b22))
          clear BB
          have BB := Lib.hid BB'.out
          clear BB'
          have h22' := Lib.hid (h22.next (Below.new1 (.cells #[.slice a22 80 c22, .slice p22 0 e22, .int .i64 (-1), .bool false] 27)))
          clear h22 b22
          have Qy := Lib.hid (Py.out.next (Below.new1 (.cells #[.slice a22 80 c22, .slice p22 0 e22, .int .i64 (-1), .bool false] 27)))
          have Iy := Lib.hid (Hy.out.next (Below.new1 (.cells #[.slice a22 80 c22, .slice p22 0 e22, .int .i64 (-1), .bool false] 27)))
          clear Py Hy
          have Py := Lib.hid Qy.out
          have Hy := Lib.hid Iy.out
          clear Qy Iy
          have Ml := Lib.hid (Ll.out.next (Below.new1 (.cells #[.slice a22 80 c22, .slice p22 0 e22, .int .i64 (-1), .bool false] 27)))
          clear Ll
          have Ll := Lib.hid Ml.out
          clear Ml
          have BB' := Lib.hid (chain BB.out (Below.new1 (.cells #[.slice a22 80 c22, .slice p22 0 e22, .int .i64 (-1), .bool false] 27)))
          clear BB
          have BB := Lib.hid BB'.out
          clear BB'
          have Pz := Lib.hid (Bx.new w22 (.slice a22 80 c22) (.slice p22 0 e22) (-1) false 27)
          have Hz := Lib.hid h22'.out
          clear h22'
          obtain ⟨r0, r1, r2, r3, rl⟩ := CQ.out _ BB.out
          have HC := Lib.hid (conv_all (jk.all _ d3 _ (HQ3.out _ BB.out) HF3.out.fit) HF3.out.all)
          go_wp2_with fail
          refine HC.out.mono ?_
          rintro r w23 ⟨a23, c23, rfl, h23, b23⟩
          clear HC
          have Qy := Lib.hid (Py.out.next (b23))
          have Iy := Lib.hid (Hy.out.next (b23))
          have Qz := Lib.hid (Pz.out.next (b23))
          have Iz := Lib.hid (Hz.out.next (b23))
          clear Py Hy Pz Hz
          have Py := Lib.hid Qy.out
          have Hy := Lib.hid Iy.out
          have Pz := Lib.hid Qz.out
          have Hz := Lib.hid Iz.out
          clear Qy Iy Qz Iz
          have Ml := Lib.hid (Ll.out.next (b23))
          clear Ll
          have Ll := Lib.hid Ml.out
          clear Ml
          have BB' := Lib.hid (chain BB.out (b23))
          clear BB
          have BB := Lib.hid BB'.out
          clear BB'
          have La := Lib.hid h23
          clear h23 b23 r0 r1 r2 r3 rl
          have x0 := Pz.out.c0
          have x1 := Pz.out.c1
          have x2 := Pz.out.c2
          have x3 := Pz.out.c3
          have xl := Pz.out.lt
          have HC := Lib.hid (conv_all (jk.all _ (ds d3.secs (-1) false) _ Hz.out (fit_right E6.out)) E5.out)
          go_wp2_with fail
          refine HC.out.mono ?_
          rintro r w24 ⟨a24, c24, rfl, h24, b24⟩
          clear HC x0 x1 x2 x3 xl
          have Qy := Lib.hid (Py.out.next (b24))
          have Iy := Lib.hid (Hy.out.next (b24))
          have Qz := Lib.hid (Pz.out.next (b24))
          have Iz := Lib.hid (Hz.out.next (b24))
          clear Py Hy Pz Hz
          have Py := Lib.hid Qy.out
          have Hy := Lib.hid Iy.out
          have Pz := Lib.hid Qz.out
          have Hz := Lib.hid Iz.out
          clear Qy Iy Qz Iz
          have Ml := Lib.hid (Ll.out.next (b24))
          have Ma := Lib.hid (La.out.next (b24))
          clear Ll La
          have Ll := Lib.hid Ml.out
          have La := Lib.hid Ma.out
          clear Ml Ma
          have BB' := Lib.hid (chain BB.out (b24))
          clear BB
          have BB := Lib.hid BB'.out
          clear BB'
          have Lb := Lib.hid h24
          clear h24 b24
          have HC := Lib.hid (same_b (t := true) La.out (TK.out _ Ll.out) LT.out LT.out (decide_eq_true rfl))
          go_wp2_with fail
          refine HC.out.mono ?_
          rintro r w25 ⟨rfl, b25⟩
          clear HC
          have Qy := Lib.hid (Py.out.next (b25))
          have Iy := Lib.hid (Hy.out.next (b25))
          have Qz := Lib.hid (Pz.out.next (b25))
          have Iz := Lib.hid (Hz.out.next (b25))
          clear Py Hy Pz Hz
          have Py := Lib.hid Qy.out
          have Hy := Lib.hid Iy.out
          have Pz := Lib.hid Qz.out
          have Hz := Lib.hid Iz.out
          clear Qy Iy Qz Iz
          have Ml := Lib.hid (Ll.out.next (b25))
          have Ma := Lib.hid (La.out.next (b25))
          have Mb := Lib.hid (Lb.out.next (b25))
          clear Ll La Lb
          have Ll := Lib.hid Ml.out
          have La := Lib.hid Ma.out
          have Lb := Lib.hid Mb.out
          clear Ml Ma Mb
          have BB' := Lib.hid (chain BB.out (b25))
          clear BB
          have BB := Lib.hid BB'.out
          clear BB'
          clear b25
          have HC := Lib.hid (same_b (t := true) Lb.out La.out LT.out LT.out (decide_eq_true rfl))
          go_wp2_with fail
          refine HC.out.mono ?_
          rintro r w26 ⟨rfl, b26⟩
          clear HC
          have Qy := Lib.hid (Py.out.next (b26))
          have Iy := Lib.hid (Hy.out.next (b26))
          have Qz := Lib.hid (Pz.out.next (b26))
          have Iz := Lib.hid (Hz.out.next (b26))
          clear Py Hy Pz Hz
          have Py := Lib.hid Qy.out
          have Hy := Lib.hid Iy.out
          have Pz := Lib.hid Qz.out
          have Hz := Lib.hid Iz.out
          clear Qy Iy Qz Iz
          have Ml := Lib.hid (Ll.out.next (b26))
          have Ma := Lib.hid (La.out.next (b26))
          have Mb := Lib.hid (Lb.out.next (b26))
          clear Ll La Lb
          have Ll := Lib.hid Ml.out
          have La := Lib.hid Ma.out
          have Lb := Lib.hid Mb.out
          clear Ml Ma Mb
          have BB' := Lib.hid (chain BB.out (b26))
          clear BB
          have BB := Lib.hid BB'.out
          clear BB'
          clear b26
          go_wp2_with fail
          go_loopw [19] (fun i wr => CntRel k2 w26 i wr) (fun i _ => k2 - (intOf i).toNat)
          case atStart => exact ⟨0, Nat.zero_le _, rfl, Below.refl _ _⟩
          case round =>
            obtain ⟨m, hm, rfl, hb3⟩ := hrel
            have B3 := Lib.hid hb3
            have m0 : (0 : Int) ≤ (m : Int) := by omega
            clear hb3
            by_cases cm : m < k2
            case neg =>
              have cm0 : ¬ (m : Int) < (k2 : Int) := by omega
              clear cm
              go_wp2_with fail
              go_roundw
              case rel => exact ⟨k2 + 1, by omega, by congr 1, chain BB.out B3.out⟩
              case measure => simp [intOf]; omega
            case pos =>
              have cm0 : (m : Int) < (k2 : Int) := by omega
              obtain ⟨x, hx⟩ : ∃ s, l[m]? = some s := ⟨_, List.getElem?_eq_getElem (by omega)⟩
              obtain ⟨lg, lo, rfl, g1, g2⟩ := HG.out m x hx
              have hx2 : T[m]? = some x := by rw [← HTT.out, List.getElem?_take_of_lt cm]; exact hx
              have hgv : Hid (getV (ds d3.secs (-1) false) (m : Int) = (mkB x, 0)) := by
                show _ = _
                unfold getV
                rw [E5.out, if_pos rfl]
                show (if 0 ≤ (m : Int) ∧ (m : Int) < (T.length : Int) then _ else _) = _
                have := (List.getElem?_eq_some_iff.1 hx2).1
                rw [if_pos ⟨m0, by omega⟩, Int.toNat_natCast]
                show (mkB ((T[m]?).getD []), (0 : Int)) = _
                rw [hx2]
                rfl
              have ml : (m : Int) < (l.length : Int) := by omega
              have GX : Hid (lg < w.heap.size ∧ w.cell? ⟨lg, lo + m, none⟩ = some (.string (mkB x))) := ⟨g1, g2⟩
              have Pz3 := Lib.hid (Pz.out.next B3.out)
              have Hz3 := Lib.hid (Hz.out.next B3.out)
              have HGE : Hid (∀ W, DAt W (.agg #[.slice a22 80 c22, .slice p22 0 e22, .int .i64 (-1), .bool false]) (ds d3.secs (-1) false) → Calls Tryd.prog 23 #[.agg #[.slice a22 80 c22, .slice p22 0 e22, .int .i64 (-1), .bool false], .int .i64 (m : Int)] W fun r w' => r = .returned (.tuple #[.string (mkB x), .int .i64 0]) ∧ Below W.heap.size W w') := by
                show ∀ W, _
                intro W hW
                have h := jk.get _ (ds d3.secs (-1) false) (m : Int) W hW (fit_right E6.out) (by unfold I64; omega)
                rw [hgv.out] at h
                exact h
              have x0 := Pz3.out.c0
              have x1 := Pz3.out.c1
              have x2 := Pz3.out.c2
              have x3 := Pz3.out.c3
              have xl := Pz3.out.lt
              clear hx hx2 g1 g2
              go_wp2_with fail
              refine (HGE.out _ Hz3.out).mono ?_
              rintro r w30 ⟨rfl, b30⟩
              have B30 := Lib.hid (chain B3.out b30)
              have BW := chain BQ.out (chain BB.out B30.out)
              have g3 : w30.cell? ⟨lg, lo + m, none⟩ = some (.string (mkB x)) := (BW.cell (p := ⟨lg, lo + m, none⟩) GX.out.1).trans GX.out.2
              have g4 : lg < w30.heap.size := Nat.lt_of_lt_of_le GX.out.1 BW.size
              clear b30 x0 x1 x2 x3 xl BW cm
              go_wp2_with fail
              go_roundw
              case rel => exact ⟨m + 1, by omega, by congr 1, B30.out⟩
              case measure => simp [intOf]; omega

end Go.Proofs.YtemldlhhlneleaaDoor.Jn
