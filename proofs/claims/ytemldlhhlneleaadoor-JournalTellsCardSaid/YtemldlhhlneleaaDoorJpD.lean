/-
  The program's journal: header, store.
-/
import Derived.Test.YtemldlhhlneleaaDoorJpC
import Derived.Test.YtemldlhhlneleaaDoorJlB
import Derived.Test.YtemldlhhlneleaaDoorHand
namespace Go.Proofs.YtemldlhhlneleaaDoor.Jn
open Go.RowKit Dk Wi

theorem hd_zero : ∀ k : Nat, hd k 0 = List.replicate k 48
  | 0 => rfl
  | k + 1 => by
    show hd k (0 / 10) ++ [_] = _
    rw [Nat.zero_div, hd_zero k, List.replicate_succ']
    rfl
theorem hd_dec : ∀ (k n : Nat), n < 10 ^ (k + 1) → (Lib.decDigits n).length ≤ k + 1 ∧ hd (k + 1) n = List.replicate (k + 1 - (Lib.decDigits n).length) 48 ++ Lib.decDigits n
  | k, n, h => by
    by_cases c : n < 10
    · rw [Lib.decDigits_one c]
      refine ⟨by simp, ?_⟩
      show hd k (n / 10) ++ [_] = _
      rw [Nat.div_eq_of_lt c, hd_zero, Nat.mod_eq_of_lt c]
      rfl
    · match k, h with
      | 0, h => exact absurd (by simpa using h) c
      | k + 1, h =>
        obtain ⟨h1, h2⟩ := hd_dec k (n / 10) (by rw [Nat.pow_succ] at h; omega)
        have e : Lib.decDigits n = Lib.decDigits (n / 10) ++ [UInt8.ofNat (48 + n % 10)] := by rw [Lib.decDigits, dif_neg c]
        rw [e, List.length_append, List.length_singleton]
        refine ⟨by omega, ?_⟩
        show hd (k + 1) (n / 10) ++ [_] = _
        rw [h2, ← List.append_assoc]
        congr 3
        omega
theorem rep_one (c : Nat) : Lib.repeatL [48] c = List.replicate c 48 := by
  induction c with
  | zero => rfl
  | succ c ih => show [48] ++ Lib.repeatL [48] c = _; rw [ih]; rfl
theorem below_grow (w : World) (k : Nat) (os : Array Obj) : Below w.heap.size w (Go.Sort.grow (w.drewN k) os) :=
  ⟨rfl, rfl, rfl, by simp [Go.Sort.grow], fun j hj => Go.Sort.heap_grow_old (w.drewN k) os hj⟩
set_option maxRecDepth 100000 in
theorem header_x (n : Nat) (w : World) (hn : n < 100000000) (ht : Tb w) :
    Calls Tryd.prog 42 #[.int .i64 (n : Int)] w fun r w' => r = .returned (.string (Jn.header n)) ∧ Below w.heap.size w w' := by
  have HI : Hid (Calls Tryd.prog 60 #[.int .i64 (n : Int)] w fun e w' => e = .returned (.string (mkB (Lib.decDigits n))) ∧ Below w.heap.size w w') := by
    refine (Tryd.strconv_Itoa (n : Int) (by omega) (by omega) w ht.tab).mono ?_
    rintro e w' ⟨rfl, k, os, rfl⟩
    refine ⟨?_, below_grow w k os⟩
    rw [Lib.itoa, if_neg (by omega), Int.toNat_natCast]
    rfl
  obtain ⟨h1, h2⟩ := hd_dec 7 n hn
  have H2 := Lib.hid h2
  clear h2
  obtain ⟨q, hq⟩ : ∃ q, 8 - (Lib.decDigits n).length = q := ⟨_, rfl⟩
  have HQ := Lib.hid hq
  have q8 : q ≤ 8 := by omega
  have e8 : (8 : Int) - ((mkB (Lib.decDigits n)).size : Int) = (q : Int) := by rw [mkB_size]; omega
  have HR : Hid (∀ W, Calls Tryd.prog 46 #[.string ⟨#[48]⟩, .int .i64 (q : Int)] W fun e w' => e = .returned (.string (mkB (List.replicate q 48))) ∧ Below W.heap.size W w') := by
    show ∀ W, _
    intro W
    have := Tryd.strings_Repeat ⟨#[48]⟩ q W (by omega) (by show 1 * q ≤ _; omega)
    rw [← rep_one]
    exact this
  have qz : (mkB (List.replicate q (48 : UInt8))).size = q := by rw [mkB_size, List.length_replicate]
  have dz : (mkB (Lib.decDigits n)).size ≤ 8 := by rw [mkB_size]; omega
  clear hn ht hq
  go_enter Tryd.func42, Tryd.ntmps42
  go_wp2_with fail
  refine HI.out.mono ?_
  rintro r w1 ⟨rfl, b1⟩
  have B1 := Lib.hid b1
  clear b1 HI
  go_wp2_with fail
  refine (HR.out _).mono ?_
  rintro r w2 ⟨rfl, b2⟩
  have B2 := Lib.hid (chain B1.out b2)
  clear b2 HR
  have hx : mkB (List.replicate q 48) ++ mkB (Lib.decDigits n) = mkB (hd 8 n) := by rw [mkB_app, mkB_list, H2.out, ← HQ.out]
  have hz : (mkB (hd 8 n)).size = 8 := by rw [mkB_size, hd_len]
  go_wp2_with fail
  go_ret
  exact ⟨by unfold Jn.header; congr 2; try exact mkB_app _ _, B2.out⟩

/-! store -/
def cws (p : Nat) (t : S) (k : Nat) : List (Int × B) := (List.range k).map fun (i : Nat) => (((p : Int) + (i : Int)), pad (txt t i))
theorem cws_succ (p : Nat) (t : S) (k : Nat) : cws p t (k + 1) = cws p t k ++ [((p : Int) + (k : Int), pad (txt t k))] := by
  unfold cws
  rw [List.range_succ, List.map_append]
  rfl
theorem cws_len (p : Nat) (t : S) (k : Nat) : (cws p t k).length = k := by unfold cws; rw [List.length_map, List.length_range]
theorem cws_wsF (F : S) (a k : Nat) : cws (2 + a) (F.drop (16 * a)) k = wsF F a k := by
  unfold cws wsF
  rw [List.range'_eq_map_range, List.map_map]
  refine List.map_congr_left fun i _ => ?_
  show (((2 + a : Nat) : Int) + (i : Int), _) = (((2 + (a + i) : Nat) : Int), _)
  congr 1
  · omega
  · unfold txt
    rw [List.drop_drop, Nat.mul_add]
def stD (secs : List B) (left : Int) (p : Nat) (t : S) (k : Nat) : D := ⟨secs, cws p t k, left, false⟩
theorem st_check {secs : List B} {left : Int} {p k : Nat} {t : S} (h : checkB (dk secs left) = true) (hk : p + k ≤ secs.length) : checkB (stD secs left p t k) = true := by
  obtain ⟨⟨n1, n2, n3, n4, n5⟩, hs, -, -⟩ := check_iff.1 h
  refine check_iff.2 ⟨⟨n1, n2, ?_, n4, n5⟩, hs, fun x hx => ?_, fun e => by cases e⟩
  · show (cws p t k).length ≤ 512
    rw [cws_len]
    have : secs.length ≤ 512 := n2
    omega
  · obtain ⟨i, hi, rfl⟩ := List.mem_map.1 hx
    have := List.mem_range.1 hi
    refine ⟨?_, ?_, txt_size _ _⟩
    · show (0 : Int) ≤ (p : Int) + (i : Int); omega
    · show (p : Int) + (i : Int) < (secs.length : Int); omega
theorem st_wr {secs : List B} {left : Int} {p k : Nat} {t : S} (h : checkB (dk secs left) = true) (hk : p + k < secs.length) : wrV (stD secs left p t k) ((p : Int) + (k : Int)) (txt t k) = (stD secs left p t (k + 1), 0) := by
  have c1 : checkB (stD secs left p t k) = true := st_check h (by omega)
  have n2 : secs.length ≤ 512 := (check_iff.1 h).1.2.1
  have hz : (txt t k).size ≤ 16 := by show ((t.drop (16 * k)).take 16).length ≤ 16; rw [List.length_take]; omega
  unfold wrV
  rw [if_pos (upE_zero.2 ⟨c1, rfl⟩), if_pos ⟨by omega, by show _ < (secs.length : Int); omega, hz⟩, if_pos (by show (cws p t k).length < 512; rw [cws_len]; omega)]
  unfold stD
  rw [cws_succ]
def StRel (secs : List B) (left : Int) (p : Nat) (t : S) (w : World) (i x : Value) (wr : World) : Prop := ∃ (k : Nat) (a : Option Addr) (c : Nat) (b : Option Addr) (c2 : Nat), 16 * k < t.length + 16 ∧ i = .int .i64 ((p : Int) + (k : Int)) ∧ x = .string (mkB (t.drop (16 * k))) ∧
  Bx (.slice a secs.length c) (.slice b k c2) left false w.heap.size wr ∧ Bx (.slice none 0 0) (.slice none 0 0) 0 false (w.heap.size + 1) wr ∧ DAt wr (.agg #[.slice a secs.length c, .slice b k c2, .int .i64 left, .bool false]) (stD secs left p t k) ∧ Below w.heap.size w wr

set_option maxHeartbeats 1600000 in
set_option maxRecDepth 100000 in
theorem store_x (ok : DiskOk) (secs : List B) (left : Int) (p : Nat) (t : S) (a0 : Option Addr) (c0 : Nat) (b0 : Option Addr) (e0 : Nat) (w : World) (h : DAt w (.agg #[.slice a0 secs.length c0, .slice b0 0 e0, .int .i64 left, .bool false]) (dk secs left)) (hc : checkB (dk secs left) = true) (hK : p + (t.length + 15) / 16 ≤ secs.length) (ht : t.length ≤ 100000) :
    Calls Tryd.prog 41 #[.agg #[.slice a0 secs.length c0, .slice b0 0 e0, .int .i64 left, .bool false], .int .i64 (p : Int), .string (mkB t)] w fun r w' => ∃ x, r = .returned (.tuple #[x, .int .i64 (flV (stD secs left p t ((t.length + 15) / 16))).2]) ∧ DAt w' x (flV (stD secs left p t ((t.length + 15) / 16))).1 ∧ Below w.heap.size w w' := by
  have n2 : secs.length ≤ 512 := (check_iff.1 hc).1.2.1
  have HC := Lib.hid hc
  have HK := Lib.hid hK
  have HT := Lib.hid ht
  have R0 : Hid (StRel secs left p t w (.int .i64 (p : Int)) (.string (mkB t)) ((w.alloc (.cells #[.slice a0 secs.length c0, .slice b0 0 e0, .int .i64 left, .bool false] 27)).alloc (.cells #[.slice none 0 0, .slice none 0 0, .int .i64 0, .bool false] 27))) := by
    refine ⟨0, a0, c0, b0, e0, by omega, by congr 1; try simp, by rw [Nat.mul_zero, List.drop_zero], (Bx.new _ _ _ _ _ _).next (Below.new1 _), ?_, (h.next (Below.new1 _)).next (Below.new1 _), chain (Below.new1 _) (Below.new1 _)⟩
    have hy := Bx.new (w.alloc (.cells #[.slice a0 secs.length c0, .slice b0 0 e0, .int .i64 left, .bool false] 27)) (.slice none 0 0) (.slice none 0 0) 0 false 27
    rw [show (w.alloc (.cells #[.slice a0 secs.length c0, .slice b0 0 e0, .int .i64 left, .bool false] 27)).heap.size = w.heap.size + 1 by simp] at hy
    exact hy
  clear h hc hK ht
  go_enter Tryd.func41, Tryd.ntmps41
  go_wp2_with fail
  go_loopw [1, 2] (fun i x wr => StRel secs left p t w i x wr) (fun _ x _ => match x with | .string s => s.size | _ => 0)
  case atStart => exact R0.out
  case round =>
    clear R0
    obtain ⟨k, a, c, b, c2, hk, rfl, rfl, hP, hY, hH, hB⟩ := hrel
    have HP := Lib.hid hP
    have HY := Lib.hid hY
    have HH := Lib.hid hH
    have HB := Lib.hid hB
    have HKK := Lib.hid hk
    have kk : k ≤ (t.length + 15) / 16 := by omega
    have k5 : p + k ≤ 512 := by have := HK.out; omega
    have p0 := hP.c0
    have p1' := hP.c1
    have p2' := hP.c2
    have p3 := hP.c3
    have pl := hP.lt
    obtain ⟨u, hu⟩ : ∃ u, t.drop (16 * k) = u := ⟨_, rfl⟩
    have ul : u.length = t.length - 16 * k := by rw [← hu, List.length_drop]
    have UL := Lib.hid ul
    have HU := Lib.hid hu
    rw [hu]
    have u5 : u.length ≤ 100000 := by have := HT.out; omega
    have US : Hid ((mkB u).size = u.length) := rfl
    clear hP hY hH hB hk hu
    by_cases cc : u = []
    case pos =>
      have c1 : (mkB u).toList.isEmpty = true := by rw [toList_data, cc]; rfl
      have ke : k = (t.length + 15) / 16 := by
        rw [cc] at ul
        have : t.length - 16 * k = 0 := ul.symm
        omega
      have KE := Lib.hid ke
      obtain ⟨⟨fd, fe⟩, hfl⟩ : ∃ q, flV (stD secs left p t k) = q := ⟨_, rfl⟩
      have HFL : Hid (Calls Tryd.prog 59 #[.agg #[.slice a secs.length c, .slice b k c2, .int .i64 left, .bool false]] wr fun r w' => ∃ a c b c2, r = .returned (.tuple #[.agg #[.slice a fd.secs.length c, .slice b fd.pend.length c2, .int .i64 fd.left, .bool fd.down], .int .i64 fe]) ∧ DAt w' (.agg #[.slice a fd.secs.length c, .slice b fd.pend.length c2, .int .i64 fd.left, .bool fd.down]) fd ∧ Below wr.heap.size wr w') := by
        show Calls _ _ _ _ _
        exact conv_d (ok.flush _ (stD secs left p t k) wr HH.out (fit_right (st_check HC.out (by have := HK.out; omega)))) hfl
      have HV : Hid (flV (stD secs left p t ((t.length + 15) / 16)) = (fd, fe)) := by show _ = _; rw [← KE.out]; exact hfl
      clear hfl ke cc ul u5
      go_wp2_with fail
      refine HFL.out.mono ?_
      rintro r w5 ⟨a5, c5, b5', e5, rfl, h5, b5⟩
      have HY5 := Lib.hid (HY.out.next b5)
      have HB5 := Lib.hid (chain HB.out b5)
      have H5 := Lib.hid h5
      have y0 := HY5.out.c0
      have y1 := HY5.out.c1
      have y2 := HY5.out.c2
      have y3 := HY5.out.c3
      have yl := HY5.out.lt
      have yf := HY5.out.fz
      have H6 := Lib.hid (H5.out.put HY5.out (fun s => by simp) (fun s => by simp) (.slice a5 fd.secs.length c5) (.slice b5' fd.pend.length e5) fd.left fd.down)
      have B6 := Lib.hid (below_put HB5.out (g := w.heap.size + 1) (Nat.le_succ _) (.slice a5 fd.secs.length c5) (.slice b5' fd.pend.length e5) fd.left fd.down)
      clear b5 h5 p0 p1' p2' p3 pl HFL
      go_wp2_with fail
      exact bodyPost_ret (v := .tuple #[.agg #[.slice a5 fd.secs.length c5, .slice b5' fd.pend.length e5, .int .i64 fd.left, .bool fd.down], .int .i64 fe]) (by simp [results, Tryd.results41, go_sem, y0, y1, y2, y3]) rfl ⟨_, by rw [HV.out], by rw [HV.out]; exact H6.out, B6.out⟩
    case neg =>
      have c1 : (mkB u).toList.isEmpty = false := by
        rw [toList_data]
        cases u with
        | nil => exact absurd rfl cc
        | cons x y => rfl
      have u0 : 0 < u.length := List.length_pos_iff.2 cc
      have hlt : p + k < secs.length := by have := HK.out; omega
      obtain ⟨q, hq⟩ : ∃ q, (if 16 < u.length then 16 else u.length) = q := ⟨_, rfl⟩
      have qi : min ((mkB u).size : Int) 16 = (q : Int) := by
        rw [US.out, ← hq]
        split <;> omega
      have q1 : q ≤ u.length ∧ q ≤ 16 ∧ 0 < q := by rw [← hq]; split <;> omega
      have q2 : (q : Int) ≤ ((mkB u).size : Int) := by rw [US.out]; omega
      have q3 : (0 : Int) ≤ (q : Int) := by omega
      have hx : (mkB u).extract 0 q = txt t k := by
        refine (extract_to u q).trans ?_
        show mkB (u.take q) = mkB ((t.drop (16 * k)).take 16)
        rw [HU.out]
        congr 1
        rw [← hq]
        split
        · rfl
        · rw [List.take_of_length_le (Nat.le_refl _), List.take_of_length_le (by omega)]
      have hd1 : (mkB u).extract q (mkB u).size = mkB (t.drop (16 * (k + 1))) := by
        have e : ((mkB u).extract q (mkB u).size).data.toList = t.drop (16 * (k + 1)) := by
          rw [ByteArray.data_extract, Array.toList_extract, List.extract_eq_take_drop, List.take_of_length_le (by rw [List.length_drop]; exact Nat.le_refl _)]
          show u.drop q = _
          rw [← HU.out, List.drop_drop, ← hq]
          split
          · rw [show 16 * k + 16 = 16 * (k + 1) by omega]
          · rw [List.drop_eq_nil_of_le (by omega), List.drop_eq_nil_of_le (by omega)]
        exact ByteArray.ext (Array.ext' e)
      have hz : (txt t k).size ≤ 16 := by show ((t.drop (16 * k)).take 16).length ≤ 16; rw [List.length_take]; omega
      have hw := st_wr (p := p) (k := k) (t := t) HC.out hlt
      have HWR : Hid (∀ W, DAt W (.agg #[.slice a secs.length c, .slice b k c2, .int .i64 left, .bool false]) (stD secs left p t k) → Calls Tryd.prog 58 #[.agg #[.slice a secs.length c, .slice b k c2, .int .i64 left, .bool false], .int .i64 ((p : Int) + (k : Int)), .string (txt t k)] W fun r w' => ∃ a c p' c2, r = .returned (.tuple #[.agg #[.slice a secs.length c, .slice p' (k + 1) c2, .int .i64 left, .bool false], .int .i64 0]) ∧ DAt w' (.agg #[.slice a secs.length c, .slice p' (k + 1) c2, .int .i64 left, .bool false]) (stD secs left p t (k + 1)) ∧ Below W.heap.size W w') := by
        show ∀ W, _
        intro W hW
        exact conv_sh (ok.write _ (stD secs left p t k) ((p : Int) + (k : Int)) (txt t k) W hW (fit_right (st_check HC.out (by omega))) (by unfold I64; omega) (by omega)) hw rfl (cws_len _ _ _) rfl rfl
      have wg : w.heap.size ≠ wr.heap.size := by omega
      have wg2 : w.heap.size + 1 ≠ wr.heap.size := by have := HY.out.lt; omega
      have wk1 : IntKind.i64.wrap ((p : Int) + (k : Int) + 1) = (p : Int) + (k : Int) + 1 := IntWalk.i64_in _ (by omega)
      clear cc hw hq
      go_wp2_with fail
      refine wp_region_held_drew (S := fun w' => w'.cell? ⟨w.heap.size, 0, none⟩ = some (.slice a secs.length c) ∧ w'.cell? ⟨w.heap.size, 1, none⟩ = some (.slice b k c2) ∧ w'.cell? ⟨w.heap.size, 2, none⟩ = some (.int .i64 left) ∧ w'.cell? ⟨w.heap.size, 3, none⟩ = some (.bool false)) (by kernel_rfl) ?_ (fun hHeld => ?_)
      · exact ⟨p0, p1', p2', p3⟩
      refine takeN0 (v := ?_) (by kernel_rfl) (by kernel_rfl) (by kernel_rfl) (fun _ _ _ h => h) (by rfl) ?_ (by assumption) ?_
      rotate_left
      · intro wz hSw
        try dsimp only at hSw
        go_simp
        try with_reducible rfl
      try simp only [Act.put, List.setIfInBounds_toArray, List.set_cons_zero, List.set_cons_succ]
      refine takeN1 (v := ?_) (by kernel_rfl) (by kernel_rfl) (by kernel_rfl) (fun _ _ _ h => h) (by rfl) ?_ (by assumption) ?_
      rotate_left
      · intro wz hSw
        try dsimp only at hSw
        go_simp
        try with_reducible rfl
      try simp only [Act.put, List.setIfInBounds_toArray, List.set_cons_zero, List.set_cons_succ]
      refine takeN2 (v := ?_) (by kernel_rfl) (by kernel_rfl) (by kernel_rfl) (fun _ _ _ h => h) (by rfl) ?_ (by assumption) ?_
      rotate_left
      · intro wz hSw
        try dsimp only at hSw
        go_simp
        try with_reducible rfl
      try simp only [Act.put, List.setIfInBounds_toArray, List.set_cons_zero, List.set_cons_succ]
      refine takeN3 (v := ?_) (by kernel_rfl) (by kernel_rfl) (by kernel_rfl) (fun _ _ _ h => h) (by rfl) ?_ (by assumption) ?_
      rotate_left
      · intro wz hSw
        try dsimp only at hSw
        go_simp
        try with_reducible rfl
      try simp only [Act.put, List.setIfInBounds_toArray, List.set_cons_zero, List.set_cons_succ]
      refine takeN4 (v := ?_) (by kernel_rfl) (by kernel_rfl) (by kernel_rfl) (fun _ _ _ h => h) (by rfl) ?_ (by assumption) ?_
      rotate_left
      · intro wz hSw
        try dsimp only at hSw
        go_simp
        try with_reducible rfl
      try simp only [Act.put, List.setIfInBounds_toArray, List.set_cons_zero, List.set_cons_succ]
      have P1 := Lib.hid (HP.out.next (Below.refl _ _).drew)
      have Y1 := Lib.hid (HY.out.next (Below.refl _ _).drew)
      have H1 := Lib.hid (HH.out.next (Below.refl _ _).drew)
      have B2 := Lib.hid (chain HB.out (Below.refl _ _).drew)
      refine wpAnyH_ready (rs := [5, 9]) (by kernel_rfl) (by simp) (AllReadyH.cons rfl (fun K hK => ?_) (AllReadyH.cons rfl (fun K hK => ?_) AllReadyH.nil))
      · rw [if_pos (by rfl)]
        go_simp
        (go_at_call 58; refine (HWR.out _ H1.out).mono ?_; rintro r w5 ⟨a5, c5, p5, e5, rfl, h5', b5⟩)
        try go_wp2_with fail
        have P5 := Lib.hid (P1.out.next b5)
        have Y5 := Lib.hid (Y1.out.next b5)
        have B5 := Lib.hid (chain B2.out b5)
        have H5 := Lib.hid h5'
        clear h5' b5
        refine hK.out _ _ ?_ (fun hHeld => ?_)
        · exact ⟨P5.out.c0, P5.out.c1, P5.out.c2, P5.out.c3⟩
        clear hK K
        try simp only [Act.put, List.setIfInBounds_toArray, List.set_cons_zero, List.set_cons_succ]
        refine takeN6 (v := ?_) (by kernel_rfl) (by kernel_rfl) (by kernel_rfl) (fun _ _ _ h => h) (by rfl) ?_ (by assumption) ?_
        rotate_left
        · intro wz hSw
          try dsimp only at hSw
          go_simp
          try with_reducible rfl
        try simp only [Act.put, List.setIfInBounds_toArray, List.set_cons_zero, List.set_cons_succ]
        refine takeN7 (v := ?_) (by kernel_rfl) (by kernel_rfl) (by kernel_rfl) (fun _ _ _ h => h) (by rfl) ?_ (by assumption) ?_
        rotate_left
        · intro wz hSw
          try dsimp only at hSw
          go_simp
          try with_reducible rfl
        try simp only [Act.put, List.setIfInBounds_toArray, List.set_cons_zero, List.set_cons_succ]
        refine takeN8 (v := ?_) (by kernel_rfl) (by kernel_rfl) (by kernel_rfl) (fun _ _ _ h => h) (by rfl) ?_ (by assumption) ?_
        rotate_left
        · intro wz hSw
          try dsimp only at hSw
          go_simp
          try with_reducible rfl
        try simp only [Act.put, List.setIfInBounds_toArray, List.set_cons_zero, List.set_cons_succ]
        refine comeN9 (by kernel_rfl) (by rfl) (fun K hK => ?_)
        go_simp
        have P6 := Lib.hid (P5.out.next (Below.new1 (.cells #[.slice none 0 0, .slice none 0 0, .int .i64 0, .bool false] 27)))
        refine hK.out _ _ ?_ (fun hHeld => ?_)
        · exact ⟨P6.out.c0, P6.out.c1, P6.out.c2, P6.out.c3⟩
        clear hK K
        try simp only [Act.put, List.setIfInBounds_toArray, List.set_cons_zero, List.set_cons_succ]
        refine comeN10 (by kernel_rfl) (by rfl) (fun K hK => ?_)
        go_simp
        have P7 := Lib.hid (P5.out.next (Below.new1 (.cells #[.slice a5 secs.length c5, .slice p5 (k + 1) e5, .int .i64 left, .bool false] 27)))
        have Y7 := Lib.hid (Y5.out.next (Below.new1 (.cells #[.slice a5 secs.length c5, .slice p5 (k + 1) e5, .int .i64 left, .bool false] 27)))
        have B7 := Lib.hid (chain B5.out (Below.new1 (.cells #[.slice a5 secs.length c5, .slice p5 (k + 1) e5, .int .i64 left, .bool false] 27)))
        have N7 := Lib.hid (Bx.new w5 (.slice a5 secs.length c5) (.slice p5 (k + 1) e5) left false 27)
        have H7 := Lib.hid (H5.out.next (Below.new1 (.cells #[.slice a5 secs.length c5, .slice p5 (k + 1) e5, .int .i64 left, .bool false] 27)))

        refine hK.out _ _ ?_ (fun hHeld => ?_)
        · exact ⟨P7.out.c0, P7.out.c1, P7.out.c2, P7.out.c3⟩
        clear hK K
        try simp only [Act.put, List.setIfInBounds_toArray, List.set_cons_zero, List.set_cons_succ]
        refine takeN11 (v := ?_) (by kernel_rfl) (by kernel_rfl) (by kernel_rfl) (fun _ _ _ h => h) (by rfl) ?_ (by assumption) ?_
        rotate_left
        · intro wz hSw
          try dsimp only at hSw
          go_simp
          try with_reducible rfl
        try simp only [Act.put, List.setIfInBounds_toArray, List.set_cons_zero, List.set_cons_succ]
        clear p0 p1' p2' p3 pl
        refine wpAnyH_done (by kernel_rfl) ?_ _
        have p0 := P7.out.c0
        have p1' := P7.out.c1
        have p2' := P7.out.c2
        have p3 := P7.out.c3
        have pl := P7.out.lt
        have pf := P7.out.fz
        have n0 := N7.out.c0
        have n1 := N7.out.c1
        have n2' := N7.out.c2
        have n3 := N7.out.c3
        have nl := N7.out.lt
        clear p0 p1' p2' p3 pl pf n0 n1 n2' n3 nl
        go_wp2_with fail
        refine wp_region_held_drew (S := fun w' => w'.cell? ⟨w5.heap.size, 0, none⟩ = some (.slice a5 secs.length c5) ∧ w'.cell? ⟨w5.heap.size, 1, none⟩ = some (.slice p5 (k + 1) e5) ∧ w'.cell? ⟨w5.heap.size, 2, none⟩ = some (.int .i64 left) ∧ w'.cell? ⟨w5.heap.size, 3, none⟩ = some (.bool false)) (by kernel_rfl) ?_ (fun hHeld => ?_)
        · exact ⟨(N7.out.next (Below.refl _ _).drew).c0, (N7.out.next (Below.refl _ _).drew).c1, (N7.out.next (Below.refl _ _).drew).c2, (N7.out.next (Below.refl _ _).drew).c3⟩
        refine takeN0 (v := ?_) (by kernel_rfl) (by kernel_rfl) (by kernel_rfl) (fun _ _ _ h => h) (by rfl) ?_ (by assumption) ?_
        rotate_left
        · intro wz hSw
          try dsimp only at hSw
          go_simp
          try with_reducible rfl
        try simp only [Act.put, List.setIfInBounds_toArray, List.set_cons_zero, List.set_cons_succ]
        refine takeN1 (v := ?_) (by kernel_rfl) (by kernel_rfl) (by kernel_rfl) (fun _ _ _ h => h) (by rfl) ?_ (by assumption) ?_
        rotate_left
        · intro wz hSw
          try dsimp only at hSw
          go_simp
          try with_reducible rfl
        try simp only [Act.put, List.setIfInBounds_toArray, List.set_cons_zero, List.set_cons_succ]
        refine takeN2 (v := ?_) (by kernel_rfl) (by kernel_rfl) (by kernel_rfl) (fun _ _ _ h => h) (by rfl) ?_ (by assumption) ?_
        rotate_left
        · intro wz hSw
          try dsimp only at hSw
          go_simp
          try with_reducible rfl
        try simp only [Act.put, List.setIfInBounds_toArray, List.set_cons_zero, List.set_cons_succ]
        refine takeN3 (v := ?_) (by kernel_rfl) (by kernel_rfl) (by kernel_rfl) (fun _ _ _ h => h) (by rfl) ?_ (by assumption) ?_
        rotate_left
        · intro wz hSw
          try dsimp only at hSw
          go_simp
          try with_reducible rfl
        try simp only [Act.put, List.setIfInBounds_toArray, List.set_cons_zero, List.set_cons_succ]
        refine takeN4 (v := ?_) (by kernel_rfl) (by kernel_rfl) (by kernel_rfl) (fun _ _ _ h => h) (by rfl) ?_ (by assumption) ?_
        rotate_left
        · intro wz hSw
          try dsimp only at hSw
          go_simp
          try with_reducible rfl
        try simp only [Act.put, List.setIfInBounds_toArray, List.set_cons_zero, List.set_cons_succ]
        refine takeN5 (v := ?_) (by kernel_rfl) (by kernel_rfl) (by kernel_rfl) (fun _ _ _ h => h) (by rfl) ?_ (by assumption) ?_
        rotate_left
        · intro wz hSw
          try dsimp only at hSw
          go_simp
          try with_reducible rfl
        try simp only [Act.put, List.setIfInBounds_toArray, List.set_cons_zero, List.set_cons_succ]
        refine comeN6 (by kernel_rfl) (by rfl) (fun K hK => ?_)
        have p0 := P5.out.c0
        have p1' := P5.out.c1
        have p2' := P5.out.c2
        have p3 := P5.out.c3
        have pl := P5.out.lt
        have pf := P5.out.fz
        go_simp
        have P9 := Lib.hid (((P5.out.put (.slice a5 secs.length c5) (.slice p5 (k + 1) e5) left false).next (Below.new1 (.cells #[.slice a5 secs.length c5, .slice p5 (k + 1) e5, .int .i64 left, .bool false] 27))).next (Below.refl _ _).drew)
        have Y9 := Lib.hid (((Y5.out.putO (g := w.heap.size) (by omega) (.slice a5 secs.length c5) (.slice p5 (k + 1) e5) left false).next (Below.new1 (.cells #[.slice a5 secs.length c5, .slice p5 (k + 1) e5, .int .i64 left, .bool false] 27))).next (Below.refl _ _).drew)
        have N9 : Hid (Bx (.slice a5 secs.length c5) (.slice p5 (k + 1) e5) left false w5.heap.size ((put4 w5 w.heap.size (.slice a5 secs.length c5) (.slice p5 (k + 1) e5) left false).alloc (.cells #[.slice a5 secs.length c5, .slice p5 (k + 1) e5, .int .i64 left, .bool false] 27)).drew) := by
          have hy := (Bx.new (put4 w5 w.heap.size (.slice a5 secs.length c5) (.slice p5 (k + 1) e5) left false) (.slice a5 secs.length c5) (.slice p5 (k + 1) e5) left false 27).next (Below.refl _ _).drew
          rw [show (put4 w5 w.heap.size (.slice a5 secs.length c5) (.slice p5 (k + 1) e5) left false).heap.size = w5.heap.size by simp] at hy
          exact hy
        have H9 := Lib.hid (((H5.out.put P5.out (fun s => by simp) (fun s => by simp) (.slice a5 secs.length c5) (.slice p5 (k + 1) e5) left false).next (Below.new1 (.cells #[.slice a5 secs.length c5, .slice p5 (k + 1) e5, .int .i64 left, .bool false] 27))).next (Below.refl _ _).drew)
        have B9 := Lib.hid (chain (chain (below_put B5.out (g := w.heap.size) (Nat.le_refl _) (.slice a5 secs.length c5) (.slice p5 (k + 1) e5) left false) (Below.new1 (.cells #[.slice a5 secs.length c5, .slice p5 (k + 1) e5, .int .i64 left, .bool false] 27))) (Below.refl _ _).drew)
        clear p0 p1' p2' p3 pl pf
        refine hK.out _ _ ?_ (fun hHeld => ?_)
        · exact ⟨N9.out.c0, N9.out.c1, N9.out.c2, N9.out.c3⟩
        clear hK K
        try simp only [Act.put, List.setIfInBounds_toArray, List.set_cons_zero, List.set_cons_succ]
        refine takeN7 (v := ?_) (by kernel_rfl) (by kernel_rfl) (by kernel_rfl) (fun _ _ _ h => h) (by rfl) ?_ (by assumption) ?_
        rotate_left
        · intro wz hSw
          try dsimp only at hSw
          go_simp
          try with_reducible rfl
        try simp only [Act.put, List.setIfInBounds_toArray, List.set_cons_zero, List.set_cons_succ]
        refine takeN8 (v := ?_) (by kernel_rfl) (by kernel_rfl) (by kernel_rfl) (fun _ _ _ h => h) (by rfl) ?_ (by assumption) ?_
        rotate_left
        · intro wz hSw
          try dsimp only at hSw
          go_simp
          try with_reducible rfl
        try simp only [Act.put, List.setIfInBounds_toArray, List.set_cons_zero, List.set_cons_succ]
        refine wpAnyH_done (by kernel_rfl) ?_ _
        go_wp2_with fail
        go_roundw
        case rel => exact ⟨k + 1, a5, c5, p5, e5, by omega, by congr 1, rfl, P9.out, Y9.out, H9.out, B9.out⟩
        case measure => show (t.drop (16 * (k + 1))).length < u.length; rw [List.length_drop]; omega
      · rw [if_pos (by rfl)]
        go_simp
        have P2 := Lib.hid (P1.out.next (Below.new1 (.cells #[.slice none 0 0, .slice none 0 0, .int .i64 0, .bool false] 27)))
        have Y2 := Lib.hid (Y1.out.next (Below.new1 (.cells #[.slice none 0 0, .slice none 0 0, .int .i64 0, .bool false] 27)))
        have H2 := Lib.hid (H1.out.next (Below.new1 (.cells #[.slice none 0 0, .slice none 0 0, .int .i64 0, .bool false] 27)))
        have B3 := Lib.hid (chain B2.out (Below.new1 (.cells #[.slice none 0 0, .slice none 0 0, .int .i64 0, .bool false] 27)))
        have N2 : Hid (Bx (.slice none 0 0) (.slice none 0 0) 0 false wr.heap.size (wr.drew.alloc (.cells #[.slice none 0 0, .slice none 0 0, .int .i64 0, .bool false] 27))) := Bx.new wr.drew (.slice none 0 0) (.slice none 0 0) 0 false 27
        refine hK.out _ _ ?_ (fun hHeld => ?_)
        · exact ⟨P2.out.c0, P2.out.c1, P2.out.c2, P2.out.c3⟩
        clear hK K
        try simp only [Act.put, List.setIfInBounds_toArray, List.set_cons_zero, List.set_cons_succ]
        refine comeN5 (by kernel_rfl) (by rfl) (fun K hK => ?_)
        go_simp
        (go_at_call 58; refine (HWR.out _ H2.out).mono ?_; rintro r w5 ⟨a5, c5, p5, e5, rfl, h5', b5⟩)
        try go_wp2_with fail
        have P5 := Lib.hid (P2.out.next b5)
        have Y5 := Lib.hid (Y2.out.next b5)
        have B5 := Lib.hid (chain B3.out b5)
        have H5 := Lib.hid h5'
        have N5 := Lib.hid (N2.out.next b5)
        clear h5' b5
        refine hK.out _ _ ?_ (fun hHeld => ?_)
        · exact ⟨P5.out.c0, P5.out.c1, P5.out.c2, P5.out.c3⟩
        clear hK K
        try simp only [Act.put, List.setIfInBounds_toArray, List.set_cons_zero, List.set_cons_succ]
        refine takeN6 (v := ?_) (by kernel_rfl) (by kernel_rfl) (by kernel_rfl) (fun _ _ _ h => h) (by rfl) ?_ (by assumption) ?_
        rotate_left
        · intro wz hSw
          try dsimp only at hSw
          go_simp
          try with_reducible rfl
        try simp only [Act.put, List.setIfInBounds_toArray, List.set_cons_zero, List.set_cons_succ]
        refine takeN7 (v := ?_) (by kernel_rfl) (by kernel_rfl) (by kernel_rfl) (fun _ _ _ h => h) (by rfl) ?_ (by assumption) ?_
        rotate_left
        · intro wz hSw
          try dsimp only at hSw
          go_simp
          try with_reducible rfl
        try simp only [Act.put, List.setIfInBounds_toArray, List.set_cons_zero, List.set_cons_succ]
        refine takeN8 (v := ?_) (by kernel_rfl) (by kernel_rfl) (by kernel_rfl) (fun _ _ _ h => h) (by rfl) ?_ (by assumption) ?_
        rotate_left
        · intro wz hSw
          try dsimp only at hSw
          go_simp
          try with_reducible rfl
        try simp only [Act.put, List.setIfInBounds_toArray, List.set_cons_zero, List.set_cons_succ]
        refine comeN10 (by kernel_rfl) (by rfl) (fun K hK => ?_)
        have n0 := N5.out.c0
        have n1 := N5.out.c1
        have n2' := N5.out.c2
        have n3 := N5.out.c3
        have nl := N5.out.lt
        have nf := N5.out.fz
        go_simp
        have P7 := Lib.hid (P5.out.putO (g := wr.heap.size) wg (.slice a5 secs.length c5) (.slice p5 (k + 1) e5) left false)
        have Y7 := Lib.hid (Y5.out.putO (g := wr.heap.size) wg2 (.slice a5 secs.length c5) (.slice p5 (k + 1) e5) left false)
        have B7 := Lib.hid (below_put B5.out (g := wr.heap.size) (by have := HB.out.size; omega) (.slice a5 secs.length c5) (.slice p5 (k + 1) e5) left false)
        have N7 := Lib.hid (N5.out.put (.slice a5 secs.length c5) (.slice p5 (k + 1) e5) left false)
        have H7 := Lib.hid (H5.out.put N5.out (fun s => by simp) (fun s => by simp) (.slice a5 secs.length c5) (.slice p5 (k + 1) e5) left false)
        clear n0 n1 n2' n3 nl nf
        refine hK.out _ _ ?_ (fun hHeld => ?_)
        · exact ⟨P7.out.c0, P7.out.c1, P7.out.c2, P7.out.c3⟩
        clear hK K
        try simp only [Act.put, List.setIfInBounds_toArray, List.set_cons_zero, List.set_cons_succ]
        refine takeN11 (v := ?_) (by kernel_rfl) (by kernel_rfl) (by kernel_rfl) (fun _ _ _ h => h) (by rfl) ?_ (by assumption) ?_
        rotate_left
        · intro wz hSw
          try dsimp only at hSw
          go_simp
          try with_reducible rfl
        try simp only [Act.put, List.setIfInBounds_toArray, List.set_cons_zero, List.set_cons_succ]
        clear p0 p1' p2' p3 pl
        refine wpAnyH_done (by kernel_rfl) ?_ _
        have p0 := P7.out.c0
        have p1' := P7.out.c1
        have p2' := P7.out.c2
        have p3 := P7.out.c3
        have pl := P7.out.lt
        have pf := P7.out.fz
        have n0 := N7.out.c0
        have n1 := N7.out.c1
        have n2' := N7.out.c2
        have n3 := N7.out.c3
        have nl := N7.out.lt
        clear p0 p1' p2' p3 pl pf n0 n1 n2' n3 nl
        go_wp2_with fail
        refine wp_region_held_drew (S := fun w' => w'.cell? ⟨wr.heap.size, 0, none⟩ = some (.slice a5 secs.length c5) ∧ w'.cell? ⟨wr.heap.size, 1, none⟩ = some (.slice p5 (k + 1) e5) ∧ w'.cell? ⟨wr.heap.size, 2, none⟩ = some (.int .i64 left) ∧ w'.cell? ⟨wr.heap.size, 3, none⟩ = some (.bool false)) (by kernel_rfl) ?_ (fun hHeld => ?_)
        · exact ⟨(N7.out.next (Below.refl _ _).drew).c0, (N7.out.next (Below.refl _ _).drew).c1, (N7.out.next (Below.refl _ _).drew).c2, (N7.out.next (Below.refl _ _).drew).c3⟩
        refine takeN0 (v := ?_) (by kernel_rfl) (by kernel_rfl) (by kernel_rfl) (fun _ _ _ h => h) (by rfl) ?_ (by assumption) ?_
        rotate_left
        · intro wz hSw
          try dsimp only at hSw
          go_simp
          try with_reducible rfl
        try simp only [Act.put, List.setIfInBounds_toArray, List.set_cons_zero, List.set_cons_succ]
        refine takeN1 (v := ?_) (by kernel_rfl) (by kernel_rfl) (by kernel_rfl) (fun _ _ _ h => h) (by rfl) ?_ (by assumption) ?_
        rotate_left
        · intro wz hSw
          try dsimp only at hSw
          go_simp
          try with_reducible rfl
        try simp only [Act.put, List.setIfInBounds_toArray, List.set_cons_zero, List.set_cons_succ]
        refine takeN2 (v := ?_) (by kernel_rfl) (by kernel_rfl) (by kernel_rfl) (fun _ _ _ h => h) (by rfl) ?_ (by assumption) ?_
        rotate_left
        · intro wz hSw
          try dsimp only at hSw
          go_simp
          try with_reducible rfl
        try simp only [Act.put, List.setIfInBounds_toArray, List.set_cons_zero, List.set_cons_succ]
        refine takeN3 (v := ?_) (by kernel_rfl) (by kernel_rfl) (by kernel_rfl) (fun _ _ _ h => h) (by rfl) ?_ (by assumption) ?_
        rotate_left
        · intro wz hSw
          try dsimp only at hSw
          go_simp
          try with_reducible rfl
        try simp only [Act.put, List.setIfInBounds_toArray, List.set_cons_zero, List.set_cons_succ]
        refine takeN4 (v := ?_) (by kernel_rfl) (by kernel_rfl) (by kernel_rfl) (fun _ _ _ h => h) (by rfl) ?_ (by assumption) ?_
        rotate_left
        · intro wz hSw
          try dsimp only at hSw
          go_simp
          try with_reducible rfl
        try simp only [Act.put, List.setIfInBounds_toArray, List.set_cons_zero, List.set_cons_succ]
        refine takeN5 (v := ?_) (by kernel_rfl) (by kernel_rfl) (by kernel_rfl) (fun _ _ _ h => h) (by rfl) ?_ (by assumption) ?_
        rotate_left
        · intro wz hSw
          try dsimp only at hSw
          go_simp
          try with_reducible rfl
        try simp only [Act.put, List.setIfInBounds_toArray, List.set_cons_zero, List.set_cons_succ]
        refine comeN6 (by kernel_rfl) (by rfl) (fun K hK => ?_)
        have p0 := P5.out.c0
        have p1' := P5.out.c1
        have p2' := P5.out.c2
        have p3 := P5.out.c3
        have pl := P5.out.lt
        have pf := P5.out.fz
        go_simp
        have P9 := Lib.hid ((P7.out.put (.slice a5 secs.length c5) (.slice p5 (k + 1) e5) left false).next (Below.refl _ _).drew)
        have Y9 := Lib.hid ((Y7.out.putO (g := w.heap.size) (by omega) (.slice a5 secs.length c5) (.slice p5 (k + 1) e5) left false).next (Below.refl _ _).drew)
        have N9 := Lib.hid ((N7.out.putO (g := w.heap.size) (by have := HP.out.lt; omega) (.slice a5 secs.length c5) (.slice p5 (k + 1) e5) left false).next (Below.refl _ _).drew)
        have H9 := Lib.hid ((H7.out.put P7.out (fun s => by simp) (fun s => by simp) (.slice a5 secs.length c5) (.slice p5 (k + 1) e5) left false).next (Below.refl _ _).drew)
        have B9 := Lib.hid (chain (below_put B7.out (g := w.heap.size) (Nat.le_refl _) (.slice a5 secs.length c5) (.slice p5 (k + 1) e5) left false) (Below.refl _ _).drew)
        clear p0 p1' p2' p3 pl pf
        refine hK.out _ _ ?_ (fun hHeld => ?_)
        · exact ⟨N9.out.c0, N9.out.c1, N9.out.c2, N9.out.c3⟩
        clear hK K
        try simp only [Act.put, List.setIfInBounds_toArray, List.set_cons_zero, List.set_cons_succ]
        refine takeN7 (v := ?_) (by kernel_rfl) (by kernel_rfl) (by kernel_rfl) (fun _ _ _ h => h) (by rfl) ?_ (by assumption) ?_
        rotate_left
        · intro wz hSw
          try dsimp only at hSw
          go_simp
          try with_reducible rfl
        try simp only [Act.put, List.setIfInBounds_toArray, List.set_cons_zero, List.set_cons_succ]
        refine takeN8 (v := ?_) (by kernel_rfl) (by kernel_rfl) (by kernel_rfl) (fun _ _ _ h => h) (by rfl) ?_ (by assumption) ?_
        rotate_left
        · intro wz hSw
          try dsimp only at hSw
          go_simp
          try with_reducible rfl
        try simp only [Act.put, List.setIfInBounds_toArray, List.set_cons_zero, List.set_cons_succ]
        refine wpAnyH_done (by kernel_rfl) ?_ _
        go_wp2_with fail
        go_roundw
        case rel => exact ⟨k + 1, a5, c5, p5, e5, by omega, by congr 1, rfl, P9.out, Y9.out, H9.out, B9.out⟩
        case measure => show (t.drop (16 * (k + 1))).length < u.length; rw [List.length_drop]; omega

end Go.Proofs.YtemldlhhlneleaaDoor.Jn
