/-
  The law MoneyParts's walk.
-/
import Derived.Test.YtdijhpcnlbjdaaaRisesW
import Derived.Deep.CutBlock
namespace Go.Proofs.Ytdijhpcnlbjdaaa
open Go.RowKit Mon

/-- a pair in a new block -/
structure Bx1 (w : World) (x y : Int) (W : World) : Prop where
  below : Below w.heap.size w W
  lt : w.heap.size < W.heap.size
  c0 : W.cell? ⟨w.heap.size, 0, none⟩ = some (.int .i64 x)
  c1 : W.cell? ⟨w.heap.size, 1, none⟩ = some (.int .i64 y)
theorem Bx1.next {w : World} {x y : Int} {W W' : World} (h : Bx1 w x y W) (hb : Below W.heap.size W W') : Bx1 w x y W' := by
  have s := h.lt
  refine ⟨chain h.below hb, by have := hb.size; omega, ?_, ?_⟩
  · rw [hb.cell (p := ⟨w.heap.size, 0, none⟩) s]; exact h.c0
  · rw [hb.cell (p := ⟨w.heap.size, 1, none⟩) s]; exact h.c1
theorem Bx1.start (w : World) (x y : Int) (T : TypeId) : Bx1 w x y (w.alloc (.cells #[.int .i64 x, .int .i64 y] T)) := by
  refine ⟨Below.new _, by simp, ?_, ?_⟩ <;> rw [World.cell?_alloc_new] <;> rfl
def PRel (w : World) (x y : Int) (i : Value) (wr : World) : Prop := ∃ b : Int, (b = 360 ∨ b = 365 ∨ b = 370) ∧ i = .int .i64 b ∧ Bx1 w x y wr

set_option maxHeartbeats 51200000 in
set_option maxRecDepth 100000 in
theorem MoneyParts_x (hM : MonOk) (v : Value) (l : List R) (s t p f m u x y : Int) (w : World) (hat : RAt w v l) (hok : ∀ r ∈ l, okI r) (hs : I64 s) (ht : I64 t) (hp : I64 p) (hf : I64 f) (hm : I64 m) (hu : I64 u) (hx : I64 x) (hy : I64 y) :
    Calls Try.prog 4 #[v, .int .i64 s, .int .i64 t, .int .i64 p, .int .i64 f, .int .i64 m, .int .i64 u, .agg #[.int .i64 x, .int .i64 y]] w fun e w' => e = .returned (.bool true) ∧ Below w.heap.size w w' := by
  have HAT := Lib.hid hat
  obtain ⟨ad, cap, rfl, -, -⟩ := hat
  have HOK := Lib.hid hok
  have HS := Lib.hid hs
  have HT := Lib.hid ht
  have HP := Lib.hid hp
  have HF := Lib.hid hf
  have HM := Lib.hid hm
  have HU := Lib.hid hu
  have HX := Lib.hid hx
  have HY := Lib.hid hy
  by_cases g1 : 100 < l.length
  · go_enter Try.func4, Try.ntmps4
    have B := Bx1.start w x y 30
    have z0 := B.lt
    have z1 := B.c0
    have z2 := B.c1
    go_wp2_with fail
    refine (sane_x hM _).mono ?_
    rintro e' w1 ⟨rfl, b1⟩
    have B' := B.next b1
    clear B b1 z0 z1 z2
    have B := B'
    clear B'
    have z0 := B.lt
    have z1 := B.c0
    have z2 := B.c1
    have hbl := B.below
    go_wp2_with fail
    go_ret
    exact ⟨by try rfl, hbl⟩
  by_cases g2 : s < 0
  · go_enter Try.func4, Try.ntmps4
    have B := Bx1.start w x y 30
    have z0 := B.lt
    have z1 := B.c0
    have z2 := B.c1
    go_wp2_with fail
    refine (sane_x hM _).mono ?_
    rintro e' w1 ⟨rfl, b1⟩
    have B' := B.next b1
    clear B b1 z0 z1 z2
    have B := B'
    clear B'
    have z0 := B.lt
    have z1 := B.c0
    have z2 := B.c1
    have hbl := B.below
    go_wp2_with fail
    go_ret
    exact ⟨by try rfl, hbl⟩
  by_cases g3 : t < 0
  · go_enter Try.func4, Try.ntmps4
    have B := Bx1.start w x y 30
    have z0 := B.lt
    have z1 := B.c0
    have z2 := B.c1
    go_wp2_with fail
    refine (sane_x hM _).mono ?_
    rintro e' w1 ⟨rfl, b1⟩
    have B' := B.next b1
    clear B b1 z0 z1 z2
    have B := B'
    clear B'
    have z0 := B.lt
    have z1 := B.c0
    have z2 := B.c1
    have hbl := B.below
    go_wp2_with fail
    go_ret
    exact ⟨by try rfl, hbl⟩
  by_cases g4 : 1099511627776 < s
  · go_enter Try.func4, Try.ntmps4
    have B := Bx1.start w x y 30
    have z0 := B.lt
    have z1 := B.c0
    have z2 := B.c1
    go_wp2_with fail
    refine (sane_x hM _).mono ?_
    rintro e' w1 ⟨rfl, b1⟩
    have B' := B.next b1
    clear B b1 z0 z1 z2
    have B := B'
    clear B'
    have z0 := B.lt
    have z1 := B.c0
    have z2 := B.c1
    have hbl := B.below
    go_wp2_with fail
    go_ret
    exact ⟨by try rfl, hbl⟩
  by_cases g5 : 1099511627776 - s < t
  · go_enter Try.func4, Try.ntmps4
    have B := Bx1.start w x y 30
    have z0 := B.lt
    have z1 := B.c0
    have z2 := B.c1
    go_wp2_with fail
    refine (sane_x hM _).mono ?_
    rintro e' w1 ⟨rfl, b1⟩
    have B' := B.next b1
    clear B b1 z0 z1 z2
    have B := B'
    clear B'
    have z0 := B.lt
    have z1 := B.c0
    have z2 := B.c1
    have hbl := B.below
    go_wp2_with fail
    go_ret
    exact ⟨by try rfl, hbl⟩
  have HST : Hid (I64 (s + t)) := small_I64 (by omega) (by omega)
  clear hs ht hp hf hm hu hx hy hok
  go_enter Try.func4, Try.ntmps4
  have B := Bx1.start w x y 30
  have z0 := B.lt
  have z1 := B.c0
  have z2 := B.c1
  go_wp2_with fail
  refine (sane_x hM _).mono ?_
  rintro e' w1 ⟨rfl, b1⟩
  have B' := B.next b1
  clear B b1 z0 z1 z2
  have B := B'
  clear B'
  have z0 := B.lt
  have z1 := B.c0
  have z2 := B.c1
  go_wp2_with fail
  clear z0 z1 z2
  go_loopw [18] (fun i wr => PRel w x y i wr) (fun i _ => (371 - intOf i).toNat)
  case atStart => exact ⟨360, .inl rfl, rfl, B⟩
  case round =>
    clear B
    obtain ⟨b, hb, rfl, B⟩ := hrel
    have z0 := B.lt
    have z1 := B.c0
    have z2 := B.c1
    by_cases hb5 : b ≤ 365
    · have HB : Hid (I64 b) := small_I64 (by omega) (by omega)
      have hb2 : b = 360 ∨ b = 365 := by omega
      obtain ⟨W, e, hw⟩ : ∃ W e, interest (s + t) p f u b = (W, e) := ⟨_, _, rfl⟩
      rcases err_two e with rfl | ⟨e1, e2⟩
      · obtain ⟨A, Bb, ha, hbb, A0, A1, B0, B1, W0, W1, S0, S1⟩ := int_sum (by omega) (by omega) hw
        have NA := Lib.hid ha
        have NB := Lib.hid hbb
        have NW := Lib.hid hw
        have SP := Lib.hid S0
        have SQ := Lib.hid S1
        clear ha hbb S0 S1
        rcases (show (f ≤ m ∧ m ≤ u) ∨ m < f ∨ (f ≤ m ∧ u < m) by omega) with ⟨i1, i2⟩ | i1 | ⟨i1, i2⟩
        · obtain ⟨C, D, hc, hd, C0, C1, D0, D1, -, -, T0, T1⟩ := int_time i1 i2 hw
          have NC := Lib.hid hc
          have ND := Lib.hid hd
          clear hc hd hw
          as_aux_lemma =>
            go_wp2_with fail
            refine (hM.int (s + t) p f u b _ HST.out HP.out HF.out HU.out HB.out).mono ?_
            rintro e' w1 ⟨rfl, b1⟩
            rw [NW.out]
            simp only [pv]
            have B' := B.next b1
            clear B b1 z0 z1 z2
            have B := B'
            clear B'
            have z0 := B.lt
            have z1 := B.c0
            have z2 := B.c1
            go_wp2_with fail
            refine (hM.int s p f u b _ HS.out HP.out HF.out HU.out HB.out).mono ?_
            rintro e' w1 ⟨rfl, b1⟩
            rw [NA.out]
            simp only [pv]
            have B' := B.next b1
            clear B b1 z0 z1 z2
            have B := B'
            clear B'
            have z0 := B.lt
            have z1 := B.c0
            have z2 := B.c1
            go_wp2_with fail
            refine (hM.int t p f u b _ HT.out HP.out HF.out HU.out HB.out).mono ?_
            rintro e' w1 ⟨rfl, b1⟩
            rw [NB.out]
            simp only [pv]
            have B' := B.next b1
            clear B b1 z0 z1 z2
            have B := B'
            clear B'
            have z0 := B.lt
            have z1 := B.c0
            have z2 := B.c1
            go_wp2_with fail
            refine (split_x A Bb W 0 _ ⟨A0, A1⟩ ⟨B0, B1⟩ ⟨W0, W1⟩ (.inl rfl) (by have := SP.out; omega) (by have := SQ.out; omega)).mono ?_
            rintro e' w1 ⟨rfl, rfl⟩
            go_wp2_with fail
            refine (hM.int (s + t) p f m b _ HST.out HP.out HF.out HM.out HB.out).mono ?_
            rintro e' w1 ⟨rfl, b1⟩
            rw [NC.out]
            simp only [pv]
            have B' := B.next b1
            clear B b1 z0 z1 z2
            have B := B'
            clear B'
            have z0 := B.lt
            have z1 := B.c0
            have z2 := B.c1
            go_wp2_with fail
            refine (hM.int (s + t) p m u b _ HST.out HP.out HM.out HU.out HB.out).mono ?_
            rintro e' w1 ⟨rfl, b1⟩
            rw [ND.out]
            simp only [pv]
            have B' := B.next b1
            clear B b1 z0 z1 z2
            have B := B'
            clear B'
            have z0 := B.lt
            have z1 := B.c0
            have z2 := B.c1
            go_wp2_with fail
            refine (split_x C D W 0 _ ⟨C0, C1⟩ ⟨D0, D1⟩ ⟨W0, W1⟩ (.inl rfl) (by omega) (by omega)).mono ?_
            rintro e' w1 ⟨rfl, rfl⟩
            go_wp2_with fail
            go_roundw
            case rel => exact ⟨b + 5, by omega, rfl, B⟩
            case measure => simp [intOf]; omega
        · obtain ⟨C, ec, hc⟩ : ∃ C ec, interest (s + t) p f m b = (C, ec) := ⟨_, _, rfl⟩
          obtain ⟨D, ed, hd⟩ : ∃ D ed, interest (s + t) p m u b = (D, ed) := ⟨_, _, rfl⟩
          have NC := Lib.hid hc
          have ND := Lib.hid hd
          clear hc hd hw
          as_aux_lemma =>
            go_wp2_with fail
            refine (hM.int (s + t) p f u b _ HST.out HP.out HF.out HU.out HB.out).mono ?_
            rintro e' w1 ⟨rfl, b1⟩
            rw [NW.out]
            simp only [pv]
            have B' := B.next b1
            clear B b1 z0 z1 z2
            have B := B'
            clear B'
            have z0 := B.lt
            have z1 := B.c0
            have z2 := B.c1
            go_wp2_with fail
            refine (hM.int s p f u b _ HS.out HP.out HF.out HU.out HB.out).mono ?_
            rintro e' w1 ⟨rfl, b1⟩
            rw [NA.out]
            simp only [pv]
            have B' := B.next b1
            clear B b1 z0 z1 z2
            have B := B'
            clear B'
            have z0 := B.lt
            have z1 := B.c0
            have z2 := B.c1
            go_wp2_with fail
            refine (hM.int t p f u b _ HT.out HP.out HF.out HU.out HB.out).mono ?_
            rintro e' w1 ⟨rfl, b1⟩
            rw [NB.out]
            simp only [pv]
            have B' := B.next b1
            clear B b1 z0 z1 z2
            have B := B'
            clear B'
            have z0 := B.lt
            have z1 := B.c0
            have z2 := B.c1
            go_wp2_with fail
            refine (split_x A Bb W 0 _ ⟨A0, A1⟩ ⟨B0, B1⟩ ⟨W0, W1⟩ (.inl rfl) (by have := SP.out; omega) (by have := SQ.out; omega)).mono ?_
            rintro e' w1 ⟨rfl, rfl⟩
            go_wp2_with fail
            refine (hM.int (s + t) p f m b _ HST.out HP.out HF.out HM.out HB.out).mono ?_
            rintro e' w1 ⟨rfl, b1⟩
            rw [NC.out]
            simp only [pv]
            have B' := B.next b1
            clear B b1 z0 z1 z2
            have B := B'
            clear B'
            have z0 := B.lt
            have z1 := B.c0
            have z2 := B.c1
            go_wp2_with fail
            refine (hM.int (s + t) p m u b _ HST.out HP.out HM.out HU.out HB.out).mono ?_
            rintro e' w1 ⟨rfl, b1⟩
            rw [ND.out]
            simp only [pv]
            have B' := B.next b1
            clear B b1 z0 z1 z2
            have B := B'
            clear B'
            have z0 := B.lt
            have z1 := B.c0
            have z2 := B.c1
            go_wp2_with fail
            go_roundw
            case rel => exact ⟨b + 5, by omega, rfl, B⟩
            case measure => simp [intOf]; omega
        · obtain ⟨C, ec, hc⟩ : ∃ C ec, interest (s + t) p f m b = (C, ec) := ⟨_, _, rfl⟩
          obtain ⟨D, ed, hd⟩ : ∃ D ed, interest (s + t) p m u b = (D, ed) := ⟨_, _, rfl⟩
          have NC := Lib.hid hc
          have ND := Lib.hid hd
          clear hc hd hw
          as_aux_lemma =>
            go_wp2_with fail
            refine (hM.int (s + t) p f u b _ HST.out HP.out HF.out HU.out HB.out).mono ?_
            rintro e' w1 ⟨rfl, b1⟩
            rw [NW.out]
            simp only [pv]
            have B' := B.next b1
            clear B b1 z0 z1 z2
            have B := B'
            clear B'
            have z0 := B.lt
            have z1 := B.c0
            have z2 := B.c1
            go_wp2_with fail
            refine (hM.int s p f u b _ HS.out HP.out HF.out HU.out HB.out).mono ?_
            rintro e' w1 ⟨rfl, b1⟩
            rw [NA.out]
            simp only [pv]
            have B' := B.next b1
            clear B b1 z0 z1 z2
            have B := B'
            clear B'
            have z0 := B.lt
            have z1 := B.c0
            have z2 := B.c1
            go_wp2_with fail
            refine (hM.int t p f u b _ HT.out HP.out HF.out HU.out HB.out).mono ?_
            rintro e' w1 ⟨rfl, b1⟩
            rw [NB.out]
            simp only [pv]
            have B' := B.next b1
            clear B b1 z0 z1 z2
            have B := B'
            clear B'
            have z0 := B.lt
            have z1 := B.c0
            have z2 := B.c1
            go_wp2_with fail
            refine (split_x A Bb W 0 _ ⟨A0, A1⟩ ⟨B0, B1⟩ ⟨W0, W1⟩ (.inl rfl) (by have := SP.out; omega) (by have := SQ.out; omega)).mono ?_
            rintro e' w1 ⟨rfl, rfl⟩
            go_wp2_with fail
            refine (hM.int (s + t) p f m b _ HST.out HP.out HF.out HM.out HB.out).mono ?_
            rintro e' w1 ⟨rfl, b1⟩
            rw [NC.out]
            simp only [pv]
            have B' := B.next b1
            clear B b1 z0 z1 z2
            have B := B'
            clear B'
            have z0 := B.lt
            have z1 := B.c0
            have z2 := B.c1
            go_wp2_with fail
            refine (hM.int (s + t) p m u b _ HST.out HP.out HM.out HU.out HB.out).mono ?_
            rintro e' w1 ⟨rfl, b1⟩
            rw [ND.out]
            simp only [pv]
            have B' := B.next b1
            clear B b1 z0 z1 z2
            have B := B'
            clear B'
            have z0 := B.lt
            have z1 := B.c0
            have z2 := B.c1
            go_wp2_with fail
            go_roundw
            case rel => exact ⟨b + 5, by omega, rfl, B⟩
            case measure => simp [intOf]; omega
      · obtain ⟨A, ea, ha⟩ : ∃ A ea, interest s p f u b = (A, ea) := ⟨_, _, rfl⟩
        obtain ⟨Bb, eb, hbb⟩ : ∃ Bb eb, interest t p f u b = (Bb, eb) := ⟨_, _, rfl⟩
        obtain ⟨C, ec, hc⟩ : ∃ C ec, interest (s + t) p f m b = (C, ec) := ⟨_, _, rfl⟩
        obtain ⟨D, ed, hd⟩ : ∃ D ed, interest (s + t) p m u b = (D, ed) := ⟨_, _, rfl⟩
        have NA := Lib.hid ha
        have NB := Lib.hid hbb
        have NC := Lib.hid hc
        have ND := Lib.hid hd
        have NW := Lib.hid hw
        clear ha hbb hc hd hw
        as_aux_lemma =>
          go_wp2_with fail
          refine (hM.int (s + t) p f u b _ HST.out HP.out HF.out HU.out HB.out).mono ?_
          rintro e' w1 ⟨rfl, b1⟩
          rw [NW.out]
          simp only [pv]
          have B' := B.next b1
          clear B b1 z0 z1 z2
          have B := B'
          clear B'
          have z0 := B.lt
          have z1 := B.c0
          have z2 := B.c1
          go_wp2_with fail
          refine (hM.int s p f u b _ HS.out HP.out HF.out HU.out HB.out).mono ?_
          rintro e' w1 ⟨rfl, b1⟩
          rw [NA.out]
          simp only [pv]
          have B' := B.next b1
          clear B b1 z0 z1 z2
          have B := B'
          clear B'
          have z0 := B.lt
          have z1 := B.c0
          have z2 := B.c1
          go_wp2_with fail
          refine (hM.int t p f u b _ HT.out HP.out HF.out HU.out HB.out).mono ?_
          rintro e' w1 ⟨rfl, b1⟩
          rw [NB.out]
          simp only [pv]
          have B' := B.next b1
          clear B b1 z0 z1 z2
          have B := B'
          clear B'
          have z0 := B.lt
          have z1 := B.c0
          have z2 := B.c1
          go_wp2_with fail
          refine (hM.int (s + t) p f m b _ HST.out HP.out HF.out HM.out HB.out).mono ?_
          rintro e' w1 ⟨rfl, b1⟩
          rw [NC.out]
          simp only [pv]
          have B' := B.next b1
          clear B b1 z0 z1 z2
          have B := B'
          clear B'
          have z0 := B.lt
          have z1 := B.c0
          have z2 := B.c1
          go_wp2_with fail
          refine (hM.int (s + t) p m u b _ HST.out HP.out HM.out HU.out HB.out).mono ?_
          rintro e' w1 ⟨rfl, b1⟩
          rw [ND.out]
          simp only [pv]
          have B' := B.next b1
          clear B b1 z0 z1 z2
          have B := B'
          clear B'
          have z0 := B.lt
          have z1 := B.c0
          have z2 := B.c1
          go_wp2_with fail
          go_roundw
          case rel => exact ⟨b + 5, by omega, rfl, B⟩
          case measure => simp [intOf]; omega
    · as_aux_lemma =>
        clear hb
        have hb5' : ¬ b ≤ 365 := hb5
        clear hb5
        obtain ⟨Ad, fa, hda⟩ : ∃ Ad fa, discount s p f = (Ad, fa) := ⟨_, _, rfl⟩
        obtain ⟨Bd, fb, hdb⟩ : ∃ Bd fb, discount t p f = (Bd, fb) := ⟨_, _, rfl⟩
        obtain ⟨Wd, fe, hdw⟩ : ∃ Wd fe, discount (s + t) p f = (Wd, fe) := ⟨_, _, rfl⟩
        have NW := Lib.hid hdw
        have NA := Lib.hid hda
        have NB := Lib.hid hdb
        clear hdw hda hdb
        go_wp2_with fail
        refine (hM.dis (s + t) p f _ HST.out HP.out HF.out).mono ?_
        rintro e' w1 ⟨rfl, b1⟩
        rw [NW.out]
        simp only [pv]
        have B' := B.next b1
        clear B b1 z0 z1 z2
        have B := B'
        clear B'
        have z0 := B.lt
        have z1 := B.c0
        have z2 := B.c1
        go_wp2_with fail
        refine (hM.dis s p f _ HS.out HP.out HF.out).mono ?_
        rintro e' w1 ⟨rfl, b1⟩
        rw [NA.out]
        simp only [pv]
        have B' := B.next b1
        clear B b1 z0 z1 z2
        have B := B'
        clear B'
        have z0 := B.lt
        have z1 := B.c0
        have z2 := B.c1
        go_wp2_with fail
        refine (hM.dis t p f _ HT.out HP.out HF.out).mono ?_
        rintro e' w1 ⟨rfl, b1⟩
        rw [NB.out]
        simp only [pv]
        have B' := B.next b1
        clear B b1 z0 z1 z2
        have B := B'
        clear B'
        have z0 := B.lt
        have z1 := B.c0
        have z2 := B.c1
        go_upto_region 19 with fail
        go_cut [208] (fun c wx => c = .bool false ∧ Bx1 w x y wx)
        case first =>
          rcases err_two fa with rfl | ⟨e1, e2⟩
          · rcases err_two fb with rfl | ⟨e3, e4⟩
            · obtain ⟨W', hw', A0, A1, B0, B1, W0, W1, S0, S1⟩ := dis_sum (by omega) NA.out NB.out
              obtain ⟨rfl, rfl⟩ := Prod.mk.inj (NW.out.symm.trans hw')
              clear hw'
              go_wp2_with fail
              refine (split_x Ad Bd Wd 1 _ ⟨A0, A1⟩ ⟨B0, B1⟩ ⟨W0, W1⟩ (.inr rfl) (by omega) (by omega)).mono ?_
              rintro e' w1 ⟨rfl, rfl⟩
              go_wp2_with fail
              go_meet
              exact ⟨by first | rfl | rw [decide_eq_false (by omega)], B⟩
            · go_wp2_with fail
              go_meet
              exact ⟨by first | rfl | rw [decide_eq_false (by omega)], B⟩
          · go_wp2_with fail
            go_meet
            exact ⟨by first | rfl | rw [decide_eq_false (by omega)], B⟩
        case rest =>
          obtain ⟨rfl, B'⟩ := hcut
          clear B z0 z1 z2
          have B := B'
          clear B'
          as_aux_lemma =>
            have z0 := B.lt
            have z1 := B.c0
            have z2 := B.c1
            obtain ⟨Cd, dc, hc⟩ : ∃ Cd dc, discount (s + t) p m = (Cd, dc) := ⟨_, _, rfl⟩
            obtain ⟨Dd, dd, hd⟩ : ∃ Dd dd, discount (s + t) p u = (Dd, dd) := ⟨_, _, rfl⟩
            have NC := Lib.hid hc
            have ND := Lib.hid hd
            clear hc hd
            go_wp2_with fail
            refine (hM.dis (s + t) p m _ HST.out HP.out HM.out).mono ?_
            rintro e' w1 ⟨rfl, b1⟩
            rw [NC.out]
            simp only [pv]
            have B' := B.next b1
            clear B b1 z0 z1 z2
            have B := B'
            clear B'
            have z0 := B.lt
            have z1 := B.c0
            have z2 := B.c1
            go_wp2_with fail
            refine (hM.dis (s + t) p u _ HST.out HP.out HU.out).mono ?_
            rintro e' w1 ⟨rfl, b1⟩
            rw [ND.out]
            simp only [pv]
            have B' := B.next b1
            clear B b1 z0 z1 z2
            have B := B'
            clear B'
            have z0 := B.lt
            have z1 := B.c0
            have z2 := B.c1
            obtain ⟨inR, hR⟩ : ∃ inR, decide (0 ≤ m ∧ 0 ≤ u ∧ m ≤ 20000 ∧ u ≤ 20000 - m) = inR := ⟨_, rfl⟩
            go_upto_region 23 with fail
            go_cut [242] (fun c wx => c = .bool inR ∧ Bx1 w x y wx)
            case first =>
              rcases (show (0 ≤ m ∧ 0 ≤ u ∧ m ≤ 20000 ∧ u ≤ 20000 - m) ∨ m < 0 ∨ (0 ≤ m ∧ u < 0) ∨ (0 ≤ m ∧ 0 ≤ u ∧ 20000 < m) ∨ (0 ≤ m ∧ 0 ≤ u ∧ m ≤ 20000 ∧ 20000 - m < u) by omega) with ⟨j1, j2, j3, j4⟩ | j1 | ⟨j1, j2⟩ | ⟨j1, j2, j3⟩ | ⟨j1, j2, j3, j4⟩
              · obtain rfl : true = inR := by rw [← hR]; exact (decide_eq_true ⟨j1, j2, j3, j4⟩).symm
                clear hR
                go_wp2_with fail
                go_meet
                exact ⟨by first | rfl | rw [decide_eq_false (by omega)], B⟩
              all_goals
                obtain rfl : false = inR := by rw [← hR]; exact (decide_eq_false (by omega)).symm
                clear hR
                go_wp2_with fail
                go_meet
                exact ⟨by first | rfl | rw [decide_eq_false (by omega)], B⟩
            case rest =>
              obtain ⟨rfl, B'⟩ := hcut
              clear B z0 z1 z2
              have B := B'
              clear B'
              have z0 := B.lt
              have z1 := B.c0
              have z2 := B.c1
              as_aux_lemma =>
                have HR := Lib.hid hR
                clear hR
                go_upto_if 242 with fail
                go_cut [] (fun wx => Bx1 w x y wx)
                case first =>
                  cases inR with
                  | false =>
                    go_wp2_with fail
                    go_meet
                    exact B
                  | true =>
                    obtain ⟨j1, j2, j3, j4⟩ := of_decide_eq_true HR.out
                    have HMU : Hid (I64 (m + u)) := small_I64 (by omega) (by omega)
                    obtain ⟨Al, j, hal⟩ : ∃ Al j, discount (s + t) p (m + u) = (Al, j) := ⟨_, _, rfl⟩
                    rcases err_two j with rfl | ⟨e1, e2⟩
                    · obtain ⟨C', D', hc, hd, C0, C1, D0, D1, A0, A1, T0, T1⟩ := dis_time j1 j2 hal
                      obtain ⟨rfl, rfl⟩ := Prod.mk.inj (NC.out.symm.trans hc)
                      obtain ⟨rfl, rfl⟩ := Prod.mk.inj (ND.out.symm.trans hd)
                      have NL := Lib.hid hal
                      clear hal hc hd
                      go_wp2_with fail
                      refine (hM.dis (s + t) p (m + u) _ HST.out HP.out HMU.out).mono ?_
                      rintro e' w1 ⟨rfl, b1⟩
                      rw [NL.out]
                      simp only [pv]
                      have B' := B.next b1
                      clear B b1 z0 z1 z2
                      have B := B'
                      clear B'
                      have z0 := B.lt
                      have z1 := B.c0
                      have z2 := B.c1
                      go_wp2_with fail
                      refine (split_x Cd Dd Al 1 _ ⟨C0, C1⟩ ⟨D0, D1⟩ ⟨A0, A1⟩ (.inr rfl) (by omega) (by omega)).mono ?_
                      rintro e' w1 ⟨rfl, rfl⟩
                      go_wp2_with fail
                      go_meet
                      exact B
                    · have NL := Lib.hid hal
                      clear hal
                      go_wp2_with fail
                      refine (hM.dis (s + t) p (m + u) _ HST.out HP.out HMU.out).mono ?_
                      rintro e' w1 ⟨rfl, b1⟩
                      rw [NL.out]
                      simp only [pv]
                      have B' := B.next b1
                      clear B b1 z0 z1 z2
                      have B := B'
                      clear B'
                      have z0 := B.lt
                      have z1 := B.c0
                      have z2 := B.c1
                      go_wp2_with fail
                      go_meet
                      exact B
                case rest =>
                  have B' := hcut
                  clear B z0 z1 z2 hcut
                  have B := B'
                  clear B'
                  as_aux_lemma =>
                    have z0 := B.lt
                    have z1 := B.c0
                    have z2 := B.c1
                    obtain ⟨X, k, hX⟩ : ∃ X k, Mon.conv l (s + t) x y u = (X, k) := ⟨_, _, rfl⟩
                    rcases err_two k with rfl | ⟨k1, k2⟩
                    · obtain ⟨Y, Z, hY, hZ, Y0, Y1, Z0, Z1, X0, X1, E0, E1⟩ := conv_sum (by omega) (by omega) hX
                      have NX := Lib.hid hX
                      have NY := Lib.hid hY
                      have NZ := Lib.hid hZ
                      clear hX hY hZ
                      go_wp2_with fail
                      refine (hM.conv _ l (s + t) x y u _ (HAT.out.below B.below (Nat.le_refl _)) (by omega) HOK.out HST.out HX.out HY.out HU.out).mono ?_
                      rintro e' w1 ⟨rfl, b1⟩
                      rw [NX.out]
                      simp only [pv]
                      have B' := B.next b1
                      clear B b1 z0 z1 z2
                      have B := B'
                      clear B'
                      have z0 := B.lt
                      have z1 := B.c0
                      have z2 := B.c1
                      go_wp2_with fail
                      refine (hM.conv _ l s x y u _ (HAT.out.below B.below (Nat.le_refl _)) (by omega) HOK.out HS.out HX.out HY.out HU.out).mono ?_
                      rintro e' w1 ⟨rfl, b1⟩
                      rw [NY.out]
                      simp only [pv]
                      have B' := B.next b1
                      clear B b1 z0 z1 z2
                      have B := B'
                      clear B'
                      have z0 := B.lt
                      have z1 := B.c0
                      have z2 := B.c1
                      go_wp2_with fail
                      refine (hM.conv _ l t x y u _ (HAT.out.below B.below (Nat.le_refl _)) (by omega) HOK.out HT.out HX.out HY.out HU.out).mono ?_
                      rintro e' w1 ⟨rfl, b1⟩
                      rw [NZ.out]
                      simp only [pv]
                      have B' := B.next b1
                      clear B b1 z0 z1 z2
                      have B := B'
                      clear B'
                      have z0 := B.lt
                      have z1 := B.c0
                      have z2 := B.c1
                      go_wp2_with fail
                      refine (split_x Y Z X 0 _ ⟨Y0, Y1⟩ ⟨Z0, Z1⟩ ⟨X0, X1⟩ (.inl rfl) (by omega) (by omega)).mono ?_
                      rintro e' w1 ⟨rfl, rfl⟩
                      have hbl := B.below
                      go_wp2_with fail
                      go_ret
                      exact ⟨by try rfl, hbl⟩
                    · obtain ⟨Y, ky, hY⟩ : ∃ Y ky, Mon.conv l s x y u = (Y, ky) := ⟨_, _, rfl⟩
                      obtain ⟨Z, kz, hZ⟩ : ∃ Z kz, Mon.conv l t x y u = (Z, kz) := ⟨_, _, rfl⟩
                      have NX := Lib.hid hX
                      have NY := Lib.hid hY
                      have NZ := Lib.hid hZ
                      clear hX hY hZ
                      go_wp2_with fail
                      refine (hM.conv _ l (s + t) x y u _ (HAT.out.below B.below (Nat.le_refl _)) (by omega) HOK.out HST.out HX.out HY.out HU.out).mono ?_
                      rintro e' w1 ⟨rfl, b1⟩
                      rw [NX.out]
                      simp only [pv]
                      have B' := B.next b1
                      clear B b1 z0 z1 z2
                      have B := B'
                      clear B'
                      have z0 := B.lt
                      have z1 := B.c0
                      have z2 := B.c1
                      go_wp2_with fail
                      refine (hM.conv _ l s x y u _ (HAT.out.below B.below (Nat.le_refl _)) (by omega) HOK.out HS.out HX.out HY.out HU.out).mono ?_
                      rintro e' w1 ⟨rfl, b1⟩
                      rw [NY.out]
                      simp only [pv]
                      have B' := B.next b1
                      clear B b1 z0 z1 z2
                      have B := B'
                      clear B'
                      have z0 := B.lt
                      have z1 := B.c0
                      have z2 := B.c1
                      go_wp2_with fail
                      refine (hM.conv _ l t x y u _ (HAT.out.below B.below (Nat.le_refl _)) (by omega) HOK.out HT.out HX.out HY.out HU.out).mono ?_
                      rintro e' w1 ⟨rfl, b1⟩
                      rw [NZ.out]
                      simp only [pv]
                      have B' := B.next b1
                      clear B b1 z0 z1 z2
                      have B := B'
                      clear B'
                      have z0 := B.lt
                      have z1 := B.c0
                      have z2 := B.c1
                      have hbl := B.below
                      go_wp2_with fail
                      go_ret
                      exact ⟨by try rfl, hbl⟩

end Go.Proofs.Ytdijhpcnlbjdaaa
