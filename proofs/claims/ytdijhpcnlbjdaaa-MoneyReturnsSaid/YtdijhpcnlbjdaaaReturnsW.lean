/-
  The law MoneyReturns's walk.
-/
import Derived.Test.YtdijhpcnlbjdaaaRisesW
import Derived.Test.YtdijhpcnlbjdaaaMonM
namespace Go.Proofs.Ytdijhpcnlbjdaaa
open Go.RowKit Mon

set_option maxHeartbeats 12800000 in
set_option maxRecDepth 100000 in
theorem MoneyReturns_x (hM : MonOk) (v : Value) (l : List R) (s f t on : Int) (w : World) (hat : RAt w v l) (hok : ∀ r ∈ l, okI r) (hs : I64 s) (hf : I64 f) (ht : I64 t) (hon : I64 on) :
    Calls Try.prog 6 #[v, .int .i64 s, .int .i64 f, .int .i64 t, .int .i64 on] w fun e w' => e = .returned (.bool true) ∧ Below w.heap.size w w' := by
  have HAT := Lib.hid hat
  obtain ⟨ad, cap, rfl, -, hc⟩ := hat
  have HC := Lib.hid hc
  have HOK := Lib.hid hok
  have HS := Lib.hid hs
  have HF := Lib.hid hf
  have HT := Lib.hid ht
  have HON := Lib.hid hon
  clear hc hok hs hf ht hon
  have c0 : Below w.heap.size w w := Below.refl _ _
  by_cases g : 100 < l.length
  · go_enter Try.func6, Try.ntmps6
    go_wp2_with fail
    refine (sane_x hM _).mono ?_
    rintro e w1 ⟨rfl, b1⟩
    have c1 := chain c0 b1
    clear b1 c0
    go_wp2_with fail
    go_ret
    exact ⟨by try rfl, c1⟩
  obtain ⟨x, e, hx⟩ : ∃ x e, Mon.conv l s f t on = (x, e) := ⟨_, _, rfl⟩
  obtain ⟨y, gg, hy⟩ : ∃ y gg, Mon.conv l x t f on = (y, gg) := ⟨_, _, rfl⟩
  obtain ⟨x0, x1, x2, -⟩ := conv_range hx
  have HX : Hid (I64 x) := small_I64 (by omega) (by omega)
  have NX := Lib.hid hx
  have NY := Lib.hid hy
  rcases err_two e with rfl | ⟨e1, e2⟩
  case inr =>
    have x3 : x = 0 := by
      rcases x2 with rfl | ⟨-, h⟩
      · simp at e1
      · exact h
    have x4 : (x == 0) = true := by simp [x3]
    clear hx hy x2 x3
    go_enter Try.func6, Try.ntmps6
    go_wp2_with fail
    refine (sane_x hM _).mono ?_
    rintro e w1 ⟨rfl, b1⟩
    have c1 := chain c0 b1
    clear b1 c0
    go_wp2_with fail
    refine (hM.conv _ l s f t on _ (HAT.out.below c1 (Nat.le_refl _)) (by omega) HOK.out HS.out HF.out HT.out HON.out).mono ?_
    rintro e w2 ⟨rfl, b1⟩
    rw [NX.out]
    simp only [pv]
    have c2 := chain c1 b1
    clear b1 c1
    go_wp2_with fail
    refine (hM.conv _ l x t f on _ (HAT.out.below c2 (Nat.le_refl _)) (by omega) HOK.out HX.out HT.out HF.out HON.out).mono ?_
    rintro e w3 ⟨rfl, b1⟩
    rw [NY.out]
    simp only [pv]
    have c3 := chain c2 b1
    clear b1 c2
    go_wp2_with fail
    refine (Find_x _ l f t on _ (HAT.out.below c3 (Nat.le_refl _)) (by omega)).mono ?_
    rintro e' w4 ⟨n, rfl, hn, hq⟩
    have c4 : Below w.heap.size w w4 := by obtain ⟨m, rfl⟩ := hq; exact below_drewN c3 m
    clear hq c3
    clear hn
    go_wp2_with fail
    go_ret
    exact ⟨by try rfl, c4⟩
  by_cases ft : f = t
  · subst ft
    have x3 : x = s := by
      obtain ⟨-, -, -, -, h⟩ := conv_good hx
      rcases h with ⟨-, h⟩ | ⟨h, -⟩
      · exact h
      · exact absurd rfl h
    subst x3
    clear hx hy x2
    go_enter Try.func6, Try.ntmps6
    go_wp2_with fail
    refine (sane_x hM _).mono ?_
    rintro e w1 ⟨rfl, b1⟩
    have c1 := chain c0 b1
    clear b1 c0
    go_wp2_with fail
    refine (hM.conv _ l x f f on _ (HAT.out.below c1 (Nat.le_refl _)) (by omega) HOK.out HX.out HF.out HF.out HON.out).mono ?_
    rintro e w2 ⟨rfl, b1⟩
    rw [NX.out]
    simp only [pv]
    have c2 := chain c1 b1
    clear b1 c1
    go_wp2_with fail
    refine (hM.conv _ l x f f on _ (HAT.out.below c2 (Nat.le_refl _)) (by omega) HOK.out HX.out HF.out HF.out HON.out).mono ?_
    rintro e w3 ⟨rfl, b1⟩
    rw [NY.out]
    simp only [pv]
    have c3 := chain c2 b1
    clear b1 c2
    go_wp2_with fail
    refine (Find_x _ l f f on _ (HAT.out.below c3 (Nat.le_refl _)) (by omega)).mono ?_
    rintro e' w4 ⟨n, rfl, hn, hq⟩
    have c4 : Below w.heap.size w w4 := by obtain ⟨m, rfl⟩ := hq; exact below_drewN c3 m
    clear hq c3
    clear hn
    go_wp2_with fail
    go_ret
    exact ⟨by try rfl, c4⟩
  have ft1 : (f == t) = false := by simp [ft]
  obtain ⟨po, hp⟩ : ∃ po, pick l f t on = po := ⟨_, rfl⟩
  have HP := Lib.hid hp
  cases po with
  | none =>
    clear hp hx hy x2 ft
    go_enter Try.func6, Try.ntmps6
    go_wp2_with fail
    refine (sane_x hM _).mono ?_
    rintro e w1 ⟨rfl, b1⟩
    have c1 := chain c0 b1
    clear b1 c0
    go_wp2_with fail
    refine (hM.conv _ l s f t on _ (HAT.out.below c1 (Nat.le_refl _)) (by omega) HOK.out HS.out HF.out HT.out HON.out).mono ?_
    rintro e w2 ⟨rfl, b1⟩
    rw [NX.out]
    simp only [pv]
    have c2 := chain c1 b1
    clear b1 c1
    go_wp2_with fail
    refine (hM.conv _ l x t f on _ (HAT.out.below c2 (Nat.le_refl _)) (by omega) HOK.out HX.out HT.out HF.out HON.out).mono ?_
    rintro e w3 ⟨rfl, b1⟩
    rw [NY.out]
    simp only [pv]
    have c3 := chain c2 b1
    clear b1 c2
    go_wp2_with fail
    refine (Find_x _ l f t on _ (HAT.out.below c3 (Nat.le_refl _)) (by omega)).mono ?_
    rintro e' w4 ⟨n, rfl, hn, hq⟩
    have c4 : Below w.heap.size w w4 := by obtain ⟨m, rfl⟩ := hq; exact below_drewN c3 m
    clear hq c3
    rw [HP.out] at hn
    obtain rfl := at_none hn
    clear hn
    go_wp2_with fail
    go_ret
    exact ⟨by try rfl, c4⟩
  | some r =>
    obtain ⟨qo, hq⟩ : ∃ qo, pick l t f on = qo := ⟨_, rfl⟩
    have HQ := Lib.hid hq
    cases qo with
    | some r2 =>
      clear hp hq hx hy x2 ft
      go_enter Try.func6, Try.ntmps6
      go_wp2_with fail
      refine (sane_x hM _).mono ?_
      rintro e w1 ⟨rfl, b1⟩
      have c1 := chain c0 b1
      clear b1 c0
      go_wp2_with fail
      refine (hM.conv _ l s f t on _ (HAT.out.below c1 (Nat.le_refl _)) (by omega) HOK.out HS.out HF.out HT.out HON.out).mono ?_
      rintro e w2 ⟨rfl, b1⟩
      rw [NX.out]
      simp only [pv]
      have c2 := chain c1 b1
      clear b1 c1
      go_wp2_with fail
      refine (hM.conv _ l x t f on _ (HAT.out.below c2 (Nat.le_refl _)) (by omega) HOK.out HX.out HT.out HF.out HON.out).mono ?_
      rintro e w3 ⟨rfl, b1⟩
      rw [NY.out]
      simp only [pv]
      have c3 := chain c2 b1
      clear b1 c2
      go_wp2_with fail
      refine (Find_x _ l f t on _ (HAT.out.below c3 (Nat.le_refl _)) (by omega)).mono ?_
      rintro e' w4 ⟨n, rfl, hn, hq⟩
      have c4 : Below w.heap.size w w4 := by obtain ⟨m, rfl⟩ := hq; exact below_drewN c3 m
      clear hq c3
      rw [HP.out] at hn
      obtain ⟨j, rfl, hj⟩ := at_some hn
      have j0 : (0 : Int) ≤ (j : Int) := by omega
      clear hn hj
      go_wp2_with fail
      refine (Find_x _ l t f on _ (HAT.out.below c4 (Nat.le_refl _)) (by omega)).mono ?_
      rintro e' w5 ⟨n2, rfl, hn2, hq⟩
      have c5 : Below w.heap.size w w5 := by obtain ⟨m, rfl⟩ := hq; exact below_drewN c4 m
      clear hq c4
      rw [HQ.out] at hn2
      obtain ⟨j2, rfl, hj2⟩ := at_some hn2
      have j3 : (0 : Int) ≤ (j2 : Int) := by omega
      clear hn2 hj2
      go_wp2_with fail
      go_ret
      exact ⟨by try rfl, c5⟩
    | none =>
      obtain ⟨rfl, y0, y1, y2, y3, ⟨p1, p2⟩, p3, p4⟩ := back_law hx ft hp hq hy
      clear hp hq hx hy x2 ft
      obtain ⟨q, hqq⟩ : ∃ q, r.d / r.n = q := ⟨_, rfl⟩
      rw [hqq] at y3
      have q0 : 0 ≤ q := by rw [← hqq]; exact Int.ediv_nonneg (by omega) (by omega)
      have q1 : q ≤ 1073741824 := by rw [← hqq]; exact Int.le_trans (Int.ediv_le_self _ (by omega)) p4
      have u1 : r.d.tdiv r.n = q := by rw [Int.tdiv_eq_ediv_of_nonneg (by omega)]; exact hqq
      have u2 : (r.n == 0) = false := by simp; omega
      have u3 : IntKind.i64.wrap q = q := IntWalk.i64_in _ (by omega)
      have u4 : IntKind.i64.wrap (q + 1) = q + 1 := IntWalk.i64_in _ (by omega)
      have u5 : IntKind.i64.wrap (s - y) = s - y := IntWalk.i64_in _ (by omega)
      have u6 : decide (y ≤ s) = true := decide_eq_true y1
      have u7 : decide (s - y ≤ q + 1) = true := decide_eq_true y3
      clear hqq
      go_enter Try.func6, Try.ntmps6
      go_wp2_with fail
      refine (sane_x hM _).mono ?_
      rintro e w1 ⟨rfl, b1⟩
      have c1 := chain c0 b1
      clear b1 c0
      go_wp2_with fail
      refine (hM.conv _ l s f t on _ (HAT.out.below c1 (Nat.le_refl _)) (by omega) HOK.out HS.out HF.out HT.out HON.out).mono ?_
      rintro e w2 ⟨rfl, b1⟩
      rw [NX.out]
      simp only [pv]
      have c2 := chain c1 b1
      clear b1 c1
      go_wp2_with fail
      refine (hM.conv _ l x t f on _ (HAT.out.below c2 (Nat.le_refl _)) (by omega) HOK.out HX.out HT.out HF.out HON.out).mono ?_
      rintro e w3 ⟨rfl, b1⟩
      rw [NY.out]
      simp only [pv]
      have c3 := chain c2 b1
      clear b1 c2
      go_wp2_with fail
      refine (Find_x _ l f t on _ (HAT.out.below c3 (Nat.le_refl _)) (by omega)).mono ?_
      rintro e' w4 ⟨n, rfl, hn, hq⟩
      have c4 : Below w.heap.size w w4 := by obtain ⟨m, rfl⟩ := hq; exact below_drewN c3 m
      clear hq c3
      rw [HP.out] at hn
      obtain ⟨j, rfl, hj⟩ := at_some hn
      have j0 : (0 : Int) ≤ (j : Int) := by omega
      have jl : j < l.length := (List.getElem?_eq_some_iff.1 hj).1
      have j1 : (j : Int) < (l.length : Int) := by omega
      go_wp2_with fail
      refine (Find_x _ l t f on _ (HAT.out.below c4 (Nat.le_refl _)) (by omega)).mono ?_
      rintro e' w5 ⟨n2, rfl, hn2, hq⟩
      have c5 : Below w.heap.size w w5 := by obtain ⟨m, rfl⟩ := hq; exact below_drewN c4 m
      clear hq c4
      rw [HQ.out] at hn2
      obtain rfl := at_none hn2
      clear hn2
      obtain ⟨b, off, rfl, hb, -, -, r2, r3, -⟩ := HC.out j r hj
      have q2 := (c5.cell (p := ⟨b, off + j * 5 + 2, none⟩) hb).trans r2
      have q3 := (c5.cell (p := ⟨b, off + j * 5 + 3, none⟩) hb).trans r3
      clear hn hj jl HC r2 r3
      go_wp2_with fail
      go_quiet (fail)
      go_wp2_with fail
      go_ret
      exact ⟨by try rfl, below_drewN c5 _⟩

end Go.Proofs.Ytdijhpcnlbjdaaa
