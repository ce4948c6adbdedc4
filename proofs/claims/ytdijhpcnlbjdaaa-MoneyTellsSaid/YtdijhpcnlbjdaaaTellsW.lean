/-
  The law MoneyTells's walk.
-/
import Derived.Test.YtdijhpcnlbjdaaaLawA
namespace Go.Proofs.Ytdijhpcnlbjdaaa
open Go.RowKit Mon

set_option maxHeartbeats 12800000 in
set_option maxRecDepth 100000 in
theorem MoneyTells_x (h : MonOk) (v : Value) (l : List R) (s a b c d : Int) (w : World) (hat : RAt w v l) (hok : ∀ r ∈ l, okI r) (hs : I64 s) (ha : I64 a) (hb : I64 b) (hc : I64 c) (hd : I64 d) :
    Calls Try.prog 3 #[v, .int .i64 s, .int .i64 a, .int .i64 b, .int .i64 c, .int .i64 d] w fun e w' => e = .returned (.bool true) ∧ Below w.heap.size w w' := by
  have HAT := Lib.hid hat
  obtain ⟨ad, cap, rfl, -, -⟩ := hat
  have HOK := Lib.hid hok
  have HS := Lib.hid hs
  have HA := Lib.hid ha
  have HB := Lib.hid hb
  have HC := Lib.hid hc
  have HD := Lib.hid hd
  clear hok hs ha hb hc hd
  obtain ⟨x1, x2, hx⟩ : ∃ x1 x2, interest s a b c d = (x1, x2) := ⟨_, _, rfl⟩
  have Nx := Lib.hid hx
  clear hx
  obtain ⟨y1, y2, hy⟩ : ∃ y1 y2, discount s a b = (y1, y2) := ⟨_, _, rfl⟩
  have Ny := Lib.hid hy
  clear hy
  obtain ⟨z1, z2, hz⟩ : ∃ z1 z2, Mon.conv l s a b c = (z1, z2) := ⟨_, _, rfl⟩
  have Nz := Lib.hid hz
  clear hz
  have c0 : Below w.heap.size w w := Below.refl _ _
  by_cases g : 120 < l.length
  · go_enter Try.func3, Try.ntmps3
    go_wp2_with fail
    refine (sane_x h _).mono ?_
    rintro e w1 ⟨rfl, b1⟩
    have c1 := chain c0 b1
    clear b1 c0
    go_wp2_with fail
    go_ret
    exact ⟨by try rfl, c1⟩
  · go_enter Try.func3, Try.ntmps3
    go_wp2_with fail
    refine (sane_x h _).mono ?_
    rintro e w1 ⟨rfl, b1⟩
    have c1 := chain c0 b1
    clear b1 c0
    go_wp2_with fail
    refine (h.int s a b c d _ HS.out HA.out HB.out HC.out HD.out).mono ?_
    rintro e w2 ⟨rfl, b1⟩
    rw [Nx.out]
    simp only [pv]
    have c2 := chain c1 b1
    clear b1 c1
    go_wp2_with fail
    refine (Interest_x s a b c d _).mono ?_
    rintro e w3 ⟨rfl, b1⟩
    rw [Nx.out]
    simp only [pv]
    have c3 := chain c2 b1
    clear b1 c2
    go_wp2_with fail
    refine (h.dis s a b _ HS.out HA.out HB.out).mono ?_
    rintro e w4 ⟨rfl, b1⟩
    rw [Ny.out]
    simp only [pv]
    have c4 := chain c3 b1
    clear b1 c3
    go_wp2_with fail
    refine (Discount_x s a b _).mono ?_
    rintro e w5 ⟨rfl, b1⟩
    rw [Ny.out]
    simp only [pv]
    have c5 := chain c4 b1
    clear b1 c4
    go_wp2_with fail
    refine (h.conv _ l s a b c _ (HAT.out.below c5 (Nat.le_refl _)) (by omega) HOK.out HS.out HA.out HB.out HC.out).mono ?_
    rintro e w6 ⟨rfl, b1⟩
    rw [Nz.out]
    simp only [pv]
    have c6 := chain c5 b1
    clear b1 c5
    go_wp2_with fail
    refine (Convert_x _ l s a b c _ (HAT.out.below c6 (Nat.le_refl _)) (by omega)).mono ?_
    rintro e w7 ⟨rfl, b1⟩
    rw [Nz.out]
    simp only [pv]
    have c7 := chain c6 b1
    clear b1 c6
    go_wp2_with fail
    go_ret
    exact ⟨by try rfl, c7⟩

end Go.Proofs.Ytdijhpcnlbjdaaa
