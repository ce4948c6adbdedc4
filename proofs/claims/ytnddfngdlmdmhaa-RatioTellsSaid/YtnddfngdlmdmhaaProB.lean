/-
  The program's numbers of 128 bits: times, opposite, product, plus, negative, size.
-/
import Derived.Test.YtnddfngdlmdmhaaProA
namespace Go.Proofs.Ytnddfngdlmdmhaa
open Go.RowKit

/-- a number of 128 bits as a value -/
abbrev wv (N : Nat) : Value := .agg #[.int .u64 ((N / 18446744073709551616 : Nat) : Int), .int .u64 ((N % 18446744073709551616 : Nat) : Int)]
/-- two words in a block -/
def AtU (w : World) (b : Nat) (h l : Nat) : Prop := b < w.heap.size ∧ w.cell? ⟨b, 0, none⟩ = some (.int .u64 (h : Int)) ∧ w.cell? ⟨b, 1, none⟩ = some (.int .u64 (l : Int))
theorem AtU.below {w w' : World} {b h l : Nat} (k : AtU w b h l) (hb : Below w.heap.size w w') : AtU w' b h l := by
  obtain ⟨h0, h1, h2⟩ := k
  refine ⟨by have := hb.size; omega, ?_, ?_⟩
  · rw [hb.cell (p := ⟨b, 0, none⟩) h0]; exact h1
  · rw [hb.cell (p := ⟨b, 1, none⟩) h0]; exact h2
theorem AtU.alloc {w : World} {b h l : Nat} (k : AtU w b h l) (o : Obj) : AtU (w.alloc o) b h l := k.below ((Below.refl _ _).alloc (Nat.le_refl _) _)
theorem AtU.drew {w : World} {b h l : Nat} (k : AtU w b h l) : AtU w.drew b h l := k.below (Below.drew (Below.refl _ _))
theorem AtU.new (w : World) (h l : Nat) (T : TypeId) (n : Nat) (hn : n = w.heap.size) : AtU (w.alloc (.cells #[.int .u64 (h : Int), .int .u64 (l : Int)] T)) n h l := by
  subst hn
  refine ⟨by simp, ?_, ?_⟩ <;> rw [World.cell?_alloc_new] <;> rfl
/-- a fresh block of the call's own, two zeros -/
structure Fr (w : World) (b : Nat) (W : World) : Prop where
  below : Below w.heap.size w W
  ge : w.heap.size ≤ b
  size : b < W.heap.size
  c0 : W.cell? ⟨b, 0, none⟩ = some (.int .u64 0)
  c1 : W.cell? ⟨b, 1, none⟩ = some (.int .u64 0)
  f : ∀ o, W.frozen? ⟨b, o, none⟩ = false
theorem Fr.next {w : World} {b : Nat} {W W' : World} (h : Fr w b W) (hb : Below W.heap.size W W') : Fr w b W' := by
  have s := h.size
  refine ⟨chain h.below hb, h.ge, by have := hb.size; omega, ?_, ?_, fun o => ?_⟩
  · rw [hb.cell (p := ⟨b, 0, none⟩) s]; exact h.c0
  · rw [hb.cell (p := ⟨b, 1, none⟩) s]; exact h.c1
  · rw [hb.frozen (p := ⟨b, o, none⟩) s]; exact h.f o
theorem Fr.new {w W : World} (hb : Below w.heap.size w W) (hs : w.heap.size ≤ W.heap.size) (T : TypeId) (b : Nat) (e : b = W.heap.size) : Fr w b (W.alloc (.cells #[.int .u64 0, .int .u64 0] T)) := by
  subst e
  refine ⟨hb.alloc hs _, hs, by simp, ?_, ?_, fun o => World.frozen?_alloc_at _ _ _ _ rfl⟩ <;> rw [World.cell?_alloc_new] <;> rfl

theorem wtimes_x (a b : Nat) (w : World) (ha : a < 18446744073709551616) (hb : b < 18446744073709551616) : Calls Try.prog 46 #[.int .u64 a, .int .u64 b] w fun e w' => e = .returned (wv (a * b)) ∧ Below w.heap.size w w' := by
  have Hm : Hid (∀ w : World, Calls Try.prog 59 #[.int .u64 a, .int .u64 b] w fun e w' => e = .returned (.tuple #[.int .u64 ((a * b / 18446744073709551616 : Nat) : Int), .int .u64 ((a * b % 18446744073709551616 : Nat) : Int)]) ∧ w' = w) := fun w => mul64_x a b ha hb w
  clear ha hb
  show Calls Try.prog 46 #[.int .u64 a, .int .u64 b] w fun e w' => e = .returned (.agg #[.int .u64 ((a * b / 18446744073709551616 : Nat) : Int), .int .u64 ((a * b % 18446744073709551616 : Nat) : Int)]) ∧ Below w.heap.size w w'
  generalize a * b / 18446744073709551616 = h at *
  generalize a * b % 18446744073709551616 = l at *
  go_enter Try.func46, Try.ntmps46
  go_wp2_with fail
  refine (Hm.out _).mono ?_
  rintro e w2 ⟨rfl, hw⟩
  subst hw
  go_wp2_with fail
  exact bodyPost_ret (v := .agg #[.int .u64 (h : Int), .int .u64 (l : Int)]) (by simp [results, Try.results46, go_sem]) rfl ⟨rfl, (by repeat (first | exact Below.refl _ _ | assumption | refine below_drewN ?_ _ | refine Below.drew ?_ | refine Below.setCell ?_ (by simp) _ | refine Below.alloc ?_ (by simp; try omega) _))⟩

/-- the opposite, word by word -/
theorem opp_words {h l b : Nat} (hl : l < 18446744073709551616) (hh : h < 18446744073709551616) (hb : b = bor 0 (l + 0)) :
    (340282366920938463463374607431768211456 - (h * 18446744073709551616 + l)) % 340282366920938463463374607431768211456 / 18446744073709551616 = (0 + 18446744073709551616 - h - b) % 18446744073709551616 ∧
    (340282366920938463463374607431768211456 - (h * 18446744073709551616 + l)) % 340282366920938463463374607431768211456 % 18446744073709551616 = (0 + 18446744073709551616 - l - 0) % 18446744073709551616 := by
  subst hb
  unfold bor
  by_cases h0 : l = 0
  · subst h0
    rw [if_neg (by decide)]
    omega
  · rw [if_pos (by omega)]
    omega

theorem oppw_x (N : Nat) (w : World) (hN : N < 340282366920938463463374607431768211456) : Calls Try.prog 55 #[wv N] w fun e w' => e = .returned (wv ((340282366920938463463374607431768211456 - N) % 340282366920938463463374607431768211456)) ∧ Below w.heap.size w w' := by
  have eN : N / 18446744073709551616 * 18446744073709551616 + N % 18446744073709551616 = N := Nat.div_add_mod' N _
  obtain ⟨r1, r2⟩ := opp_words (h := N / 18446744073709551616) (l := N % 18446744073709551616) (Nat.mod_lt _ (by decide)) (by omega) rfl
  rw [eN] at r1 r2
  show Calls Try.prog 55 #[.agg #[.int .u64 ((N / 18446744073709551616 : Nat) : Int), .int .u64 ((N % 18446744073709551616 : Nat) : Int)]] w fun e w' => e = .returned (.agg #[.int .u64 (((340282366920938463463374607431768211456 - N) % 340282366920938463463374607431768211456 / 18446744073709551616 : Nat) : Int), .int .u64 (((340282366920938463463374607431768211456 - N) % 340282366920938463463374607431768211456 % 18446744073709551616 : Nat) : Int)]) ∧ Below w.heap.size w w'
  rw [r1, r2]
  clear r1 r2 eN hN
  generalize N / 18446744073709551616 = h at *
  generalize N % 18446744073709551616 = l at *
  have hb : bor 0 (l + 0) ≤ 1 := bor_le _ _
  have s1 := sub64_x 0 l 0 (by decide)
  have s2 := sub64_x 0 h (bor 0 (l + 0)) hb
  generalize bor 0 (l + 0) = b at *
  generalize bor 0 (h + b) = b2 at *
  generalize (0 + 18446744073709551616 - h - b) % 18446744073709551616 = x at *
  generalize (0 + 18446744073709551616 - l - 0) % 18446744073709551616 = y at *
  simp only [Int.natCast_zero] at s1 s2
  have S1 := Lib.hid s1
  have S2 := Lib.hid s2
  clear s1 s2 hb
  go_enter Try.func55, Try.ntmps55
  go_wp2_with (first | simp only [S1.out] | simp only [S2.out])
  exact bodyPost_ret (v := .agg #[.int .u64 (x : Int), .int .u64 (y : Int)]) (by simp [results, Try.results55, go_sem]) rfl ⟨rfl, (by repeat (first | exact Below.refl _ _ | assumption | refine below_drewN ?_ _ | refine Below.drew ?_ | refine Below.setCell ?_ (by simp) _ | refine Below.alloc ?_ (by simp; try omega) _))⟩

/-- the sum, word by word -/
theorem add_words {h l i k : Nat} :
    ((h * 18446744073709551616 + l) + (i * 18446744073709551616 + k)) % 340282366920938463463374607431768211456 / 18446744073709551616 = (h + i + (l + k + 0) / 18446744073709551616) % 18446744073709551616 ∧
    ((h * 18446744073709551616 + l) + (i * 18446744073709551616 + k)) % 340282366920938463463374607431768211456 % 18446744073709551616 = (l + k + 0) % 18446744073709551616 := by
  omega

theorem wplus_x (N M : Nat) (w : World) : Calls Try.prog 41 #[wv N, wv M] w fun e w' => e = .returned (wv ((N + M) % 340282366920938463463374607431768211456)) ∧ Below w.heap.size w w' := by
  have eN : N / 18446744073709551616 * 18446744073709551616 + N % 18446744073709551616 = N := Nat.div_add_mod' N _
  have eM : M / 18446744073709551616 * 18446744073709551616 + M % 18446744073709551616 = M := Nat.div_add_mod' M _
  obtain ⟨r1, r2⟩ := add_words (h := N / 18446744073709551616) (l := N % 18446744073709551616) (i := M / 18446744073709551616) (k := M % 18446744073709551616)
  rw [eN, eM] at r1 r2
  show Calls Try.prog 41 #[.agg #[.int .u64 ((N / 18446744073709551616 : Nat) : Int), .int .u64 ((N % 18446744073709551616 : Nat) : Int)], .agg #[.int .u64 ((M / 18446744073709551616 : Nat) : Int), .int .u64 ((M % 18446744073709551616 : Nat) : Int)]] w fun e w' => e = .returned (.agg #[.int .u64 (((N + M) % 340282366920938463463374607431768211456 / 18446744073709551616 : Nat) : Int), .int .u64 (((N + M) % 340282366920938463463374607431768211456 % 18446744073709551616 : Nat) : Int)]) ∧ Below w.heap.size w w'
  rw [r1, r2]
  have hc : (N % 18446744073709551616 + M % 18446744073709551616 + 0) / 18446744073709551616 ≤ 1 := by omega
  clear r1 r2 eN eM
  generalize N / 18446744073709551616 = h at *
  generalize N % 18446744073709551616 = l at *
  generalize M / 18446744073709551616 = i at *
  generalize M % 18446744073709551616 = k at *
  have s1 := add64_x l k 0 (by decide)
  have s2 := add64_x h i ((l + k + 0) / 18446744073709551616) hc
  generalize (l + k + 0) / 18446744073709551616 = c at *
  generalize (l + k + 0) % 18446744073709551616 = y at *
  generalize (h + i + c) % 18446744073709551616 = x at *
  generalize (h + i + c) / 18446744073709551616 = c2 at *
  simp only [Int.natCast_zero] at s1 s2
  have S1 := Lib.hid s1
  have S2 := Lib.hid s2
  clear s1 s2 hc
  go_enter Try.func41, Try.ntmps41
  go_wp2_with (first | simp only [S1.out] | simp only [S2.out])
  exact bodyPost_ret (v := .agg #[.int .u64 (x : Int), .int .u64 (y : Int)]) (by simp [results, Try.results41, go_sem]) rfl ⟨rfl, (by repeat (first | exact Below.refl _ _ | assumption | refine below_drewN ?_ _ | refine Below.drew ?_ | refine Below.setCell ?_ (by simp) _ | refine Below.alloc ?_ (by simp; try omega) _))⟩

theorem negative_x (N : Nat) (w : World) (hN : N < 340282366920938463463374607431768211456) : Calls Try.prog 44 #[wv N] w fun e w' => e = .returned (.bool (decide (170141183460469231731687303715884105728 ≤ N))) ∧ Below w.heap.size w w' := by
  have e : decide (170141183460469231731687303715884105728 ≤ N) = decide (N / 18446744073709551616 / 9223372036854775808 = 1) := by
    by_cases h : 170141183460469231731687303715884105728 ≤ N
    · rw [decide_eq_true h, decide_eq_true (by omega)]
    · rw [decide_eq_false h, decide_eq_false (by omega)]
  rw [e]
  show Calls Try.prog 44 #[.agg #[.int .u64 ((N / 18446744073709551616 : Nat) : Int), .int .u64 ((N % 18446744073709551616 : Nat) : Int)]] w fun e w' => e = .returned (.bool (decide (N / 18446744073709551616 / 9223372036854775808 = 1))) ∧ Below w.heap.size w w'
  clear e hN
  generalize N / 18446744073709551616 = h at *
  generalize N % 18446744073709551616 = l at *
  have k : (((h : Int) / 9223372036854775808) == 1) = decide (h / 9223372036854775808 = 1) := by
    by_cases h1 : h / 9223372036854775808 = 1
    · rw [decide_eq_true h1, beq_iff_eq]; omega
    · rw [decide_eq_false h1, beq_eq_false_iff_ne]; omega
  have K := Lib.hid k
  clear k
  go_enter Try.func44, Try.ntmps44
  go_wp2_with fail
  go_ret
  exact ⟨congrArg (fun x => Ending.returned (Value.bool x)) K.out, (by repeat (first | exact Below.refl _ _ | assumption | refine below_drewN ?_ _ | refine Below.drew ?_ | refine Below.setCell ?_ (by simp) _ | refine Below.alloc ?_ (by simp; try omega) _))⟩

/-- the size of a number of 128 bits with a sign -/
def sz (N : Nat) : Nat := if 170141183460469231731687303715884105728 ≤ N then 340282366920938463463374607431768211456 - N else N
theorem size_x (N : Nat) (w : World) (hN : N < 340282366920938463463374607431768211456) : Calls Try.prog 42 #[wv N] w fun e w' => e = .returned (wv (sz N)) ∧ Below w.heap.size w w' := by
  have HN : Hid (N < 340282366920938463463374607431768211456) := hN
  have A1 := Lib.hid ((AtU.new w (N / 18446744073709551616) (N % 18446744073709551616) 44 _ rfl).alloc (.cells #[.int .u64 0, .int .u64 0] 44))
  have F1 := Lib.hid (Fr.new (W := w.alloc (.cells #[.int .u64 ((N / 18446744073709551616 : Nat) : Int), .int .u64 ((N % 18446744073709551616 : Nat) : Int)] 44)) ((Below.refl w.heap.size w).alloc (Nat.le_refl _) _) (by simp) 44 (w.heap.size + 1) (by simp))
  clear hN
  go_enter Try.func42, Try.ntmps42
  go_wp2_with fail
  refine (negative_x N _ HN.out).mono ?_
  rintro e w2 ⟨rfl, b2⟩
  have A2 := Lib.hid (A1.out.below b2)
  have F2 := Lib.hid (F1.out.next b2)
  clear A1 F1 b2
  obtain ⟨x0, x1, x2⟩ := A2.out
  have x3 := F2.out.size
  have x4 := F2.out.c0
  have x5 := F2.out.c1
  have x6 := F2.out.f 0
  have x7 := F2.out.f 1
  by_cases c : 170141183460469231731687303715884105728 ≤ N
  · rw [decide_eq_true c]
    have e : (340282366920938463463374607431768211456 - N) % 340282366920938463463374607431768211456 = 340282366920938463463374607431768211456 - N := Nat.mod_eq_of_lt (by omega)
    have hv : Hid (wv ((340282366920938463463374607431768211456 - N) % 340282366920938463463374607431768211456) = wv (sz N)) := by
      show _ = _
      unfold sz
      rw [if_pos c, e]
    clear c e
    go_wp2_with fail
    refine (oppw_x N _ HN.out).mono ?_
    rintro e w3 ⟨rfl, b3⟩
    have F3 := Lib.hid (F2.out.next b3)
    clear x0 x1 x2 x3 x4 x5 x6 x7 b3 A2 F2
    have x3 := F3.out.size
    have x4 := F3.out.c0
    have x5 := F3.out.c1
    have x6 := F3.out.f 0
    have x7 := F3.out.f 1
    have x8 := F3.out.below
    have x9 := F3.out.ge
    obtain ⟨V, hV⟩ : ∃ V, V = (340282366920938463463374607431768211456 - N) % 340282366920938463463374607431768211456 := ⟨_, rfl⟩
    rw [← hV] at hv ⊢
    clear hV
    go_wp2_with fail
    exact bodyPost_ret (v := wv V) (by simp [results, Try.results42, go_sem, x4, x5]) rfl ⟨by rw [hv.out], (by repeat (first | exact Below.refl _ _ | assumption | refine below_drewN ?_ _ | refine Below.drew ?_ | refine Below.setCell ?_ (by simp) _ | refine Below.alloc ?_ (by simp; try omega) _))⟩
  · rw [decide_eq_false c]
    have hv : Hid (wv N = wv (sz N)) := by
      show _ = _
      unfold sz
      rw [if_neg c]
    have x8 := F2.out.below
    have x9 := F2.out.ge
    clear c
    go_wp2_with fail
    exact bodyPost_ret (v := wv N) (by simp [results, Try.results42, go_sem, x4, x5]) rfl ⟨by rw [hv.out], (by repeat (first | exact Below.refl _ _ | assumption | refine below_drewN ?_ _ | refine Below.drew ?_ | refine Below.setCell ?_ (by simp) _ | refine Below.alloc ?_ (by simp; try omega) _))⟩

end Go.Proofs.Ytnddfngdlmdmhaa
