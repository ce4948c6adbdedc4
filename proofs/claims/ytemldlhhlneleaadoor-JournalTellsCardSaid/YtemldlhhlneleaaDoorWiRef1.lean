/-
  The reference's Int, String, Ints, Strings: each returns the encoding.
-/
import Derived.Test.YtemldlhhlneleaaDoorWiRead
namespace Go.Proofs.YtemldlhhlneleaaDoor.Wi
open Go.RowKit


def half (k : Nat) (a : Nat) : List UInt8 := if a = 0 then [] else Wm.digF k a

/-- behind i rounds -/
def RI (n : Int) (out m i : Value) : Prop := ∃ (k : Nat) (q : Int) (t : List UInt8), k ≤ 20 ∧ i = .int .i64 k ∧ m = .int .i64 q ∧ out = .string (mk (t ++ [59])) ∧ t.length ≤ k ∧
  q.natAbs < 10 ^ (20 - k) ∧ q.natAbs ≤ 9223372036854775808 ∧ (n < 0 → q ≤ 0) ∧ (¬ n < 0 → 0 ≤ q) ∧ ((k = 0 ∧ q = n ∧ t = []) ∨ (1 ≤ k ∧ Wm.digF 20 n.natAbs = half (20 - k) q.natAbs ++ t))

theorem ri_start (n : Int) (hn : Wm.isInt n) : RI n (.string ⟨#[59]⟩) (.int .i64 n) (.int .i64 0) := by
  obtain ⟨h1, h2⟩ := hn
  refine ⟨0, n, [], by omega, rfl, rfl, rfl, by simp, ?_, by omega, by omega, by omega, .inl ⟨rfl, rfl, rfl⟩⟩
  have := Wm.top_lt
  unfold Wm.top at this
  simp only [Nat.sub_zero]
  omega

theorem ri_step {n q : Int} {k : Nat} {t : List UInt8} (hk : k < 20) (hq : q.natAbs < 10 ^ (20 - k)) (hlt : t.length ≤ k) (hq2 : q.natAbs ≤ 9223372036854775808) (hneg : n < 0 → q ≤ 0) (hpos : ¬ n < 0 → 0 ≤ q)
    (h : (k = 0 ∧ q = n ∧ t = []) ∨ (1 ≤ k ∧ Wm.digF 20 n.natAbs = half (20 - k) q.natAbs ++ t)) (hgo : k = 0 ∨ q ≠ 0) (q' : Int) (hq' : q'.natAbs = q.natAbs / 10) (hs1 : q ≤ 0 → q' ≤ 0) (hs2 : 0 ≤ q → 0 ≤ q') (s : ByteArray)
    (hs : s = mk (UInt8.ofNat (48 + q.natAbs % 10) :: (t ++ [59]))) : RI n (.string s) (.int .i64 q') (.int .i64 ((k : Int) + 1)) := by
  refine ⟨k + 1, q', UInt8.ofNat (48 + q.natAbs % 10) :: t, by omega, rfl, rfl, by rw [hs]; rfl, by simp; omega, ?_, by omega, fun hh => hs1 (hneg hh), fun hh => hs2 (hpos hh), .inr ⟨by omega, ?_⟩⟩
  · rw [hq', show 20 - k = (20 - (k + 1)) + 1 from by omega, Nat.pow_succ] at *
    omega
  · have hd : Wm.digF 20 n.natAbs = Wm.digF (20 - k) q.natAbs ++ t := by
      rcases h with ⟨rfl, rfl, rfl⟩ | ⟨h1, h2⟩
      · simp
      · rw [h2, half, if_neg (by omega)]
    rw [hd, hq', show 20 - k = (20 - (k + 1)) + 1 from by omega]
    by_cases h9 : q.natAbs < 10
    · rw [Wm.digF_last _ _ h9, half, if_pos (by omega), show q.natAbs % 10 = q.natAbs from by omega]
      simp
    · rw [Wm.digF_step _ _ h9, half, if_neg (by omega)]
      simp

theorem ri_done {n : Int} {k : Nat} {t : List UInt8} (h : (k = 0 ∧ (0 : Int) = n ∧ t = []) ∨ (1 ≤ k ∧ Wm.digF 20 n.natAbs = half (20 - k) (0 : Int).natAbs ++ t)) (hk : k ≠ 0) : Wm.encI n = (if n < 0 then [45] else []) ++ (t ++ [59]) := by
  rcases h with ⟨h0, _⟩ | ⟨h1, h2⟩
  · exact absurd h0 hk
  · unfold Wm.encI
    rw [h2, show half (20 - k) (0 : Int).natAbs = [] from rfl]
    simp

theorem digit_at (d : Nat) (hd : d < 10) : (⟨#[48, 49, 50, 51, 52, 53, 54, 55, 56, 57]⟩ : ByteArray).extract d (d + 1) = mk [UInt8.ofNat (48 + d)] := by
  have h : ∀ d : Fin 10, (⟨#[48, 49, 50, 51, 52, 53, 54, 55, 56, 57]⟩ : ByteArray).extract d.val (d.val + 1) = mk [UInt8.ofNat (48 + d.val)] := by decide
  exact h ⟨d, hd⟩

theorem dig_str (p a b : Nat) (t : List UInt8) (ha : a = p % 10) (hb : b = p % 10 + 1) : (⟨#[48, 49, 50, 51, 52, 53, 54, 55, 56, 57]⟩ : ByteArray).extract a b ++ mk (t ++ [59]) = mk (UInt8.ofNat (48 + p % 10) :: (t ++ [59])) := by
  subst ha
  subst hb
  rw [digit_at _ (by omega)]
  exact ByteArray.mk_append_mk _ _

theorem cat_minus (t : List UInt8) : (⟨#[45]⟩ : ByteArray) ++ mk t = mk ([45] ++ t) := ByteArray.mk_append_mk _ _

set_option maxHeartbeats 1600000 in
theorem RInt_x (n : Int) (w : World) (hn : Wm.isInt n) : Calls Tryd.prog 54 #[.int .i64 n] w fun e w' => e = .returned (.string (mk (Wm.encI n))) ∧ w = w' := by
  have hst := ri_start n hn
  have Hst := Lib.hid hst
  clear hst hn
  go_enter Tryd.func54, Tryd.ntmps54
  go_wp2_with fail
  go_loop [3, 4, 5] (fun out m i => RI n out m i) (fun _ m i => (intOf m).natAbs + (1 - (intOf i).toNat))
  case atStart => exact Hst.out
  case round =>
    obtain ⟨k, q, t, hk, rfl, rfl, rfl, htl, hq, hq2, hneg, hpos, h⟩ := hrel
    by_cases hgo : k = 0 ∨ q ≠ 0
    · have hk20 : k < 20 := by
        by_cases h20 : k = 20
        · subst h20
          simp at hq
          omega
        · omega
      have hss : (mk (t ++ [59])).size ≤ 21 := by rw [mk_size, List.length_append]; simp; omega
      have Hgo := Lib.hid hgo
      have H := Lib.hid h
      have Hq := Lib.hid hq
      have hb : ((k : Int) == 0) = true ∨ (((k : Int) == 0) = false ∧ (q != 0) = true) := by
        by_cases hk0 : k = 0
        · left; simp [hk0]
        · right; exact ⟨by rw [beq_eq_false_iff_ne]; omega, by rw [bne_iff_ne]; omega⟩
      have Hneg := Lib.hid hneg
      have Hpos := Lib.hid hpos
      clear hgo h hq hneg hpos
      by_cases hq0 : 0 ≤ q
      · obtain ⟨p, rfl⟩ : ∃ p : Nat, q = p := ⟨q.toNat, by omega⟩
        rcases hb with hb | ⟨hb, hb'⟩
        all_goals
          go_wp2
          go_round
          case rel => exact ri_step hk20 Hq.out htl hq2 Hneg.out Hpos.out H.out Hgo.out _ (by omega) (by omega) (by omega) _ (dig_str _ _ _ _ (by omega) (by omega))
          case measure => have := Hgo.out; simp only [intOf]; omega
      · obtain ⟨p, rfl⟩ : ∃ p : Nat, q = -(p : Int) := ⟨(-q).toNat, by omega⟩
        rcases hb with hb | ⟨hb, hb'⟩
        all_goals
          go_wp2
          all_goals
            go_round
            case rel => exact ri_step hk20 Hq.out htl hq2 Hneg.out Hpos.out H.out Hgo.out _ (by omega) (by omega) (by omega) _ (by rw [Int.natAbs_neg, Int.natAbs_natCast]; exact dig_str _ _ _ _ (by omega) (by omega))
            case measure => have := Hgo.out; simp only [intOf]; omega
    · obtain ⟨hk0, rfl⟩ : k ≠ 0 ∧ q = 0 := by omega
      have hE := Lib.hid (ri_done h hk0)
      have hb : ((k : Int) == 0) = false := by rw [beq_eq_false_iff_ne]; omega
      have hss : (mk (t ++ [59])).size ≤ 21 := by rw [mk_size, List.length_append]; simp; omega
      clear h hq hneg hpos hk0
      by_cases hn : n < 0
      · go_wp2
        go_ret
        have he := hE.out
        rw [if_pos (by omega)] at he
        rw [he, ← cat_minus]
        exact ⟨rfl, rfl⟩
      · go_wp2
        go_ret
        have he := hE.out
        rw [if_neg (by omega)] at he
        rw [he]
        exact ⟨rfl, rfl⟩

end Go.Proofs.YtemldlhhlneleaaDoor.Wi

/-
  The reference's String, Ints, Strings.
-/
namespace Go.Proofs.YtemldlhhlneleaaDoor.Wi
open Go.RowKit


theorem cat_of (l : List UInt8) (s : ByteArray) : mk l ++ s = mk (l ++ s.data.toList) := by
  apply ByteArray.ext
  rw [ByteArray.data_append]
  apply Array.ext'
  rw [Array.toList_append]
  rfl

theorem RString_x (s : ByteArray) (w : World) (hs : s.size ≤ 1099511627776) : Calls Tryd.prog 38 #[.string s] w fun e w' => e = .returned (.string (mk (Wm.encS s.data.toList))) ∧ w = w' := by
  have hl : (mk (Wm.encI (s.size : Int))).size ≤ 22 := (Wm.encI_len _).2
  go_enter Tryd.func38, Tryd.ntmps38
  go_wp2_with fail
  refine (RInt_x (s.size : Int) _ ⟨by omega, by omega⟩).mono ?_
  rintro e w1 ⟨rfl, rfl⟩
  go_wp2
  go_ret
  rw [cat_of, Wm.encS, ← size_of]
  exact ⟨rfl, rfl⟩

end Go.Proofs.YtemldlhhlneleaaDoor.Wi

