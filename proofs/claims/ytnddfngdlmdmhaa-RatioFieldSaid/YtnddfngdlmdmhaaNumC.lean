/-
  The reference's Times.
-/
import Derived.Test.YtnddfngdlmdmhaaNumB
namespace Go.Proofs.Ytnddfngdlmdmhaa
open Go.RowKit

/-- the first m digits of T, the others of P -/
def mix (T P m : Nat) : Nat → Int := fun j => if j < m then (Dg.dig T j : Nat) else (Dg.dig P j : Nat)
theorem mix_at (T P m : Nat) : mix T P m m = (Dg.dig P m : Nat) := by unfold mix; rw [if_neg (Nat.lt_irrefl m)]
theorem mix_next {T P b m : Nat} {w : World} (x : Int) (hx : x = (Dg.dig T m : Nat)) (h : Own5 w b (fun j => if j = m then x else mix T P m j)) : Own5 w b (mix T P (m + 1)) := by
  have e : (fun j => if j = m then x else mix T P m j) = mix T P (m + 1) := by
    funext j
    unfold mix
    by_cases h1 : j = m
    · subst h1; rw [if_pos rfl, if_pos (Nat.lt_succ_self _), hx]
    · rw [if_neg h1]
      by_cases h2 : j < m
      · rw [if_pos h2, if_pos (by omega)]
      · rw [if_neg h2, if_neg (by omega)]
  rw [← e]; exact h
/-- the digits of both agree below i -/
theorem low_dig {P x i : Nat} : ∀ j, j < i → Dg.dig (P + x * Dg.pw i) j = Dg.dig P j := by
  intro j hj
  unfold Dg.dig
  have key : ∀ d, Dg.sh (P + x * Dg.pw (j + 1 + d)) j % 1073741824 = Dg.sh P j % 1073741824 := by
    intro d
    have e : x * Dg.pw (j + 1 + d) = (x * Dg.pw d * 1073741824) * Dg.pw j := by
      have : ∀ m n, Dg.pw (m + n) = Dg.pw m * Dg.pw n := by
        intro m n
        induction n with
        | zero => simp [Dg.pw]
        | succ n ih => rw [← Nat.add_assoc, Dg.pw, ih, Dg.pw, Nat.mul_assoc]
      rw [this, this]
      show x * (Dg.pw j * (1 * 1073741824) * Dg.pw d) = _
      rw [Nat.one_mul]
      grind
    rw [e, Dg.sh_add]
    omega
  have := key (i - (j + 1))
  rw [show j + 1 + (i - (j + 1)) = i from by omega] at this
  exact this
theorem mix_start {P x i b : Nat} {w : World} (h : Own5 w b (fun j => (Dg.dig P j : Nat))) : Own5 w b (mix (P + x * Dg.pw i) P (i + 0)) := by
  have e : mix (P + x * Dg.pw i) P (i + 0) = fun j => ((Dg.dig P j : Nat) : Int) := by
    funext j
    unfold mix
    split
    · rename_i hj; rw [low_dig j (by omega)]
    · rfl
  rw [e]; exact h

def TiRel (P T C d i b : Nat) (w : World) (cv kv : Value) (wr : World) : Prop := ∃ k c : Nat, i + k ≤ 5 ∧ kv = .int .i64 (k : Int) ∧ cv = .int .i64 (c : Int) ∧ c < 1073741824 ∧ Dg.sh P (i + k) + d * Dg.sh C k + c = Dg.sh T (i + k) ∧ Own5 wr b (mix T P (i + k)) ∧ Below w.heap.size w wr
def ToRel (A C b : Nat) (w : World) (iv : Value) (wr : World) : Prop := ∃ i : Nat, i ≤ 5 ∧ iv = .int .i64 (i : Int) ∧ Own5 wr b (fun j => (Dg.dig ((A % Dg.pw i) * C) j : Nat)) ∧ Below w.heap.size w wr

set_option maxHeartbeats 6400000 in
theorem Times_x (va vc : Value) (A C : Nat) (w : World) (ha : Num w va A) (hc : Num w vc C) (hA : A < Dg.pw 5) :
    Calls Try.prog 48 #[va, vc] w fun e w' => ∃ v, e = .returned v ∧ Num w' v (A * C) ∧ Below w.heap.size w w' := by
  obtain ⟨ba, rfl, la, ca⟩ := ha
  obtain ⟨bc, rfl, lc, cc⟩ := hc
  have Ca := Lib.hid ca
  have Cc := Lib.hid cc
  have HA := Lib.hid hA
  clear ca cc hA
  have hmk := make5
  have hst : Hid (Own5 (w.alloc (.cells #[.int .i64 0, .int .i64 0, .int .i64 0, .int .i64 0, .int .i64 0] 3)) w.heap.size (fun j => (Dg.dig ((A % Dg.pw 0) * C) j : Nat))) := by
    have e : (A % Dg.pw 0) * C = 0 := by simp [Dg.pw, Nat.mod_one]
    show Own5 _ _ _
    rw [e]
    have := Own5.new w 3
    have e2 : (fun j => ((Dg.dig 0 j : Nat) : Int)) = fun _ => 0 := by funext j; rw [Dg.sh_dig_zero]; rfl
    rw [e2]; exact this
  go_enter Try.func48, Try.ntmps48
  go_wp2_with fail
  go_loopw [6] (fun iv wr => ToRel A C w.heap.size w iv wr) (fun i _ => 5 - (intOf i).toNat)
  case atStart => exact ⟨0, Nat.zero_le _, rfl, hst.out, (Below.refl _ _).alloc (Nat.le_refl _) _⟩
  case round =>
    obtain ⟨i, hi, rfl, ho, hb⟩ := hrel
    have Ho := Lib.hid ho
    clear ho hst
    obtain ⟨wo, rfl⟩ : ∃ wo : World, wo = wr := ⟨_, rfl⟩
    by_cases hlt : i < 5
    · have hd := Dg.dig_lt A i
      obtain ⟨d, ed⟩ : ∃ d, d = Dg.dig A i := ⟨_, rfl⟩
      rw [← ed] at hd
      have hP : ∃ P, P = (A % Dg.pw i) * C := ⟨_, rfl⟩
      obtain ⟨P, eP⟩ := hP
      have hT : ∃ T, T = P + d * C * Dg.pw i := ⟨_, rfl⟩
      obtain ⟨T, eT⟩ := hT
      have hT2 : Hid (T = (A % Dg.pw (i + 1)) * C) := by show _ = _; rw [eT, eP, Dg.row_next, ed]
      have hs0 : Hid (Dg.sh P (i + 0) + d * Dg.sh C 0 + 0 = Dg.sh T (i + 0)) := by
        show _ = _
        rw [eT]
        show Dg.sh P i + d * C + 0 = Dg.sh (P + d * C * Dg.pw i) i
        rw [Dg.sh_add]
        rfl
      have hm0 : Hid (Own5 wo w.heap.size (mix T P (i + 0))) := by
        have h := Ho.out
        rw [← eP] at h
        show Own5 _ _ _
        rw [eT]
        exact mix_start h
      have Ed := Lib.hid ed
      clear eP eT ed Ho
      go_wp2_with fail
      go_loopw [7, 8] (fun cv kv wr => TiRel P T C d i w.heap.size w cv kv wr) (fun _ k _ => 5 - (intOf k).toNat)
      case atStart => exact ⟨0, 0, by omega, rfl, rfl, by omega, hs0.out, hm0.out, hb⟩
      case round =>
        obtain ⟨k, c, hk, rfl, rfl, hc1, hs, ho, hb2⟩ := hrel
        have Ho := Lib.hid ho
        have Hs := Lib.hid hs
        clear ho hs hs0 hm0
        by_cases hlt2 : i + k < 5
        · have p := (hb2.cell (p := ⟨ba, i, none⟩) la).trans (Ca.out i (by omega))
          have q := (hb2.cell (p := ⟨bc, k, none⟩) lc).trans (Cc.out k (by omega))
          rw [← Ed.out] at p
          have hcc := Ho.out.2.1 (i + k) hlt2
          have hf := Ho.out.2.2 (i + k)
          rw [mix_at] at hcc
          obtain ⟨s1, s2, s3, s4⟩ := Dg.times_step hd hc1 Hs.out
          have hst := Lib.hid (fun (n : Nat) (x : Int) (hx : x = (Dg.dig T (i + k) : Nat)) => mix_next x hx ((Ho.out.drewN n).set (i + k) hlt2 x))
          have hbs := Lib.hid (fun (n : Nat) (x : Value) => (below_drewN hb2 n).setCell (p := ⟨w.heap.size, i + k, none⟩) (Nat.le_refl _) x)
          have uy := Dg.dig_lt C k
          have ux := Dg.dig_lt P (i + k)
          generalize Dg.dig C k = y at *
          generalize Dg.dig P (i + k) = x at *
          have hmul : ((d * y : Nat) : Int) = (d : Int) * (y : Int) := Int.natCast_mul d y
          have m0 : 0 ≤ (d : Int) * (y : Int) := by omega
          have m1 : (d : Int) * (y : Int) ≤ 1152921502459363329 := by omega
          have V : Hid (∀ z : Int, z = (c : Int) + (x : Int) + (d : Int) * (y : Int) → z % 1073741824 = (Dg.dig T (i + k) : Nat) ∧ z / 1073741824 = (((c + x + d * y) / 1073741824 : Nat) : Int)) := by
            intro z hz
            rw [← hmul] at hz
            constructor
            · rw [← s1]; omega
            · omega
          have S2 := Lib.hid s2
          have S3 := Lib.hid s3
          clear s1 s2 s3 s4 hmul
          have hik0 : (0 : Int) ≤ (i : Int) + (k : Int) := by omega
          have hik5 : (i : Int) + (k : Int) < 5 := by omega
          have hi0 : (0 : Int) ≤ (i : Int) := by omega
          have hi5 : (i : Int) < 5 := by omega
          have hk0 : (0 : Int) ≤ (k : Int) := by omega
          have hk5 : (k : Int) < 5 := by omega
          have hik : ((i : Int) + (k : Int)).toNat = i + k := by omega
          have w0 : IntKind.i64.wrap ((i : Int) + (k : Int)) = (i : Int) + (k : Int) := IntWalk.i64_in _ (by omega)
          have w1 : IntKind.i64.wrap ((c : Int) + (x : Int)) = (c : Int) + (x : Int) := IntWalk.i64_in _ (by omega)
          have w2 : IntKind.i64.wrap ((d : Int) * (y : Int)) = (d : Int) * (y : Int) := IntWalk.i64_in _ (by omega)
          have w3 : IntKind.i64.wrap ((c : Int) + (x : Int) + (d : Int) * (y : Int)) = (c : Int) + (x : Int) + (d : Int) * (y : Int) := IntWalk.i64_in _ (by omega)
          have z0 : 0 ≤ (c : Int) + (x : Int) + (d : Int) * (y : Int) := by omega
          have z1 : (c : Int) + (x : Int) + (d : Int) * (y : Int) ≤ 1152921506754330623 := by omega
          go_wp2_with fail
          go_quiet (fail)
          clear w0 w1 w2 w3
          go_wp2_with fail
          go_roundw
          case rel => exact ⟨k + 1, (c + x + d * y) / 1073741824, by omega, by go_num, by rw [(V.out _ rfl).2], S3.out, S2.out, hst.out _ _ (V.out _ rfl).1, hbs.out _ _⟩
          case measure => simp [intOf]; omega
        · have hfin : Hid (Own5 wr w.heap.size (fun j => (Dg.dig ((A % Dg.pw (i + 1)) * C) j : Nat))) := by
            have h := Ho.out
            rw [← hT2.out]
            refine ⟨h.1, fun j hj => ?_, h.2.2⟩
            rw [h.2.1 j hj]; unfold mix; rw [if_pos (by omega)]
          go_wp2_with fail
          go_roundw
          case rel => exact ⟨i + 1, by omega, by go_num, hfin.out, hb2⟩
          case measure => simp [intOf]; omega
    · have hfin : Hid (Num wo (.slice (some ⟨w.heap.size, 0, none⟩) 5 5) (A * C)) := by
        have h := Ho.out
        rw [show i = 5 from by omega, Nat.mod_eq_of_lt HA.out] at h
        exact h.num (fun j _ => rfl)
      go_wp2_with fail
      go_ret
      exact ⟨_, rfl, hfin.out, hb⟩

end Go.Proofs.Ytnddfngdlmdmhaa
