/-
  The plain mathematics of the program's own reckoning of months: the first day of a month in closed form.
-/
import Derived.Test.YtcjakgpmompaiaaGreatDoorCaCal
import Derived.BigQuiet
import Derived.Deep.QuietTactic
namespace Go.Proofs.YtcjakgpmompaiaaGreatDoor.Ca.Cal

/-- the days of a common year before each month -/
def bef : List Int := [0, 31, 59, 90, 120, 151, 181, 212, 243, 273, 304, 334]
/-- how many of the first n years are leap years -/
def lp (n : Int) : Int := (n + 3) / 4 - (n + 99) / 100 + (n + 399) / 400
theorem lp_succ (j : Nat) : lp ((j : Int) + 1) = lp j + (if leap (2000 + j) then 1 else 0) := by
  unfold lp leap
  by_cases h4 : j % 4 = 0 <;> by_cases h100 : j % 100 = 0 <;> by_cases h400 : j % 400 = 0
  all_goals
    have e4 : ((2000 + j) % 4 == 0) = (j % 4 == 0) := by rw [show (2000 + j) % 4 = j % 4 by omega]
    have e100 : ((2000 + j) % 100 != 0) = (j % 100 != 0) := by rw [show (2000 + j) % 100 = j % 100 by omega]
    have e400 : ((2000 + j) % 400 == 0) = (j % 400 == 0) := by rw [show (2000 + j) % 400 = j % 400 by omega]
    rw [e4, e100, e400]
    simp [h4, h100, h400]
    omega
theorem ylen_lp (j : Nat) : (ylen (2000 + j) : Int) = 365 + (lp ((j : Int) + 1) - lp j) := by
  rw [lp_succ]
  unfold ylen
  cases leap (2000 + j) <;> simp <;> omega
theorem S_lp (j : Nat) : (S (12 * j) : Int) = 365 * j + lp j := by
  induction j with
  | zero => rfl
  | succ j ih =>
    rw [S_year]
    have := ylen_lp j
    rw [Int.natCast_add, ih, this]
    rw [show (((j + 1 : Nat)) : Int) = (j : Int) + 1 by omega]
    omega
/-- the first day of a month -/
def fst (k : Int) : Int := 365 * (k / 12) + bef.getD (k % 12).toNat 0 + lp ((k + 10) / 12)
theorem fst_at (j i : Nat) (h : i < 12) : fst ((12 * j + i : Nat) : Int) = S (12 * j + i) := by
  have e1 : (((12 * j + i : Nat) : Int)) / 12 = j := by omega
  have e2 : ((((12 * j + i : Nat) : Int)) % 12).toNat = i := by omega
  have e3 : (((12 * j + i : Nat) : Int) + 10) / 12 = if i < 2 then (j : Int) else (j : Int) + 1 := by split <;> omega
  have hS := S_lp j
  have hl := lp_succ j
  unfold fst
  rw [e1, e2, e3]
  have l0 : len (12 * j) = mlen (2000 + j) 1 := len_at j 0 (by omega)
  have l1 : len (12 * j + 1) = mlen (2000 + j) 2 := len_at j 1 (by omega)
  have l2 := len_at j 2 (by omega)
  have l3 := len_at j 3 (by omega)
  have l4 := len_at j 4 (by omega)
  have l5 := len_at j 5 (by omega)
  have l6 := len_at j 6 (by omega)
  have l7 := len_at j 7 (by omega)
  have l8 := len_at j 8 (by omega)
  have l9 := len_at j 9 (by omega)
  have l10 := len_at j 10 (by omega)
  have s1 : S (12 * j + 1) = S (12 * j) + len (12 * j) := rfl
  have s2 : S (12 * j + 2) = S (12 * j + 1) + len (12 * j + 1) := rfl
  have s3 : S (12 * j + 3) = S (12 * j + 2) + len (12 * j + 2) := rfl
  have s4 : S (12 * j + 4) = S (12 * j + 3) + len (12 * j + 3) := rfl
  have s5 : S (12 * j + 5) = S (12 * j + 4) + len (12 * j + 4) := rfl
  have s6 : S (12 * j + 6) = S (12 * j + 5) + len (12 * j + 5) := rfl
  have s7 : S (12 * j + 7) = S (12 * j + 6) + len (12 * j + 6) := rfl
  have s8 : S (12 * j + 8) = S (12 * j + 7) + len (12 * j + 7) := rfl
  have s9 : S (12 * j + 9) = S (12 * j + 8) + len (12 * j + 8) := rfl
  have s10 : S (12 * j + 10) = S (12 * j + 9) + len (12 * j + 9) := rfl
  have s11 : S (12 * j + 11) = S (12 * j + 10) + len (12 * j + 10) := rfl
  have hm1 : ∀ k, k = 1 ∨ k = 3 ∨ k = 5 ∨ k = 7 ∨ k = 8 ∨ k = 10 → mlen (2000 + j) k = 31 := by intro k hk; rcases hk with rfl | rfl | rfl | rfl | rfl | rfl <;> rfl
  have hm2 : ∀ k, k = 4 ∨ k = 6 ∨ k = 9 ∨ k = 11 → mlen (2000 + j) k = 30 := by intro k hk; rcases hk with rfl | rfl | rfl | rfl <;> rfl
  have hm3 : (mlen (2000 + j) 2 : Int) = 28 + (if leap (2000 + j) then 1 else 0) := by unfold mlen; cases leap (2000 + j) <;> rfl
  rw [hm1 1 (by omega)] at l0
  rw [hm1 3 (by omega)] at l2
  rw [hm2 4 (by omega)] at l3
  rw [hm1 5 (by omega)] at l4
  rw [hm2 6 (by omega)] at l5
  rw [hm1 7 (by omega)] at l6
  rw [hm1 8 (by omega)] at l7
  rw [hm2 9 (by omega)] at l8
  rw [hm1 10 (by omega)] at l9
  rw [hm2 11 (by omega)] at l10
  match i, h with
  | 0, _ => simp [bef]; omega
  | 1, _ => simp [bef]; omega
  | 2, _ => simp [bef]; omega
  | 3, _ => simp [bef]; omega
  | 4, _ => simp [bef]; omega
  | 5, _ => simp [bef]; omega
  | 6, _ => simp [bef]; omega
  | 7, _ => simp [bef]; omega
  | 8, _ => simp [bef]; omega
  | 9, _ => simp [bef]; omega
  | 10, _ => simp [bef]; omega
  | 11, _ => simp [bef]; omega
theorem fst_eq (k : Nat) : fst (k : Int) = S k := by
  have e : 12 * (k / 12) + k % 12 = k := by omega
  have := fst_at (k / 12) (k % 12) (by omega)
  rw [e] at this
  exact this
end Go.Proofs.YtcjakgpmompaiaaGreatDoor.Ca.Cal

/-
  What the laws of layer 4 ask of the program (what stands in its table).
-/
namespace Go.Proofs.YtcjakgpmompaiaaGreatDoor.Ca
open Go.RowKit

/-- what the program's table of days before a month holds -/
def bfC : Array Value := (Cal.bef.map (Value.int .i64)).toArray
def Bf (w : World) : Prop := ∃ t fr, w.heap[0]? = some (.cells bfC t fr)
theorem Bf.pos {w : World} (h : Bf w) : 0 < w.heap.size := by
  obtain ⟨t, fr, h⟩ := h
  exact (Array.getElem?_eq_some_iff.1 h).1
theorem bf_of {W w' : World} (h : Bf W) (hb : Below W.heap.size W w') : Bf w' := by
  have hp := h.pos
  obtain ⟨t, fr, h⟩ := h
  exact ⟨t, fr, by rw [hb.block _ hp]; exact h⟩

end Go.Proofs.YtcjakgpmompaiaaGreatDoor.Ca

/-
  The program's functions of months and days at 304115a: isDay, give, weekday, leaps, first, length.
-/
namespace Go.Proofs.YtcjakgpmompaiaaGreatDoor.Ca
open Go.RowKit

theorem isDay_x (t : Int) (w : World) : Calls Tryz.prog 170 #[.int .i64 t] w fun e w' => e = .returned (.bool (valid t)) ∧ w = w' := by
  by_cases h1 : 0 ≤ t
  · by_cases h2 : t ≤ 100000
    · have hv : Hid (valid t = true) := valid_yes h1 h2
      go_enter Tryz.func170, Tryz.ntmps170
      go_wp2_with fail
      go_ret
      exact ⟨by rw [hv.out]; try rfl, rfl⟩
    · have hv : Hid (valid t = false) := valid_no (by omega)
      go_enter Tryz.func170, Tryz.ntmps170
      go_wp2_with fail
      go_ret
      exact ⟨by rw [hv.out]; try rfl, rfl⟩
  · have hv : Hid (valid t = false) := valid_no (by omega)
    go_enter Tryz.func170, Tryz.ntmps170
    go_wp2_with fail
    go_ret
    exact ⟨by rw [hv.out]; try rfl, rfl⟩

def giveV (t : Int) : Int × Int := if valid t then (t, 0) else (0, 3)
theorem give_x (t : Int) (w : World) : Calls Tryz.prog 150 #[.int .i64 t] w fun e w' => e = .returned (pv (giveV t)) ∧ w = w' := by
  cases V : valid t with
  | true =>
    have V' := Lib.hid V
    have hv : Hid (giveV t = (t, 0)) := by show _ = _; unfold giveV; rw [V]; rfl
    clear V
    go_enter Tryz.func150, Tryz.ntmps150
    go_wp2_with fail
    refine (isDay_x t _).mono ?_
    rintro e w1 ⟨rfl, rfl⟩
    rw [V'.out]
    go_wp2_with fail
    go_ret2
    exact ⟨by rw [hv.out]; try rfl, rfl⟩
  | false =>
    have V' := Lib.hid V
    have hv : Hid (giveV t = (0, 3)) := by show _ = _; unfold giveV; rw [V]; rfl
    clear V
    go_enter Tryz.func150, Tryz.ntmps150
    go_wp2_with fail
    refine (isDay_x t _).mono ?_
    rintro e w1 ⟨rfl, rfl⟩
    rw [V'.out]
    go_wp2_with fail
    go_ret2
    exact ⟨by rw [hv.out]; try rfl, rfl⟩

theorem leaps_x (n : Int) (w : World) (h0 : 0 ≤ n) (h1 : n ≤ 100000) : Calls Tryz.prog 181 #[.int .i64 n] w fun e w' => e = .returned (.int .i64 (Cal.lp n)) ∧ w = w' := by
  obtain ⟨a, ha⟩ : ∃ a, (n + 3) / 4 = a := ⟨_, rfl⟩
  obtain ⟨b, hb⟩ : ∃ b, (n + 99) / 100 = b := ⟨_, rfl⟩
  obtain ⟨c, hc⟩ : ∃ c, (n + 399) / 400 = c := ⟨_, rfl⟩
  have hv : Hid (Cal.lp n = a - b + c) := by show _ = _; unfold Cal.lp; rw [ha, hb, hc]
  have a0 : 0 ≤ a := by omega
  have a1 : a ≤ 30000 := by omega
  have b0 : 0 ≤ b := by omega
  have b1 : b ≤ 30000 := by omega
  have c0 : 0 ≤ c := by omega
  have c1 : c ≤ 30000 := by omega
  go_enter Tryz.func181, Tryz.ntmps181
  go_wp2_with fail
  go_ret
  exact ⟨by rw [hv.out]; try rfl, rfl⟩

/-- the table's cells -/
theorem Bf.cell {w : World} (h : Bf w) {i : Nat} (hi : i < 12) : w.cell? ⟨0, i, none⟩ = some (.int .i64 (Cal.bef.getD i 0)) := by
  obtain ⟨t, fr, h⟩ := h
  rw [cell_of_row w _ i bfC t fr h]
  match i, hi with
  | 0, _ | 1, _ | 2, _ | 3, _ | 4, _ | 5, _ | 6, _ | 7, _ | 8, _ | 9, _ | 10, _ | 11, _ => rfl

end Go.Proofs.YtcjakgpmompaiaaGreatDoor.Ca

/-
  The program's first and length: the first day of a month, and how many it has.
-/
namespace Go.Proofs.YtcjakgpmompaiaaGreatDoor.Ca
open Go.RowKit

set_option maxHeartbeats 3200000 in
theorem first_x (k : Nat) (w : World) (hk : k ≤ 110000) (hbf : Bf w) : Calls Tryz.prog 151 #[.int .i64 (k : Int)] w fun e w' => e = .returned (.int .i64 (Cal.S k : Nat)) ∧ ∃ q, w' = w.drewN q := by
  obtain ⟨j, hj⟩ : ∃ j : Nat, k / 12 = j := ⟨_, rfl⟩
  obtain ⟨i, hi⟩ : ∃ i : Nat, k % 12 = i := ⟨_, rfl⟩
  have i12 : i < 12 := by omega
  have e1 : ((k : Int) / 12) = (j : Int) := by omega
  have e2 : ((k : Int) % 12) = (i : Int) := by omega
  obtain ⟨s, hs⟩ : ∃ s, ((k : Int) + 10) / 12 = s := ⟨_, rfl⟩
  have s0 : 0 ≤ s := by omega
  have s1 : s ≤ 100000 := by omega
  obtain ⟨b, hb⟩ : ∃ b, Cal.bef.getD i 0 = b := ⟨_, rfl⟩
  have hc := hbf.cell i12
  rw [hb] at hc
  have b0 : 0 ≤ b ∧ b ≤ 334 := by
    rw [← hb]
    match i, i12 with
    | 0, _ | 1, _ | 2, _ | 3, _ | 4, _ | 5, _ | 6, _ | 7, _ | 8, _ | 9, _ | 10, _ | 11, _ => simp [Cal.bef]
  obtain ⟨b1, b2⟩ := b0
  obtain ⟨l, hl⟩ : ∃ l, Cal.lp s = l := ⟨_, rfl⟩
  have l0 : 0 ≤ l ∧ l ≤ 30000 := by
    rw [← hl]
    unfold Cal.lp
    omega
  obtain ⟨l1, l2⟩ := l0
  have hv : Hid (((Cal.S k : Nat) : Int) = 365 * (j : Int) + b + l) := by
    show _ = _
    rw [← Cal.fst_eq]
    unfold Cal.fst
    rw [e1, hs, hl, e2, Int.toNat_natCast, hb]
  have hl2 : Hid (∀ w : World, Calls Tryz.prog 181 #[.int .i64 s] w fun e w' => e = .returned (.int .i64 l) ∧ w' = w) := fun w => by rw [← hl]; exact (leaps_x s w s0 s1).mono (fun _ _ h => ⟨h.1, h.2.symm⟩)
  have j0 : (0 : Int) ≤ (j : Int) := by omega
  have j1 : (j : Int) ≤ 9200 := by omega
  have i0 : (0 : Int) ≤ (i : Int) := by omega
  have i1 : (i : Int) < 12 := by omega
  have k0 : (0 : Int) ≤ (k : Int) := by omega
  have k1 : (k : Int) ≤ 110000 := by omega
  have f1 : (k : Int).tmod 12 = (i : Int) := by rw [Int.tmod_eq_emod_of_nonneg k0]; exact e2
  have f2 : (k : Int).tdiv 12 = (j : Int) := by rw [Int.tdiv_eq_ediv_of_nonneg k0]; exact e1
  have f3 : IntKind.i64.wrap (j : Int) = (j : Int) := IntWalk.i64_in _ (by omega)
  have f4 : IntKind.i64.wrap (365 * (j : Int)) = 365 * (j : Int) := IntWalk.i64_in _ (by omega)
  have f5 : IntKind.i64.wrap (365 * (j : Int) + b) = 365 * (j : Int) + b := IntWalk.i64_in _ (by omega)
  have f6 : IntKind.i64.wrap ((k : Int) + 10) = (k : Int) + 10 := IntWalk.i64_in _ (by omega)
  have f7 : ((k : Int) + 10).tdiv 12 = s := by rw [Int.tdiv_eq_ediv_of_nonneg (by omega)]; exact hs
  have f8 : IntKind.i64.wrap s = s := IntWalk.i64_in _ (by omega)
  have f9 : IntKind.i64.wrap (365 * (j : Int) + b + l) = 365 * (j : Int) + b + l := IntWalk.i64_in _ (by omega)
  clear hbf hj hi hk hl hb
  go_enter Tryz.func151, Tryz.ntmps151
  go_wp2_with fail
  go_quiet (first | (go_at_call 181; refine Calls.quiet_of_same (hl2.out _)))
  go_wp2_with fail
  go_ret
  exact ⟨by rw [hv.out]; try rfl, _, rfl⟩

/-- the number of days of a month -/
theorem length_x (k : Nat) (w : World) (hk : k ≤ 109999) (hbf : Bf w) : Calls Tryz.prog 149 #[.int .i64 (k : Int)] w fun e w' => e = .returned (.int .i64 (Cal.len k : Nat)) ∧ ∃ q, w' = w.drewN q := by
  have k1 : (k : Int) ≤ 109999 := by omega
  have k0 : (0 : Int) ≤ (k : Int) := by omega
  have hs : Hid (((Cal.S (k + 1) : Nat) : Int) - ((Cal.S k : Nat) : Int) = ((Cal.len k : Nat) : Int)) := by show _ = _; rw [Cal.S_succ]; omega
  have hm := (Cal.S_most (k + 1)).2
  have hm2 := (Cal.S_most k).2
  obtain ⟨a, ha⟩ : ∃ a, Cal.S (k + 1) = a := ⟨_, rfl⟩
  obtain ⟨b, hb⟩ : ∃ b, Cal.S k = b := ⟨_, rfl⟩
  rw [ha, hb] at hs
  have h1 : Hid (∀ q, Calls Tryz.prog 151 #[.int .i64 ((k : Int) + 1)] (w.drewN q) fun e w' => e = .returned (.int .i64 (a : Nat)) ∧ ∃ m, w' = (w.drewN q).drewN m) := fun q => by rw [← ha]; exact first_x (k + 1) _ (by omega) (bf_of hbf (below_drewN (Below.refl _ _) q))
  have h2 : Hid (∀ q, Calls Tryz.prog 151 #[.int .i64 (k : Int)] (w.drewN q) fun e w' => e = .returned (.int .i64 (b : Nat)) ∧ ∃ m, w' = (w.drewN q).drewN m) := fun q => by rw [← hb]; exact first_x k _ (by omega) (bf_of hbf (below_drewN (Below.refl _ _) q))
  have a0 : (0 : Int) ≤ (a : Int) := by omega
  have a1 : (a : Int) ≤ 3500000 := by omega
  have b0 : (0 : Int) ≤ (b : Int) := by omega
  have b1 : (b : Int) ≤ 3500000 := by omega
  clear hbf ha hb hm hm2 hk
  go_enter Tryz.func149, Tryz.ntmps149
  go_wp2_with fail
  have h10 := h1.out 0
  refine h10.mono ?_
  rintro e w1 ⟨rfl, q, rfl⟩
  go_wp2_with fail
  refine (h2.out _).mono ?_
  rintro e w2 ⟨rfl, m, rfl⟩
  go_wp2_with fail
  go_ret
  exact ⟨by rw [← hs.out]; try rfl, _, rfl⟩

end Go.Proofs.YtcjakgpmompaiaaGreatDoor.Ca

/-
  The program's split: the month and the day of the month of a day.
-/
namespace Go.Proofs.YtcjakgpmompaiaaGreatDoor.Ca
open Go.RowKit

theorem bf_drew {w : World} (h : Bf w) (q : Nat) : Bf (w.drewN q) := bf_of h (below_drewN (Below.refl _ _) q)
theorem first_d {w : World} (k q : Nat) (hk : k ≤ 110000) (hbf : Bf w) : Calls Tryz.prog 151 #[.int .i64 (k : Int)] (w.drewN q) fun e w' => e = .returned (.int .i64 (Cal.S k : Nat)) ∧ ∃ m, w' = w.drewN m :=
  (first_x k _ hk (bf_drew hbf q)).mono fun _ _ ⟨h, m, e⟩ => ⟨h, q + m, by rw [e, World.drewN_drewN]⟩
theorem first_d1 {w : World} (k q : Nat) (hk : k + 1 ≤ 110000) (hbf : Bf w) : Calls Tryz.prog 151 #[.int .i64 ((k : Int) + 1)] (w.drewN q) fun e w' => e = .returned (.int .i64 (Cal.S (k + 1) : Nat)) ∧ ∃ m, w' = w.drewN m :=
  first_d (k + 1) q hk hbf

set_option maxHeartbeats 3200000 in
theorem split_x (t : Nat) (w : World) (ht : t ≤ 100000) (hbf : Bf w) : Calls Tryz.prog 171 #[.int .i64 (t : Int)] w fun e w' => e = .returned (.tuple #[.int .i64 (Cal.mon t : Nat), .int .i64 (Cal.dom t : Nat)]) ∧ ∃ q, w' = w.drewN q := by
  have HW := Lib.hid hbf
  clear hbf
  have t0 : (0 : Int) ≤ (t : Int) := by omega
  have t1 : (t : Int) ≤ 100000 := by omega
  obtain ⟨g, hg⟩ : ∃ g : Nat, t * 4800 / 146097 = g := ⟨_, rfl⟩
  have g1 : g ≤ 3288 := by omega
  have hg2 : Hid ((t : Int) * 4800 / 146097 = (g : Int)) := show _ = _ by omega
  obtain ⟨M, hM⟩ : ∃ M, Cal.mon t = M := ⟨_, rfl⟩
  have hM1 : M < 3288 := by rw [← hM]; exact Cal.mon_small ht
  have hup : Hid (∀ k, Cal.S k ≤ t → k ≤ M) := by
    intro k hk
    have h2 := (Cal.mon_spec t).2
    rw [hM] at h2
    apply Nat.le_of_not_lt
    intro c
    have := Cal.S_mono (show M + 1 ≤ k from c)
    omega
  have hdn : Hid (∀ k, t < Cal.S (k + 1) → M ≤ k) := by
    intro k hk
    have h2 := (Cal.mon_spec t).1
    rw [hM] at h2
    apply Nat.le_of_not_lt
    intro c
    have := Cal.S_mono (show k + 1 ≤ M from c)
    omega
  have hlo : Hid (Cal.S M ≤ t) := by show _ ≤ _; rw [← hM]; exact (Cal.mon_spec t).1
  have hd : Hid (((Cal.dom t : Nat) : Int) = (t : Int) - ((Cal.S M : Nat) : Int) + 1) := by
    show _ = _
    have := Cal.dom_spec t
    rw [hM] at this
    omega
  have hS : Hid (∀ k, k ≤ 5000 → ((Cal.S k : Nat) : Int) ≤ 200000) := by
    intro k hk
    have := (Cal.S_most k).2
    omega
  rw [hM]
  clear hM hg ht
  go_enter Tryz.func171, Tryz.ntmps171
  go_wp2_with fail
  go_loopw [2] (fun v wr => ∃ k q : Nat, v = .int .i64 (k : Int) ∧ k ≤ 3288 ∧ wr = w.drewN q) (fun v _ => 3288 - (intOf v).toNat)
  case atStart => exact ⟨g, 0, by rw [hg2.out], g1, rfl⟩
  case round =>
    obtain ⟨k, q, rfl, hk, rfl⟩ := hrel
    have k0 : (0 : Int) ≤ (k : Int) := by omega
    have k1 : (k : Int) ≤ 3288 := by omega
    have hk1 : Hid (k + 1 ≤ 110000) := show _ ≤ _ by omega
    obtain ⟨s, hs⟩ : ∃ s, Cal.S (k + 1) = s := ⟨_, rfl⟩
    have HS := Lib.hid hs
    by_cases c : s ≤ t
    · have c1 : (s : Int) ≤ (t : Int) := by omega
      have hm : Hid (k + 1 ≤ 3288) := by
        show _ ≤ _
        have := hup.out (k + 1) (by omega)
        omega
      clear hs hk c
      go_wp2_with fail
      refine (first_d1 k q hk1.out HW.out).mono ?_
      rintro e w1 ⟨rfl, m, rfl⟩
      rw [HS.out]
      go_wp2_with fail
      go_roundw
      case rel => exact ⟨k + 1, m, by congr 1, hm.out, rfl⟩
      case measure => have := hm.out; simp [intOf]; omega
    · have c1 : ¬ (s : Int) ≤ (t : Int) := by omega
      have hm : Hid (M ≤ k) := hdn.out k (by omega)
      have c2 : decide (s ≤ t) = false := decide_eq_false c
      clear hs c
      go_wp2_with fail
      refine (first_d1 k q hk1.out HW.out).mono ?_
      rintro e w1 ⟨rfl, m, rfl⟩
      rw [HS.out]
      go_wp2_with fail
      clear c1 HS hk1
      go_loopw [2] (fun v wr => ∃ k q : Nat, v = .int .i64 (k : Int) ∧ k ≤ 3288 ∧ Hid (M ≤ k) ∧ wr = w.drewN q) (fun v _ => (intOf v).toNat)
      case atStart => exact ⟨k, m, rfl, hk, hm, rfl⟩
      case round =>
        clear hk k0 k1 hm
        obtain ⟨k, q, rfl, hk, hm, rfl⟩ := hrel
        have k0 : (0 : Int) ≤ (k : Int) := by omega
        have k1 : (k : Int) ≤ 3288 := by omega
        have hk1 : Hid (k ≤ 110000) := show _ ≤ _ by omega
        obtain ⟨s, hs⟩ : ∃ s, Cal.S k = s := ⟨_, rfl⟩
        have HS := Lib.hid hs
        by_cases c : t < s
        · have c1 : (t : Int) < (s : Int) := by omega
          have hm2 : Hid (M + 1 ≤ k) := by
            show _ ≤ _
            have h1 := hm.out
            apply Nat.lt_of_le_of_ne h1
            intro e
            have h4 := hlo.out
            rw [e, hs] at h4
            omega
          clear hs c hm
          obtain ⟨k', rfl⟩ : ∃ k', k = k' + 1 := ⟨k - 1, by have := hm2.out; omega⟩
          go_wp2_with fail
          refine (first_d _ q hk1.out HW.out).mono ?_
          rintro e w1 ⟨rfl, m, rfl⟩
          rw [HS.out]
          go_wp2_with fail
          go_roundw
          case rel => exact ⟨k', m, by congr 1, by omega, by have := hm2.out; show _ ≤ _; omega, rfl⟩
          case measure => simp [intOf]
        · have c1 : ¬ (t : Int) < (s : Int) := by omega
          obtain rfl : k = M := Nat.le_antisymm (hup.out k (by omega)) hm.out
          have hd2 : Hid (((Cal.dom t : Nat) : Int) = (t : Int) - (s : Int) + 1) := by show _ = _; rw [hd.out, hs]
          clear hs c hm
          have s2 : (s : Int) ≤ (t : Int) := by omega
          have s3 : (0 : Int) ≤ (s : Int) := by omega
          go_wp2_with fail
          refine (first_d _ q hk1.out HW.out).mono ?_
          rintro e w1 ⟨rfl, m, rfl⟩
          rw [HS.out]
          go_wp2_with fail
          refine (first_d _ m hk1.out HW.out).mono ?_
          rintro e w1 ⟨rfl, m2, rfl⟩
          rw [HS.out]
          go_wp2_with fail
          go_ret2
          exact ⟨by rw [hd2.out]; try rfl, _, rfl⟩

end Go.Proofs.YtcjakgpmompaiaaGreatDoor.Ca

/-
  The program's Date, Day, Weekday and AddMonths.
-/
namespace Go.Proofs.YtcjakgpmompaiaaGreatDoor.Ca
open Go.RowKit

theorem dateP_x (t : Int) (w : World) (hbf : Bf w) : Calls Tryz.prog 140 #[.int .i64 t] w fun e w' => e = .returned (dv (date t)) ∧ Below w.heap.size w w' := by
  cases V : valid t with
  | false =>
    have V' := Lib.hid V
    have hv : Hid (date t = (0, 0, 0, 3)) := by show _ = _; unfold date; rw [V]; rfl
    clear V hbf
    go_enter Tryz.func140, Tryz.ntmps140
    go_wp2_with fail
    refine (isDay_x t _).mono ?_
    rintro e w1 ⟨rfl, rfl⟩
    rw [V'.out]
    go_wp2_with fail
    exact bodyPost_ret (v := .tuple #[.int .i64 0, .int .i64 0, .int .i64 0, .int .i64 3]) (by simp [results, Tryz.results140, go_sem]) rfl ⟨by rw [hv.out]; try rfl, Below.refl _ _⟩
  | true =>
    have V' := Lib.hid V
    have hb := valid_iff.1 V
    obtain ⟨T, rfl⟩ : ∃ T : Nat, t = T := ⟨t.toNat, by omega⟩
    have HS := Lib.hid (split_x T w (by omega) hbf)
    obtain ⟨M, hM⟩ : ∃ M, Cal.mon T = M := ⟨_, rfl⟩
    obtain ⟨D, hD⟩ : ∃ D, Cal.dom T = D := ⟨_, rfl⟩
    have hM1 : M < 3288 := by rw [← hM]; exact Cal.mon_small (by omega)
    have hv : Hid (date (T : Int) = (((2000 + M / 12 : Nat) : Int), ((M % 12 + 1 : Nat) : Int), (D : Int), 0)) := by show _ = _; unfold date; rw [V, Int.toNat_natCast, hM, hD]; rfl
    rw [hM, hD] at HS
    have m0 : (0 : Int) ≤ (M : Int) := by omega
    have m1 : (M : Int) ≤ 3288 := by omega
    clear V hbf hM hD hb hM1
    go_enter Tryz.func140, Tryz.ntmps140
    go_wp2_with fail
    refine (isDay_x _ _).mono ?_
    rintro e w1 ⟨rfl, rfl⟩
    rw [V'.out]
    go_wp2_with fail
    refine HS.out.mono ?_
    rintro e w1 ⟨rfl, q, rfl⟩
    go_wp2_with fail
    exact bodyPost_ret (v := .tuple #[.int .i64 (2000 + (M : Int) / 12), .int .i64 (1 + (M : Int) % 12), .int .i64 (D : Int), .int .i64 0]) (by simp [results, Tryz.results140, go_sem]) rfl
      ⟨by rw [hv.out, show ((2000 + M / 12 : Nat) : Int) = 2000 + (M : Int) / 12 by omega, show ((M % 12 + 1 : Nat) : Int) = 1 + (M : Int) % 12 by omega], below_drewN (Below.refl _ _) q⟩

theorem giveV_le {t : Int} (h : 0 ≤ t) : giveV t = if t ≤ 100000 then (t, 0) else (0, 3) := by
  unfold giveV
  by_cases c : t ≤ 100000
  · rw [valid_yes h c, if_pos rfl, if_pos c]
  · rw [valid_no (by omega), if_neg c]; rfl

set_option maxHeartbeats 1600000 in
theorem dayP_x (y m d : Int) (w : World) (hbf : Bf w) (hy : I64 y) : Calls Tryz.prog 89 #[.int .i64 y, .int .i64 m, .int .i64 d] w fun e w' => e = .returned (pv (dayOf y m d)) ∧ Below w.heap.size w w' := by
  by_cases bad : y < 2000 ∨ 2273 < y ∨ m < 1 ∨ 12 < m
  · have hv : Hid (dayOf y m d = (0, 3)) := by
      show _ = _
      unfold dayOf
      rw [if_neg]
      rintro ⟨h1, h2⟩
      have h3 := of_decide_eq_true h1
      unfold dayNo at h2
      have h4 := Cal.S_mono (show 12 * 274 ≤ 12 * (y.toNat - 2000) + (m.toNat - 1) by omega)
      have h5 := Cal.S_years 274
      omega
    clear hbf hy
    by_cases c1 : y < 2000
    · go_enter Tryz.func89, Tryz.ntmps89
      go_wp2_with fail
      go_ret2
      exact ⟨by rw [hv.out]; try rfl, Below.refl _ _⟩
    by_cases c2 : 2273 < y
    · go_enter Tryz.func89, Tryz.ntmps89
      go_wp2_with fail
      go_ret2
      exact ⟨by rw [hv.out]; try rfl, Below.refl _ _⟩
    by_cases c3 : m < 1
    · go_enter Tryz.func89, Tryz.ntmps89
      go_wp2_with fail
      go_ret2
      exact ⟨by rw [hv.out]; try rfl, Below.refl _ _⟩
    · have c4 : 12 < m := by omega
      clear bad
      go_enter Tryz.func89, Tryz.ntmps89
      go_wp2_with fail
      go_ret2
      exact ⟨by rw [hv.out]; try rfl, Below.refl _ _⟩
  · obtain ⟨j, rfl⟩ : ∃ j : Nat, y = 2000 + (j : Int) := ⟨(y - 2000).toNat, by omega⟩
    obtain ⟨i, rfl⟩ : ∃ i : Nat, m = (i : Int) + 1 := ⟨(m - 1).toNat, by omega⟩
    have i1 : i < 12 := by omega
    have j1 : j ≤ 273 := by omega
    obtain ⟨k, hk⟩ : ∃ k, 12 * j + i = k := ⟨_, rfl⟩
    have hL := Cal.len_at j i i1
    have hS := (Cal.S_most k).2
    have hl31 := Cal.len_bounds k
    rw [hk] at hL
    obtain ⟨L, hL2⟩ : ∃ L, Cal.len k = L := ⟨_, rfl⟩
    obtain ⟨S, hS2⟩ : ∃ S, Cal.S k = S := ⟨_, rfl⟩
    have HL : Hid (∀ w, Bf w → Calls Tryz.prog 149 #[.int .i64 (k : Int)] w fun e w' => e = .returned (.int .i64 (L : Nat)) ∧ ∃ q, w' = w.drewN q) := fun w h => by rw [← hL2]; exact length_x k w (by omega) h
    have HF : Hid (∀ q, Calls Tryz.prog 151 #[.int .i64 (k : Int)] (w.drewN q) fun e w' => e = .returned (.int .i64 (S : Nat)) ∧ ∃ m, w' = w.drewN m) := fun q => by rw [← hS2]; exact first_d k q (by omega) hbf
    have HW := Lib.hid hbf
    rw [hL2] at hl31 hL
    rw [hS2] at hS
    have f1 : IntKind.i64.wrap (2000 + (j : Int) - 2000) = (j : Int) := by rw [show 2000 + (j : Int) - 2000 = j by omega]; exact IntWalk.i64_in _ (by omega)
    have f2 : IntKind.i64.wrap (12 * (j : Int) + ((i : Int) + 1)) = 12 * (j : Int) + ((i : Int) + 1) := IntWalk.i64_in _ (by omega)
    have f3 : IntKind.i64.wrap (12 * (j : Int) + ((i : Int) + 1) - 1) = (k : Int) := by rw [show 12 * (j : Int) + ((i : Int) + 1) - 1 = (k : Int) by omega]; exact IntWalk.i64_in _ (by omega)
    have d1 : ¬ 2000 + (j : Int) < 2000 := by omega
    have d2 : ¬ 2273 < 2000 + (j : Int) := by omega
    have d3 : ¬ (i : Int) + 1 < 1 := by omega
    have d4 : ¬ 12 < (i : Int) + 1 := by omega
    by_cases b1 : d < 1
    · have hv : Hid (dayOf (2000 + (j : Int)) ((i : Int) + 1) d = (0, 3)) := by
        show _ = _
        unfold dayOf
        rw [if_neg]
        rintro ⟨h1, h2⟩
        have h3 := of_decide_eq_true h1
        omega
      clear hbf hy bad hL2 hS2 hl31 hL hS hk i1 j1
      go_enter Tryz.func89, Tryz.ntmps89
      go_wp2_with fail
      go_ret2
      exact ⟨by rw [hv.out]; try rfl, Below.refl _ _⟩
    by_cases b2 : (L : Int) < d
    · have hv : Hid (dayOf (2000 + (j : Int)) ((i : Int) + 1) d = (0, 3)) := by
        show _ = _
        apply dayOf_not
        rw [show (2000 + (j : Int)).toNat = 2000 + j by omega, show ((i : Int) + 1).toNat = i + 1 by omega]
        omega
      clear hbf hy bad hL2 hS2 hl31 hL hS hk i1 j1
      go_enter Tryz.func89, Tryz.ntmps89
      go_wp2_with fail
      refine (HL.out _ HW.out).mono ?_
      rintro e w1 ⟨rfl, q, rfl⟩
      go_wp2_with fail
      go_ret2
      exact ⟨by rw [hv.out]; try rfl, below_drewN (Below.refl _ _) q⟩
    · have hg : giveV ((S : Int) + d - 1) = if (S : Int) + d - 1 ≤ 100000 then ((S : Int) + d - 1, 0) else (0, 3) := giveV_le (by omega)
      have hv : Hid (dayOf (2000 + (j : Int)) ((i : Int) + 1) d = giveV ((S : Int) + d - 1)) := by
        show _ = _
        rw [hg, ← hS2, ← hk]
        exact dayOf_at i1 (by omega) (by omega)
      have d5 : ¬ d < 1 := b1
      have d6 : d ≤ 31 := by omega
      have d7 : (S : Int) ≤ 110000 := by omega
      have d8 : (0 : Int) ≤ (S : Int) := by omega
      have d9 : 1 ≤ d := by omega
      clear hbf hy bad hL2 hS2 hl31 hL hS hk i1 j1 hg
      go_enter Tryz.func89, Tryz.ntmps89
      go_wp2_with fail
      refine (HL.out _ HW.out).mono ?_
      rintro e w1 ⟨rfl, q, rfl⟩
      go_wp2_with fail
      refine (HF.out q).mono ?_
      rintro e w1 ⟨rfl, q2, rfl⟩
      go_wp2_with fail
      refine (give_x _ _).mono ?_
      rintro e w1 ⟨rfl, rfl⟩
      simp only [pv]
      go_wp2_with fail
      go_ret2
      exact ⟨by rw [hv.out]; try rfl, below_drewN (Below.refl _ _) q2⟩

end Go.Proofs.YtcjakgpmompaiaaGreatDoor.Ca

