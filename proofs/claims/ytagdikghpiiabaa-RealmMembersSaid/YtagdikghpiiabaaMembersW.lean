/-
  RealmMembers: the walk.
-/
import Derived.Test.YtagdikghpiiabaaSanC
import Derived.Test.YtagdikghpiiabaaLawD
namespace Go.Proofs.Ytagdikghpiiabaa
open Go.RowKit Rl

def OutR (R : Rlm) (W : World) (c g : Value) (wr : World) : Prop := ∃ k : Nat, k ≤ R.groups.length ∧ g = .int .i64 (k : Int) ∧ c = .int .i64 (cntK R.firms k : Int) ∧ Below W.heap.size W wr
def InR (R : Rlm) (k : Nat) (W : World) (c i : Value) (wr : World) : Prop := ∃ j : Nat, j ≤ (memP R.firms (k : Int)).length ∧ i = .int .i64 (j : Int) ∧ c = .int .i64 (((cntK R.firms k + j : Nat)) : Int) ∧ Below W.heap.size W wr
theorem cnt_le (F : List Frm) (k : Nat) : cntK F k ≤ F.length := by
  unfold cntK
  exact Nat.le_trans (List.length_filter_le _ _) (by simp)
theorem cnt_in (F : List Frm) (k : Nat) : cntK F k + (memP F (k : Int)).length ≤ F.length := by rw [← cnt_succ]; exact cnt_le F (k + 1)

set_option maxHeartbeats 12800000 in
set_option maxRecDepth 100000 in
theorem RealmMembers_x {a0 a1 a2 a3 a4 a5 a6 a7 : Option Addr} {c0 c1 c2 c3 c4 c5 c6 c7 : Nat} {R : Rlm} (w : World) (hr : RS w a0 a1 a2 a3 a4 a5 a6 a7 c0 c1 c2 c3 c4 c5 c6 c7 R) (hF : FitW R) :
    Calls Try.prog 5 #[.agg #[.slice a0 R.cur.length c0, .slice a1 R.cities.length c1, .slice a2 R.groups.length c2, .slice a3 R.firms.length c3, .slice a4 R.orders.length c4, .slice a5 R.usances.length c5, .slice a6 R.rates.length c6, .slice a7 R.halts.length c7]] w fun r w' => r = .returned (.bool true) ∧ Below w.heap.size w w' := by
  have HR := Lib.hid hr
  have RB0 := Lib.hid (RB.new w (a0 := a0) (a1 := a1) (a2 := a2) (a3 := a3) (a4 := a4) (a5 := a5) (a6 := a6) (a7 := a7) (c0 := c0) (c1 := c1) (c2 := c2) (c3 := c3) (c4 := c4) (c5 := c5) (c6 := c6) (c7 := c7) (R := R))
  have B0 := Lib.hid (Below.new1 (w := w) (.cells #[.slice a0 R.cur.length c0, .slice a1 R.cities.length c1, .slice a2 R.groups.length c2, .slice a3 R.firms.length c3, .slice a4 R.orders.length c4, .slice a5 R.usances.length c5, .slice a6 R.rates.length c6, .slice a7 R.halts.length c7] 31))
  clear hr
  go_enter Try.func5, Try.ntmps5
  go_wp2_with fail
  refine (sane_x _).mono ?_
  rintro r w1 ⟨rfl, b1⟩
  have B1 := Lib.hid (chain B0.out b1)
  have RB1 := Lib.hid (RB0.out.next b1)
  clear b1
  have y0 := RB1.out.b0
  have y1 := RB1.out.b1
  have y2 := RB1.out.b2
  have y3 := RB1.out.b3
  have y4 := RB1.out.b4
  have y5 := RB1.out.b5
  have y6 := RB1.out.b6
  have y7 := RB1.out.b7
  go_wp2_with fail
  refine (Few_x _ (HR.out.next B1.out) hF).mono ?_
  rintro r w2 ⟨⟨few, rfl, hfew⟩, b2⟩
  have B2 := Lib.hid (chain B1.out b2)
  have RB2 := Lib.hid (RB1.out.next b2)
  clear b2
  clear y0 y1 y2 y3 y4 y5 y6 y7
  cases few with
  | false =>
    clear hfew
    go_wp2_with fail
    go_ret
    exact ⟨rfl, B2.out⟩
  | true =>
    have hfit := hfew rfl
    have HFT := Lib.hid hfit
    clear hfew hfit
    have y0 := RB2.out.b0
    have y1 := RB2.out.b1
    have y2 := RB2.out.b2
    have y3 := RB2.out.b3
    have y4 := RB2.out.b4
    have y5 := RB2.out.b5
    have y6 := RB2.out.b6
    have y7 := RB2.out.b7
    go_wp2_with fail
    refine (Check_x _ (HR.out.next B2.out) HFT.out).mono ?_
    rintro r w3 ⟨rfl, b3⟩
    have B3 := Lib.hid (chain B2.out b3)
    have RB3 := Lib.hid (RB2.out.next b3)
    clear b3
    clear y0 y1 y2 y3 y4 y5 y6 y7
    by_cases hck : checkP R = 0
    case neg =>
      have f1 : (checkP R != 0) = true := nbt hck
      clear hck
      
      go_wp2_with fail
      go_ret
      exact ⟨rfl, B3.out⟩
    have f1 : (checkP R != 0) = false := nbf hck
    have HCK := Lib.hid hck
    clear hck
    have y2 := RB3.out.b2
    go_wp2_with fail
    go_loopw [4, 5] (fun c g wr => OutR R w3 c g wr) (fun _ g _ => R.groups.length - (intOf g).toNat)
    case atStart => exact ⟨0, Nat.zero_le _, rfl, by rw [cnt_zero (fun f hf => (grp_range HCK.out f hf).1)]; rfl, Below.refl _ _⟩
    case round =>
      obtain ⟨k, hk, rfl, rfl, hbw⟩ := hrel
      have RB4 := Lib.hid (RB3.out.next hbw)
      have B4 := Lib.hid (chain B3.out hbw)
      have W4 := Lib.hid hbw
      have k0 : (0 : Int) ≤ (k : Int) := by omega
      have hsg : R.groups.length ≤ 9223372036854775807 := HFT.out.groups
      clear hbw
      have y0 := RB4.out.b0
      have y1 := RB4.out.b1
      have y2 := RB4.out.b2
      have y3 := RB4.out.b3
      have y4 := RB4.out.b4
      have y5 := RB4.out.b5
      have y6 := RB4.out.b6
      have y7 := RB4.out.b7
      by_cases ck : k < R.groups.length
      case neg =>
        have kc : ¬ (k : Int) < (R.groups.length : Int) := by omega
        obtain rfl : k = R.groups.length := by omega
        have HC := Lib.hid (cnt_all (fun f hf => (grp_range HCK.out f hf).2))
        rw [HC.out]
        have HM1 := Lib.hid (mem_none (F := R.firms) (g := (R.groups.length : Int)) (fun f hf => by have := grp_range HCK.out f hf; omega))
        have HM2 := Lib.hid (mem_none (F := R.firms) (g := -1) (fun f hf => by have := grp_range HCK.out f hf; omega))
        go_wp2_with fail
        refine (Members_x (R.groups.length : Int) _ (HR.out.next B4.out) HFT.out).mono ?_
        rintro r w5 ⟨⟨v, rfl, hl⟩, b5⟩
        have B5 := Lib.hid (chain B4.out b5)
        have RB5 := Lib.hid (RB4.out.next b5)
        clear b5
        rw [HM1.out] at hl
        obtain ⟨al, cl, rfl⟩ := hl.shape
        clear hl
        clear y0 y1 y2 y3 y4 y5 y6 y7
        have y0 := RB5.out.b0
        have y1 := RB5.out.b1
        have y2 := RB5.out.b2
        have y3 := RB5.out.b3
        have y4 := RB5.out.b4
        have y5 := RB5.out.b5
        have y6 := RB5.out.b6
        have y7 := RB5.out.b7
        go_wp2_with fail
        refine (Members_x (-1) _ (HR.out.next B5.out) HFT.out).mono ?_
        rintro r w6 ⟨⟨v, rfl, hl⟩, b6⟩
        have B6 := Lib.hid (chain B5.out b6)
        have RB6 := Lib.hid (RB5.out.next b6)
        clear b6
        rw [HM2.out] at hl
        obtain ⟨al2, cl2, rfl⟩ := hl.shape
        clear hl
        go_wp2_with fail
        go_ret
        exact ⟨rfl, B6.out⟩
      case pos =>
        have kc : (k : Int) < (R.groups.length : Int) := by omega
        go_wp2_with fail
        refine (Members_x (k : Int) _ (HR.out.next B4.out) HFT.out).mono ?_
        rintro r w5 ⟨⟨v, rfl, hl⟩, b5⟩
        have B5 := Lib.hid (chain B4.out b5)
        have RB5 := Lib.hid (RB4.out.next b5)
        have W5 := Lib.hid (chain W4.out b5)
        clear b5
        clear y0 y1 y2 y3 y4 y5 y6 y7
        obtain ⟨al, cl, hv⟩ := hl.shape
        subst hv
        have hcap := hl.len.2
        have HL := Lib.hid hl
        clear hl
        go_wp2_with fail
        go_loopw [4, 7] (fun c i wx => InR R k w5 c i wx) (fun _ i _ => (memP R.firms (k : Int)).length - (intOf i).toNat)
        case atStart => exact ⟨0, Nat.zero_le _, rfl, rfl, Below.refl _ _⟩
        case round =>
          obtain ⟨j, hj, rfl, rfl, hbi⟩ := hrel
          obtain ⟨w6, rfl⟩ : ∃ w6, w6 = wr := ⟨_, rfl⟩
          have RB6 := Lib.hid (RB5.out.next hbi)
          have B6 := Lib.hid (chain B5.out hbi)
          have W6 := Lib.hid (chain W5.out hbi)
          have WI6 := Lib.hid hbi
          have j0 : (0 : Int) ≤ (j : Int) := by omega
          have hsz : R.firms.length ≤ 9223372036854775807 := HFT.out.firms
          have hci := cnt_in R.firms k
          have hle := mem_len R.firms (k : Int) R.firms.length
          have hs4 := HFT.out.s4
          have hlen9 : (memP R.firms (k : Int)).length ≤ 9223372036854775806 := by omega
          by_cases cj : j < (memP R.firms (k : Int)).length
          case neg =>
            have jc : ¬ (j : Int) < ((memP R.firms (k : Int)).length : Int) := by omega
            obtain rfl : j = (memP R.firms (k : Int)).length := by omega
            have HC : Hid (cntK R.firms (k + 1) = cntK R.firms k + (memP R.firms (k : Int)).length) := cnt_succ R.firms k
            clear hci hle
            go_wp2_with fail
            go_roundw
            case rel => exact ⟨k + 1, by omega, by congr 1, by rw [HC.out], W6.out⟩
            case measure => simp [intOf]; omega
          case pos =>
            have jc : (j : Int) < ((memP R.firms (k : Int)).length : Int) := by omega
            obtain ⟨bl, ol, v, eal, hv, hbl, t1⟩ := i_get (HL.out.next hbi) cj
            subst eal
            obtain ⟨m, x, rfl, hx, hg⟩ := mem_get hv
            have hmlt := (List.getElem?_eq_some_iff.1 hx).1
            obtain ⟨bf, of, ef, hbf, hcf⟩ := (HR.out.next B6.out).firms.at hx
            subst ef
            have F6 : w6.cell? ⟨bf, of + m * 3 + 2, none⟩ = some (.int .i64 (k : Int)) := by rw [← hg]; exact hcf 2 _ rfl
            obtain ⟨q, gr, hq, hgr, hgp, -, -⟩ := right_grade HCK.out hx
            have eqk : k = q := by rw [hg] at hq; omega
            subst eqk
            obtain ⟨bg, og, eg, hbg, hcg⟩ := (HR.out.next B6.out).groups.at hgr
            subst eg
            have G6 : w6.cell? ⟨bg, og + k, none⟩ = some (.int .i64 gr) := by have := hcg 0 _ rfl; rw [Nat.mul_one, Nat.add_zero] at this; exact this
            have HGR := Lib.hid hgp
            have m0 : (0 : Int) ≤ (m : Int) := by omega
            have m1 : (m : Int) < (R.firms.length : Int) := by omega
            have n1 : ¬ (R.firms.length : Int) ≤ (m : Int) := by omega
            have n2 : ¬ (m : Int) < 0 := by omega
            have d1 : decide ((R.firms.length : Int) ≤ (m : Int)) = false := decide_eq_false (by omega)
            have d2 : decide ((m : Int) < 0) = false := decide_eq_false (by omega)
            have d3 : decide (R.firms.length ≤ m) = false := decide_eq_false (by omega)
            have HV := Lib.hid hv
            clear hx hcf hq hgr hgp hcg hv hg
            by_cases jz : j = 0
            · have jn : ¬ 0 < (j : Int) := by omega
              have jn2 : (j : Int) ≤ 0 := by omega
              have dj : decide (0 < j) = false := decide_eq_false (by omega)
              have JZ := Lib.hid jz
              clear jz
              have y0 := RB6.out.b0
              have y1 := RB6.out.b1
              have y2 := RB6.out.b2
              have y3 := RB6.out.b3
              have y4 := RB6.out.b4
              have y5 := RB6.out.b5
              have y6 := RB6.out.b6
              have y7 := RB6.out.b7
              go_wp2_with fail
              go_quiet (fail)
              have BQ : Hid (Below w6.heap.size w6 (w6.drewN nq)) := below_drewN (Below.refl _ _) nq
              go_wp2_with fail
              have RB7 := Lib.hid (RB6.out.next BQ.out)
              have B7 := Lib.hid (chain B6.out BQ.out)
              have W7 := Lib.hid (chain W6.out BQ.out)
              have WI7 := Lib.hid (chain WI6.out BQ.out)
              have M7 := Lib.hid (cell_up BQ.out t1)
              have F7 := Lib.hid (cell_up BQ.out F6)
              have G7 := Lib.hid (cell_up BQ.out G6)
              clear t1 F6 G6 BQ y0 y1 y2 y3 y4 y5 y6 y7
              refine wp_region_held_drew (S := fun w' => w'.cell? ⟨w.heap.size, 0, none⟩ = some (.slice a0 R.cur.length c0) ∧ w'.cell? ⟨w.heap.size, 1, none⟩ = some (.slice a1 R.cities.length c1) ∧ w'.cell? ⟨w.heap.size, 2, none⟩ = some (.slice (some ⟨bg, og, none⟩) R.groups.length c2) ∧ w'.cell? ⟨w.heap.size, 3, none⟩ = some (.slice (some ⟨bf, of, none⟩) R.firms.length c3) ∧ w'.cell? ⟨w.heap.size, 4, none⟩ = some (.slice a4 R.orders.length c4) ∧ w'.cell? ⟨w.heap.size, 5, none⟩ = some (.slice a5 R.usances.length c5) ∧ w'.cell? ⟨w.heap.size, 6, none⟩ = some (.slice a6 R.rates.length c6) ∧ w'.cell? ⟨w.heap.size, 7, none⟩ = some (.slice a7 R.halts.length c7) ∧ w'.cell? ⟨bl, ol + j, none⟩ = some (.int .i64 (m : Int)) ∧ w'.cell? ⟨bf, of + m * 3 + 2, none⟩ = some (.int .i64 (k : Int)) ∧ w'.cell? ⟨bg, og + k, none⟩ = some (.int .i64 gr)) (by kernel_rfl) ?_ (fun hHeld => ?_)
              · exact ⟨RB7.out.b0, RB7.out.b1, RB7.out.b2, RB7.out.b3, RB7.out.b4, RB7.out.b5, RB7.out.b6, RB7.out.b7, M7.out, F7.out, G7.out⟩
              have RB8 := Lib.hid (RB7.out.next (below_drew _))
              have B8 := Lib.hid (B7.out.drew)
              have W8 := Lib.hid (W7.out.drew)
              have WI8 := Lib.hid (WI7.out.drew)
              have M8 := Lib.hid (cell_up (below_drew _) M7.out)
              have F8 := Lib.hid (cell_up (below_drew _) F7.out)
              have G8 := Lib.hid (cell_up (below_drew _) G7.out)
              refine takeN0 (v := ?_) (by kernel_rfl) (by kernel_rfl) (by kernel_rfl) (fun _ _ _ h => h) (by rfl) ?_ (by assumption) ?_
              rotate_left
              · intro wz hSw
                try dsimp only at hSw
                go_simp
                try with_reducible rfl
              try simp only [Act.put, List.setIfInBounds_toArray, List.set_cons_zero, List.set_cons_succ]
              refine takeN1 (v := ?_) (by kernel_rfl) (by kernel_rfl) (by kernel_rfl) (fun _ _ _ h => h) (by rfl) ?_ (by assumption) ?_
              rotate_left
              · intro wz hSw
                try dsimp only at hSw
                go_simp
                try with_reducible rfl
              try simp only [Act.put, List.setIfInBounds_toArray, List.set_cons_zero, List.set_cons_succ]
              refine takeN2 (v := ?_) (by kernel_rfl) (by kernel_rfl) (by kernel_rfl) (fun _ _ _ h => h) (by rfl) ?_ (by assumption) ?_
              rotate_left
              · intro wz hSw
                try dsimp only at hSw
                go_simp
                try with_reducible rfl
              try simp only [Act.put, List.setIfInBounds_toArray, List.set_cons_zero, List.set_cons_succ]
              refine takeN3 (v := ?_) (by kernel_rfl) (by kernel_rfl) (by kernel_rfl) (fun _ _ _ h => h) (by rfl) ?_ (by assumption) ?_
              rotate_left
              · intro wz hSw
                try dsimp only at hSw
                go_simp
                try with_reducible rfl
              try simp only [Act.put, List.setIfInBounds_toArray, List.set_cons_zero, List.set_cons_succ]
              refine takeN4 (v := ?_) (by kernel_rfl) (by kernel_rfl) (by kernel_rfl) (fun _ _ _ h => h) (by rfl) ?_ (by assumption) ?_
              rotate_left
              · intro wz hSw
                try dsimp only at hSw
                go_simp
                try with_reducible rfl
              try simp only [Act.put, List.setIfInBounds_toArray, List.set_cons_zero, List.set_cons_succ]
              refine takeN5 (v := ?_) (by kernel_rfl) (by kernel_rfl) (by kernel_rfl) (fun _ _ _ h => h) (by rfl) ?_ (by assumption) ?_
              rotate_left
              · intro wz hSw
                try dsimp only at hSw
                go_simp
                try with_reducible rfl
              try simp only [Act.put, List.setIfInBounds_toArray, List.set_cons_zero, List.set_cons_succ]
              refine takeN6 (v := ?_) (by kernel_rfl) (by kernel_rfl) (by kernel_rfl) (fun _ _ _ h => h) (by rfl) ?_ (by assumption) ?_
              rotate_left
              · intro wz hSw
                try dsimp only at hSw
                go_simp
                try with_reducible rfl
              try simp only [Act.put, List.setIfInBounds_toArray, List.set_cons_zero, List.set_cons_succ]
              refine takeN7 (v := ?_) (by kernel_rfl) (by kernel_rfl) (by kernel_rfl) (fun _ _ _ h => h) (by rfl) ?_ (by assumption) ?_
              rotate_left
              · intro wz hSw
                try dsimp only at hSw
                go_simp
                try with_reducible rfl
              try simp only [Act.put, List.setIfInBounds_toArray, List.set_cons_zero, List.set_cons_succ]
              refine takeN8 (v := ?_) (by kernel_rfl) (by kernel_rfl) (by kernel_rfl) (fun _ _ _ h => h) (by rfl) ?_ (by assumption) ?_
              rotate_left
              · intro wz hSw
                try dsimp only at hSw
                go_simp
                try with_reducible rfl
              try simp only [Act.put, List.setIfInBounds_toArray, List.set_cons_zero, List.set_cons_succ]
              refine takeN9 (v := ?_) (by kernel_rfl) (by kernel_rfl) (by kernel_rfl) (fun _ _ _ h => h) (by rfl) ?_ (by assumption) ?_
              rotate_left
              · intro wz hSw
                try dsimp only at hSw
                go_simp
                try with_reducible rfl
              try simp only [Act.put, List.setIfInBounds_toArray, List.set_cons_zero, List.set_cons_succ]
              refine takeN10 (v := ?_) (by kernel_rfl) (by kernel_rfl) (by kernel_rfl) (fun _ _ _ h => h) (by rfl) ?_ (by assumption) ?_
              rotate_left
              · intro wz hSw
                try dsimp only at hSw
                go_simp
                try with_reducible rfl
              try simp only [Act.put, List.setIfInBounds_toArray, List.set_cons_zero, List.set_cons_succ]
              refine takeN11 (v := ?_) (by kernel_rfl) (by kernel_rfl) (by kernel_rfl) (fun _ _ _ h => h) (by rfl) ?_ (by assumption) ?_
              rotate_left
              · intro wz hSw
                try dsimp only at hSw
                go_simp
                try with_reducible rfl
              try simp only [Act.put, List.setIfInBounds_toArray, List.set_cons_zero, List.set_cons_succ]
              refine takeN12 (v := ?_) (by kernel_rfl) (by kernel_rfl) (by kernel_rfl) (fun _ _ _ h => h) (by rfl) ?_ (by assumption) ?_
              rotate_left
              · intro wz hSw
                try dsimp only at hSw
                go_simp
                try with_reducible rfl
              try simp only [Act.put, List.setIfInBounds_toArray, List.set_cons_zero, List.set_cons_succ]
              refine takeN13 (v := ?_) (by kernel_rfl) (by kernel_rfl) (by kernel_rfl) (fun _ _ _ h => h) (by rfl) ?_ (by assumption) ?_
              rotate_left
              · intro wz hSw
                try dsimp only at hSw
                go_simp
                try with_reducible rfl
              try simp only [Act.put, List.setIfInBounds_toArray, List.set_cons_zero, List.set_cons_succ]
              refine takeN14 (v := ?_) (by kernel_rfl) (by kernel_rfl) (by kernel_rfl) (fun _ _ _ h => h) (by rfl) ?_ (by assumption) ?_
              rotate_left
              · intro wz hSw
                try dsimp only at hSw
                go_simp
                try with_reducible rfl
              try simp only [Act.put, List.setIfInBounds_toArray, List.set_cons_zero, List.set_cons_succ]
              refine takeN15 (v := ?_) (by kernel_rfl) (by kernel_rfl) (by kernel_rfl) (fun _ _ _ h => h) (by rfl) ?_ (by assumption) ?_
              rotate_left
              · intro wz hSw
                try dsimp only at hSw
                go_simp
                try with_reducible rfl
              try simp only [Act.put, List.setIfInBounds_toArray, List.set_cons_zero, List.set_cons_succ]
              refine takeN16 (v := ?_) (by kernel_rfl) (by kernel_rfl) (by kernel_rfl) (fun _ _ _ h => h) (by rfl) ?_ (by assumption) ?_
              rotate_left
              · intro wz hSw
                try dsimp only at hSw
                go_simp
                try with_reducible rfl
              try simp only [Act.put, List.setIfInBounds_toArray, List.set_cons_zero, List.set_cons_succ]
              refine takeN18 (v := ?_) (by kernel_rfl) (by kernel_rfl) (by kernel_rfl) (fun _ _ _ h => h) (by rfl) ?_ (by assumption) ?_
              rotate_left
              · intro wz hSw
                try dsimp only at hSw
                go_simp
                try with_reducible rfl
              try simp only [Act.put, List.setIfInBounds_toArray, List.set_cons_zero, List.set_cons_succ]
              refine takeN19 (v := ?_) (by kernel_rfl) (by kernel_rfl) (by kernel_rfl) (fun _ _ _ h => h) (by rfl) ?_ (by assumption) ?_
              rotate_left
              · intro wz hSw
                try dsimp only at hSw
                go_simp
                try with_reducible rfl
              try simp only [Act.put, List.setIfInBounds_toArray, List.set_cons_zero, List.set_cons_succ]
              refine takeN20 (v := ?_) (by kernel_rfl) (by kernel_rfl) (by kernel_rfl) (fun _ _ _ h => h) (by rfl) ?_ (by assumption) ?_
              rotate_left
              · intro wz hSw
                try dsimp only at hSw
                go_simp
                try with_reducible rfl
              try simp only [Act.put, List.setIfInBounds_toArray, List.set_cons_zero, List.set_cons_succ]
              refine takeN21 (v := ?_) (by kernel_rfl) (by kernel_rfl) (by kernel_rfl) (fun _ _ _ h => h) (by rfl) ?_ (by assumption) ?_
              rotate_left
              · intro wz hSw
                try dsimp only at hSw
                go_simp
                try with_reducible rfl
              try simp only [Act.put, List.setIfInBounds_toArray, List.set_cons_zero, List.set_cons_succ]
              refine takeN22 (v := ?_) (by kernel_rfl) (by kernel_rfl) (by kernel_rfl) (fun _ _ _ h => h) (by rfl) ?_ (by assumption) ?_
              rotate_left
              · intro wz hSw
                try dsimp only at hSw
                go_simp
                try with_reducible rfl
              try simp only [Act.put, List.setIfInBounds_toArray, List.set_cons_zero, List.set_cons_succ]
              refine takeN23 (v := ?_) (by kernel_rfl) (by kernel_rfl) (by kernel_rfl) (fun _ _ _ h => h) (by rfl) ?_ (by assumption) ?_
              rotate_left
              · intro wz hSw
                try dsimp only at hSw
                go_simp
                try with_reducible rfl
              try simp only [Act.put, List.setIfInBounds_toArray, List.set_cons_zero, List.set_cons_succ]
              refine comeN17 (by kernel_rfl) (by rfl) (fun K hK => ?_)
              go_simp
              (go_at_call 19; refine (Grade_x (m : Int) _ (HR.out.next B8.out) HFT.out).mono ?_; rintro r w9 ⟨rfl, bs⟩)
              try go_wp2_with fail
              rw [HGR.out]
              have RB9 := Lib.hid (RB8.out.next bs)
              have B9 := Lib.hid (chain B8.out bs)
              have W9 := Lib.hid (chain W8.out bs)
              have WI9 := Lib.hid (chain WI8.out bs)
              have M9 := Lib.hid (cell_up bs M8.out)
              have F9 := Lib.hid (cell_up bs F8.out)
              have G9 := Lib.hid (cell_up bs G8.out)
              clear bs
              refine hK.out _ _ ?_ (fun hHeld => ?_)
              · exact ⟨RB9.out.b0, RB9.out.b1, RB9.out.b2, RB9.out.b3, RB9.out.b4, RB9.out.b5, RB9.out.b6, RB9.out.b7, M9.out, F9.out, G9.out⟩
              clear hK K
              try simp only [Act.put, List.setIfInBounds_toArray, List.set_cons_zero, List.set_cons_succ]
              refine takeN24 (v := ?_) (by kernel_rfl) (by kernel_rfl) (by kernel_rfl) (fun _ _ _ h => h) (by rfl) ?_ (by assumption) ?_
              rotate_left
              · intro wz hSw
                try dsimp only at hSw
                go_simp
                try with_reducible rfl
              try simp only [Act.put, List.setIfInBounds_toArray, List.set_cons_zero, List.set_cons_succ]
              refine takeN25 (v := ?_) (by kernel_rfl) (by kernel_rfl) (by kernel_rfl) (fun _ _ _ h => h) (by rfl) ?_ (by assumption) ?_
              rotate_left
              · intro wz hSw
                try dsimp only at hSw
                go_simp
                try with_reducible rfl
              try simp only [Act.put, List.setIfInBounds_toArray, List.set_cons_zero, List.set_cons_succ]
              refine wpAnyH_done (by kernel_rfl) ?_ _
              clear hHeld
              go_wp2_with fail
              go_roundw
              case rel => exact ⟨j + 1, by omega, by congr 1, by congr 1, WI9.out⟩
              case measure => simp [intOf]; omega
            obtain ⟨p, hjp⟩ : ∃ p, j = p + 1 := ⟨j - 1, by omega⟩
            obtain ⟨b2, o2, z, eb, hz, -, t2⟩ := i_get (HL.out.next WI6.out) (show p < (memP R.firms (k : Int)).length by omega)
            simp only [Option.some.injEq, Addr.mk.injEq, and_true] at eb
            obtain ⟨rfl, rfl⟩ := eb
            have hzm : z < (m : Int) := by
              have := HV.out
              rw [hjp] at this
              exact mem_asc hz this
            have e0 : (j : Int) - 1 = (p : Int) := by omega
            have p0 : (0 : Int) ≤ (p : Int) := by omega
            have p1 : (p : Int) < ((memP R.firms (k : Int)).length : Int) := by omega
            have jp : 0 < (j : Int) := by omega
            have dj : decide (0 < j) = true := decide_eq_true (by omega)
            have dz : decide ((m : Int) ≤ z) = false := decide_eq_false (by omega)
            have nz : ¬ (m : Int) ≤ z := by omega
            have HJP := Lib.hid hjp
            clear hz hjp jz
            have y0 := RB6.out.b0
            have y1 := RB6.out.b1
            have y2 := RB6.out.b2
            have y3 := RB6.out.b3
            have y4 := RB6.out.b4
            have y5 := RB6.out.b5
            have y6 := RB6.out.b6
            have y7 := RB6.out.b7
            go_wp2_with fail
            go_quiet (fail)
            have BQ : Hid (Below w6.heap.size w6 (w6.drewN nq)) := below_drewN (Below.refl _ _) nq
            go_wp2_with fail
            have RB7 := Lib.hid (RB6.out.next BQ.out)
            have B7 := Lib.hid (chain B6.out BQ.out)
            have W7 := Lib.hid (chain W6.out BQ.out)
            have WI7 := Lib.hid (chain WI6.out BQ.out)
            have M7 := Lib.hid (cell_up BQ.out t1)
            have F7 := Lib.hid (cell_up BQ.out F6)
            have G7 := Lib.hid (cell_up BQ.out G6)
            clear t1 F6 G6 BQ y0 y1 y2 y3 y4 y5 y6 y7
            refine wp_region_held_drew (S := fun w' => w'.cell? ⟨w.heap.size, 0, none⟩ = some (.slice a0 R.cur.length c0) ∧ w'.cell? ⟨w.heap.size, 1, none⟩ = some (.slice a1 R.cities.length c1) ∧ w'.cell? ⟨w.heap.size, 2, none⟩ = some (.slice (some ⟨bg, og, none⟩) R.groups.length c2) ∧ w'.cell? ⟨w.heap.size, 3, none⟩ = some (.slice (some ⟨bf, of, none⟩) R.firms.length c3) ∧ w'.cell? ⟨w.heap.size, 4, none⟩ = some (.slice a4 R.orders.length c4) ∧ w'.cell? ⟨w.heap.size, 5, none⟩ = some (.slice a5 R.usances.length c5) ∧ w'.cell? ⟨w.heap.size, 6, none⟩ = some (.slice a6 R.rates.length c6) ∧ w'.cell? ⟨w.heap.size, 7, none⟩ = some (.slice a7 R.halts.length c7) ∧ w'.cell? ⟨bl, ol + j, none⟩ = some (.int .i64 (m : Int)) ∧ w'.cell? ⟨bf, of + m * 3 + 2, none⟩ = some (.int .i64 (k : Int)) ∧ w'.cell? ⟨bg, og + k, none⟩ = some (.int .i64 gr)) (by kernel_rfl) ?_ (fun hHeld => ?_)
            · exact ⟨RB7.out.b0, RB7.out.b1, RB7.out.b2, RB7.out.b3, RB7.out.b4, RB7.out.b5, RB7.out.b6, RB7.out.b7, M7.out, F7.out, G7.out⟩
            have RB8 := Lib.hid (RB7.out.next (below_drew _))
            have B8 := Lib.hid (B7.out.drew)
            have W8 := Lib.hid (W7.out.drew)
            have WI8 := Lib.hid (WI7.out.drew)
            have M8 := Lib.hid (cell_up (below_drew _) M7.out)
            have F8 := Lib.hid (cell_up (below_drew _) F7.out)
            have G8 := Lib.hid (cell_up (below_drew _) G7.out)
            refine takeN0 (v := ?_) (by kernel_rfl) (by kernel_rfl) (by kernel_rfl) (fun _ _ _ h => h) (by rfl) ?_ (by assumption) ?_
            rotate_left
            · intro wz hSw
              try dsimp only at hSw
              go_simp
              try with_reducible rfl
            try simp only [Act.put, List.setIfInBounds_toArray, List.set_cons_zero, List.set_cons_succ]
            refine takeN1 (v := ?_) (by kernel_rfl) (by kernel_rfl) (by kernel_rfl) (fun _ _ _ h => h) (by rfl) ?_ (by assumption) ?_
            rotate_left
            · intro wz hSw
              try dsimp only at hSw
              go_simp
              try with_reducible rfl
            try simp only [Act.put, List.setIfInBounds_toArray, List.set_cons_zero, List.set_cons_succ]
            refine takeN2 (v := ?_) (by kernel_rfl) (by kernel_rfl) (by kernel_rfl) (fun _ _ _ h => h) (by rfl) ?_ (by assumption) ?_
            rotate_left
            · intro wz hSw
              try dsimp only at hSw
              go_simp
              try with_reducible rfl
            try simp only [Act.put, List.setIfInBounds_toArray, List.set_cons_zero, List.set_cons_succ]
            refine takeN3 (v := ?_) (by kernel_rfl) (by kernel_rfl) (by kernel_rfl) (fun _ _ _ h => h) (by rfl) ?_ (by assumption) ?_
            rotate_left
            · intro wz hSw
              try dsimp only at hSw
              go_simp
              try with_reducible rfl
            try simp only [Act.put, List.setIfInBounds_toArray, List.set_cons_zero, List.set_cons_succ]
            refine takeN4 (v := ?_) (by kernel_rfl) (by kernel_rfl) (by kernel_rfl) (fun _ _ _ h => h) (by rfl) ?_ (by assumption) ?_
            rotate_left
            · intro wz hSw
              try dsimp only at hSw
              go_simp
              try with_reducible rfl
            try simp only [Act.put, List.setIfInBounds_toArray, List.set_cons_zero, List.set_cons_succ]
            refine takeN5 (v := ?_) (by kernel_rfl) (by kernel_rfl) (by kernel_rfl) (fun _ _ _ h => h) (by rfl) ?_ (by assumption) ?_
            rotate_left
            · intro wz hSw
              try dsimp only at hSw
              go_simp
              try with_reducible rfl
            try simp only [Act.put, List.setIfInBounds_toArray, List.set_cons_zero, List.set_cons_succ]
            refine takeN6 (v := ?_) (by kernel_rfl) (by kernel_rfl) (by kernel_rfl) (fun _ _ _ h => h) (by rfl) ?_ (by assumption) ?_
            rotate_left
            · intro wz hSw
              try dsimp only at hSw
              go_simp
              try with_reducible rfl
            try simp only [Act.put, List.setIfInBounds_toArray, List.set_cons_zero, List.set_cons_succ]
            refine takeN7 (v := ?_) (by kernel_rfl) (by kernel_rfl) (by kernel_rfl) (fun _ _ _ h => h) (by rfl) ?_ (by assumption) ?_
            rotate_left
            · intro wz hSw
              try dsimp only at hSw
              go_simp
              try with_reducible rfl
            try simp only [Act.put, List.setIfInBounds_toArray, List.set_cons_zero, List.set_cons_succ]
            refine takeN8 (v := ?_) (by kernel_rfl) (by kernel_rfl) (by kernel_rfl) (fun _ _ _ h => h) (by rfl) ?_ (by assumption) ?_
            rotate_left
            · intro wz hSw
              try dsimp only at hSw
              go_simp
              try with_reducible rfl
            try simp only [Act.put, List.setIfInBounds_toArray, List.set_cons_zero, List.set_cons_succ]
            refine takeN9 (v := ?_) (by kernel_rfl) (by kernel_rfl) (by kernel_rfl) (fun _ _ _ h => h) (by rfl) ?_ (by assumption) ?_
            rotate_left
            · intro wz hSw
              try dsimp only at hSw
              go_simp
              try with_reducible rfl
            try simp only [Act.put, List.setIfInBounds_toArray, List.set_cons_zero, List.set_cons_succ]
            refine takeN10 (v := ?_) (by kernel_rfl) (by kernel_rfl) (by kernel_rfl) (fun _ _ _ h => h) (by rfl) ?_ (by assumption) ?_
            rotate_left
            · intro wz hSw
              try dsimp only at hSw
              go_simp
              try with_reducible rfl
            try simp only [Act.put, List.setIfInBounds_toArray, List.set_cons_zero, List.set_cons_succ]
            refine takeN11 (v := ?_) (by kernel_rfl) (by kernel_rfl) (by kernel_rfl) (fun _ _ _ h => h) (by rfl) ?_ (by assumption) ?_
            rotate_left
            · intro wz hSw
              try dsimp only at hSw
              go_simp
              try with_reducible rfl
            try simp only [Act.put, List.setIfInBounds_toArray, List.set_cons_zero, List.set_cons_succ]
            refine takeN12 (v := ?_) (by kernel_rfl) (by kernel_rfl) (by kernel_rfl) (fun _ _ _ h => h) (by rfl) ?_ (by assumption) ?_
            rotate_left
            · intro wz hSw
              try dsimp only at hSw
              go_simp
              try with_reducible rfl
            try simp only [Act.put, List.setIfInBounds_toArray, List.set_cons_zero, List.set_cons_succ]
            refine takeN13 (v := ?_) (by kernel_rfl) (by kernel_rfl) (by kernel_rfl) (fun _ _ _ h => h) (by rfl) ?_ (by assumption) ?_
            rotate_left
            · intro wz hSw
              try dsimp only at hSw
              go_simp
              try with_reducible rfl
            try simp only [Act.put, List.setIfInBounds_toArray, List.set_cons_zero, List.set_cons_succ]
            refine takeN14 (v := ?_) (by kernel_rfl) (by kernel_rfl) (by kernel_rfl) (fun _ _ _ h => h) (by rfl) ?_ (by assumption) ?_
            rotate_left
            · intro wz hSw
              try dsimp only at hSw
              go_simp
              try with_reducible rfl
            try simp only [Act.put, List.setIfInBounds_toArray, List.set_cons_zero, List.set_cons_succ]
            refine takeN15 (v := ?_) (by kernel_rfl) (by kernel_rfl) (by kernel_rfl) (fun _ _ _ h => h) (by rfl) ?_ (by assumption) ?_
            rotate_left
            · intro wz hSw
              try dsimp only at hSw
              go_simp
              try with_reducible rfl
            try simp only [Act.put, List.setIfInBounds_toArray, List.set_cons_zero, List.set_cons_succ]
            refine takeN16 (v := ?_) (by kernel_rfl) (by kernel_rfl) (by kernel_rfl) (fun _ _ _ h => h) (by rfl) ?_ (by assumption) ?_
            rotate_left
            · intro wz hSw
              try dsimp only at hSw
              go_simp
              try with_reducible rfl
            try simp only [Act.put, List.setIfInBounds_toArray, List.set_cons_zero, List.set_cons_succ]
            refine takeN18 (v := ?_) (by kernel_rfl) (by kernel_rfl) (by kernel_rfl) (fun _ _ _ h => h) (by rfl) ?_ (by assumption) ?_
            rotate_left
            · intro wz hSw
              try dsimp only at hSw
              go_simp
              try with_reducible rfl
            try simp only [Act.put, List.setIfInBounds_toArray, List.set_cons_zero, List.set_cons_succ]
            refine takeN19 (v := ?_) (by kernel_rfl) (by kernel_rfl) (by kernel_rfl) (fun _ _ _ h => h) (by rfl) ?_ (by assumption) ?_
            rotate_left
            · intro wz hSw
              try dsimp only at hSw
              go_simp
              try with_reducible rfl
            try simp only [Act.put, List.setIfInBounds_toArray, List.set_cons_zero, List.set_cons_succ]
            refine takeN20 (v := ?_) (by kernel_rfl) (by kernel_rfl) (by kernel_rfl) (fun _ _ _ h => h) (by rfl) ?_ (by assumption) ?_
            rotate_left
            · intro wz hSw
              try dsimp only at hSw
              go_simp
              try with_reducible rfl
            try simp only [Act.put, List.setIfInBounds_toArray, List.set_cons_zero, List.set_cons_succ]
            refine takeN21 (v := ?_) (by kernel_rfl) (by kernel_rfl) (by kernel_rfl) (fun _ _ _ h => h) (by rfl) ?_ (by assumption) ?_
            rotate_left
            · intro wz hSw
              try dsimp only at hSw
              go_simp
              try with_reducible rfl
            try simp only [Act.put, List.setIfInBounds_toArray, List.set_cons_zero, List.set_cons_succ]
            refine takeN22 (v := ?_) (by kernel_rfl) (by kernel_rfl) (by kernel_rfl) (fun _ _ _ h => h) (by rfl) ?_ (by assumption) ?_
            rotate_left
            · intro wz hSw
              try dsimp only at hSw
              go_simp
              try with_reducible rfl
            try simp only [Act.put, List.setIfInBounds_toArray, List.set_cons_zero, List.set_cons_succ]
            refine takeN23 (v := ?_) (by kernel_rfl) (by kernel_rfl) (by kernel_rfl) (fun _ _ _ h => h) (by rfl) ?_ (by assumption) ?_
            rotate_left
            · intro wz hSw
              try dsimp only at hSw
              go_simp
              try with_reducible rfl
            try simp only [Act.put, List.setIfInBounds_toArray, List.set_cons_zero, List.set_cons_succ]
            refine comeN17 (by kernel_rfl) (by rfl) (fun K hK => ?_)
            go_simp
            (go_at_call 19; refine (Grade_x (m : Int) _ (HR.out.next B8.out) HFT.out).mono ?_; rintro r w9 ⟨rfl, bs⟩)
            try go_wp2_with fail
            rw [HGR.out]
            have RB9 := Lib.hid (RB8.out.next bs)
            have B9 := Lib.hid (chain B8.out bs)
            have W9 := Lib.hid (chain W8.out bs)
            have WI9 := Lib.hid (chain WI8.out bs)
            have M9 := Lib.hid (cell_up bs M8.out)
            have F9 := Lib.hid (cell_up bs F8.out)
            have G9 := Lib.hid (cell_up bs G8.out)
            clear bs
            refine hK.out _ _ ?_ (fun hHeld => ?_)
            · exact ⟨RB9.out.b0, RB9.out.b1, RB9.out.b2, RB9.out.b3, RB9.out.b4, RB9.out.b5, RB9.out.b6, RB9.out.b7, M9.out, F9.out, G9.out⟩
            clear hK K
            try simp only [Act.put, List.setIfInBounds_toArray, List.set_cons_zero, List.set_cons_succ]
            refine takeN24 (v := ?_) (by kernel_rfl) (by kernel_rfl) (by kernel_rfl) (fun _ _ _ h => h) (by rfl) ?_ (by assumption) ?_
            rotate_left
            · intro wz hSw
              try dsimp only at hSw
              go_simp
              try with_reducible rfl
            try simp only [Act.put, List.setIfInBounds_toArray, List.set_cons_zero, List.set_cons_succ]
            refine takeN25 (v := ?_) (by kernel_rfl) (by kernel_rfl) (by kernel_rfl) (fun _ _ _ h => h) (by rfl) ?_ (by assumption) ?_
            rotate_left
            · intro wz hSw
              try dsimp only at hSw
              go_simp
              try with_reducible rfl
            try simp only [Act.put, List.setIfInBounds_toArray, List.set_cons_zero, List.set_cons_succ]
            refine wpAnyH_done (by kernel_rfl) ?_ _
            clear hHeld
            go_wp2_with fail
            go_roundw
            case rel => exact ⟨j + 1, by omega, by congr 1, by congr 1, WI9.out⟩
            case measure => simp [intOf]; omega

end Go.Proofs.Ytagdikghpiiabaa
