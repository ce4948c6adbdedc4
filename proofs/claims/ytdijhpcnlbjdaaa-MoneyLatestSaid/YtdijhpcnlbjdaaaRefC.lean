/-
  A list of rates in memory; the reference's Find.
-/
import Derived.Test.YtdijhpcnlbjdaaaRefB
namespace Go.Proofs.Ytdijhpcnlbjdaaa
open Go.RowKit Mon

/-- a slice value reads as a list of rates -/
def RAt (w : World) (v : Value) (l : List R) : Prop := ∃ a cap, v = .slice a l.length cap ∧ l.length ≤ cap ∧ ∀ j r, l[j]? = some r → ∃ b off, a = some ⟨b, off, none⟩ ∧ b < w.heap.size ∧
  w.cell? ⟨b, off + j * 5, none⟩ = some (.int .i64 r.f) ∧ w.cell? ⟨b, off + j * 5 + 1, none⟩ = some (.int .i64 r.t) ∧ w.cell? ⟨b, off + j * 5 + 2, none⟩ = some (.int .i64 r.n) ∧ w.cell? ⟨b, off + j * 5 + 3, none⟩ = some (.int .i64 r.d) ∧ w.cell? ⟨b, off + j * 5 + 4, none⟩ = some (.int .i64 r.s)
theorem RAt.below {w w' : World} {v : Value} {l : List R} {B : Nat} (h : RAt w v l) (hb : Below B w w') (hB : w.heap.size ≤ B) : RAt w' v l := by
  obtain ⟨a, cap, rfl, hcap, h⟩ := h
  refine ⟨a, cap, rfl, hcap, fun j t ht => ?_⟩
  obtain ⟨b, off, e, hlt, h0, h1, h2, h3, h4⟩ := h j t ht
  have hc : ∀ o, w'.cell? ⟨b, o, none⟩ = w.cell? ⟨b, o, none⟩ := fun o => hb.cell (p := ⟨b, o, none⟩) (by show b < B; omega)
  refine ⟨b, off, e, by have := hb.size; omega, ?_, ?_, ?_, ?_, ?_⟩ <;> rw [hc] <;> assumption

/-- the rate so far, as its index -/
def At (l : List R) (bo : Option R) (n : Int) : Prop := (bo = none ∧ n = -1) ∨ ∃ (j : Nat) (r : R), n = j ∧ bo = some r ∧ l[j]? = some r
def FRel (l : List R) (f t on : Int) (w : World) (best i : Value) (wr : World) : Prop := ∃ (k : Nat) (n : Int), k ≤ l.length ∧ i = .int .i64 (k : Int) ∧ best = .int .i64 n ∧ At l ((l.take k).foldl (stepR f t on) none) n ∧ ∃ q, wr = w.drewN q
theorem fold_next {f t on : Int} {l : List R} {k : Nat} {r : R} (h : l[k]? = some r) (b : Option R) : (l.take (k + 1)).foldl (stepR f t on) b = stepR f t on ((l.take k).foldl (stepR f t on) b) r := by
  rw [List.take_add_one, h, List.foldl_append]
  rfl
theorem fold_all {f t on : Int} {l : List R} {k : Nat} (h : l.length ≤ k) (b : Option R) : (l.take k).foldl (stepR f t on) b = l.foldl (stepR f t on) b := by rw [List.take_of_length_le h]

set_option maxHeartbeats 3200000 in
theorem Find_x (v : Value) (l : List R) (f t on : Int) (w : World) (hat : RAt w v l) (hl : l.length ≤ 1099511627776) :
    Calls Try.prog 16 #[v, .int .i64 f, .int .i64 t, .int .i64 on] w fun e w' => ∃ n : Int, e = .returned (.int .i64 n) ∧ At l (pick l f t on) n ∧ ∃ q, w' = w.drewN q := by
  obtain ⟨a, cap, rfl, -, hc⟩ := hat
  have HC := Lib.hid hc
  clear hc
  go_enter Try.func16, Try.ntmps16
  go_wp2_with fail
  go_loopw [9, 10] (fun best i wr => FRel l f t on w best i wr) (fun _ i _ => l.length - (intOf i).toNat)
  case atStart => exact ⟨0, -1, Nat.zero_le _, rfl, rfl, .inl ⟨by simp, rfl⟩, 0, rfl⟩
  case round =>
    obtain ⟨k, n, hk, rfl, rfl, hbest, m, rfl⟩ := hrel
    have Hb := Lib.hid hbest
    clear hbest
    have k0 : (0 : Int) ≤ (k : Int) := by omega
    by_cases c : k < l.length
    case neg =>
      have hv : Hid (At l (pick l f t on) n) := by
        have h := Hb.out
        rw [fold_all (by omega)] at h
        exact h
      have c0 : ¬ (k : Int) < (l.length : Int) := by omega
      clear HC
      go_wp2_with fail
      go_ret
      exact ⟨n, by try rfl, hv.out, m, rfl⟩
    case pos =>
      obtain ⟨r, hr⟩ : ∃ r, l[k]? = some r := ⟨l[k], List.getElem?_eq_getElem c⟩
      obtain ⟨b, off, rfl, hb, p0, p1, p2, p3, p4⟩ := HC.out k r hr
      have c0 : (k : Int) < (l.length : Int) := by omega
      have Hn : Hid (∀ n', At l (stepR f t on ((l.take k).foldl (stepR f t on) none) r) n' → At l ((l.take (k + 1)).foldl (stepR f t on) none) n') := fun n' h => by rw [fold_next hr]; exact h
      have Hr := Lib.hid hr
      clear hr p2 p3
      by_cases e1 : r.f = f
      case neg =>
        have nf : Hid (fits f t on r = false) := decide_eq_false (by omega)
        have f1 : (r.f != f) = true := by simp; omega
        clear e1
        go_wp2_with fail
        go_roundw
        case rel => exact ⟨k + 1, n, by omega, by congr 1, rfl, Hn.out _ (by have h := Hb.out; unfold stepR; rw [if_neg (by rw [nf.out]; exact Bool.false_ne_true)]; exact h), m, rfl⟩
        case measure => simp [intOf]; omega
      by_cases e2 : r.t = t
      case neg =>
        have nf : Hid (fits f t on r = false) := decide_eq_false (by omega)
        have f1 : (r.f != f) = false := by simp; omega
        have f2 : (r.t != t) = true := by simp; omega
        clear e1 e2
        go_wp2_with fail
        go_roundw
        case rel => exact ⟨k + 1, n, by omega, by congr 1, rfl, Hn.out _ (by have h := Hb.out; unfold stepR; rw [if_neg (by rw [nf.out]; exact Bool.false_ne_true)]; exact h), m, rfl⟩
        case measure => simp [intOf]; omega
      by_cases e3 : on < r.s
      case pos =>
        have nf : Hid (fits f t on r = false) := decide_eq_false (by omega)
        have f1 : (r.f != f) = false := by simp; omega
        have f2 : (r.t != t) = false := by simp; omega
        clear e1 e2
        go_wp2_with fail
        go_roundw
        case rel => exact ⟨k + 1, n, by omega, by congr 1, rfl, Hn.out _ (by have h := Hb.out; unfold stepR; rw [if_neg (by rw [nf.out]; exact Bool.false_ne_true)]; exact h), m, rfl⟩
        case measure => simp [intOf]; omega
      have yf : Hid (fits f t on r = true) := decide_eq_true ⟨e1, e2, by omega⟩
      have f1 : (r.f != f) = false := by simp; omega
      have f2 : (r.t != t) = false := by simp; omega
      clear e1 e2
      rcases Hb.out with ⟨bn, rfl⟩ | ⟨j, q, rfl, bq, hj⟩
      · have Bn := Lib.hid bn
        have g1 : decide ((-1 : Int) < 0) = true := rfl
        clear bn Hb
        go_wp2_with fail
        go_quiet (fail)
        go_wp2_with fail
        go_roundw
        case rel => exact ⟨k + 1, k, by omega, by congr 1, rfl, Hn.out _ (by rw [Bn.out]; unfold stepR; rw [if_pos yf.out]; exact .inr ⟨k, r, rfl, rfl, Hr.out⟩), _, by first | rfl | rw [World.drewN_drewN]⟩
        case measure => simp [intOf]; omega
      · have Bq := Lib.hid bq
        have jl : j < l.length := (List.getElem?_eq_some_iff.1 hj).1
        obtain ⟨b', off', e', hb', -, -, -, -, q4⟩ := HC.out j q hj
        injection e' with e'
        injection e' with e5 e6
        subst e5 e6
        have Hj := Lib.hid hj
        have j0 : (0 : Int) ≤ (j : Int) := by omega
        have j1 : (j : Int) < (l.length : Int) := by omega
        have g1 : decide ((j : Int) < 0) = false := decide_eq_false (by omega)
        clear bq Hb hj HC jl hb'
        by_cases e4 : q.s < r.s
        · have g2 : decide (q.s < r.s) = true := decide_eq_true e4
          have H4 := Lib.hid e4
          go_wp2_with fail
          go_quiet (fail)
          go_wp2_with fail
          go_roundw
          case rel => exact ⟨k + 1, k, by omega, by congr 1, rfl, Hn.out _ (by rw [Bq.out]; unfold stepR; rw [if_pos yf.out]; simp only; rw [if_pos (by have := H4.out; omega)]; exact .inr ⟨k, r, rfl, rfl, Hr.out⟩), _, by first | rfl | rw [World.drewN_drewN]⟩
          case measure => simp [intOf]; omega
        · have g2 : decide (q.s < r.s) = false := decide_eq_false e4
          have H4 := Lib.hid e4
          go_wp2_with fail
          go_quiet (fail)
          go_wp2_with fail
          go_roundw
          case rel => exact ⟨k + 1, (j : Int), by omega, by congr 1, rfl, Hn.out _ (by rw [Bq.out]; unfold stepR; rw [if_pos yf.out]; simp only; rw [if_neg (by have := H4.out; omega)]; exact .inr ⟨j, q, rfl, rfl, Hj.out⟩), _, by first | rfl | rw [World.drewN_drewN]⟩
          case measure => simp [intOf]; omega

end Go.Proofs.Ytdijhpcnlbjdaaa
