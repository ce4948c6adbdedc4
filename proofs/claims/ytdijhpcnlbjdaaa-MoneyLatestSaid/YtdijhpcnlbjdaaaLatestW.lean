/-
  The law MoneyLatest's walk.
-/
import Derived.Test.YtdijhpcnlbjdaaaLatestL
namespace Go.Proofs.Ytdijhpcnlbjdaaa
open Go.RowKit Mon
attribute [local go_sem ↓] Go.wp_at_zero Go.wp_at_succ

set_option maxHeartbeats 12800000 in
set_option maxRecDepth 100000 in
theorem MoneyLatest_x (hM : MonOk) (v : Value) (l : List R) (r : R) (at' s f t on : Int) (w : World) (hat : RAt w v l) (hz : ∀ n c, v = .slice none n c → c = 0) (hok : ∀ r ∈ l, okI r) (hr : okI r) (_ : I64 at') (hs : I64 s) (hf : I64 f) (ht : I64 t) (hon : I64 on) :
    Calls Try.prog 7 #[v, .agg #[.int .i64 r.f, .int .i64 r.t, .int .i64 r.n, .int .i64 r.d, .int .i64 r.s], .int .i64 at', .int .i64 s, .int .i64 f, .int .i64 t, .int .i64 on] w fun e w' => e = .returned (.bool true) ∧ Below w.heap.size w w' := by
  have HAT := Lib.hid hat
  obtain ⟨ad, cap, rfl, hcap, hc⟩ := hat
  have HC := Lib.hid hc
  have HZ := Lib.hid hz
  have HOK := Lib.hid hok
  have HR := Lib.hid hr
  have HS := Lib.hid hs
  have HF := Lib.hid hf
  have HT := Lib.hid ht
  have HON := Lib.hid hon
  clear hc hz hok hs hf ht hon hr
  by_cases g1 : (99 : Int) < (l.length : Int)
  · have tg1 : decide ((99 : Int) < (l.length : Int)) = true := decide_eq_true g1
    go_enter Try.func7, Try.ntmps7
    have B := BxR.start w r 36
    have z0 := B.lt
    have z1 := B.c0
    have z2 := B.c1
    have z3 := B.c2
    have z4 := B.c3
    have z5 := B.c4
    go_wp2_with fail
    refine (sane_x hM _).mono ?_
    rintro e' w1 ⟨rfl, b1⟩
    have B' := B.next b1
    clear B b1 z0 z1 z2 z3 z4 z5
    have B := B'
    clear B'
    have z0 := B.lt
    have z1 := B.c0
    have z2 := B.c1
    have z3 := B.c2
    have z4 := B.c3
    have z5 := B.c4
    have hbl := B.below
    go_wp2_with fail
    go_ret
    exact ⟨by try rfl, hbl⟩
  have tg1 : decide ((99 : Int) < (l.length : Int)) = false := decide_eq_false g1
  by_cases g2 : r.n < 1
  · have tg2 : decide (r.n < 1) = true := decide_eq_true g2
    go_enter Try.func7, Try.ntmps7
    have B := BxR.start w r 36
    have z0 := B.lt
    have z1 := B.c0
    have z2 := B.c1
    have z3 := B.c2
    have z4 := B.c3
    have z5 := B.c4
    go_wp2_with fail
    refine (sane_x hM _).mono ?_
    rintro e' w1 ⟨rfl, b1⟩
    have B' := B.next b1
    clear B b1 z0 z1 z2 z3 z4 z5
    have B := B'
    clear B'
    have z0 := B.lt
    have z1 := B.c0
    have z2 := B.c1
    have z3 := B.c2
    have z4 := B.c3
    have z5 := B.c4
    have hbl := B.below
    go_wp2_with fail
    go_ret
    exact ⟨by try rfl, hbl⟩
  have tg2 : decide (r.n < 1) = false := decide_eq_false g2
  by_cases g3 : 1073741824 < r.n
  · have tg3 : decide (1073741824 < r.n) = true := decide_eq_true g3
    go_enter Try.func7, Try.ntmps7
    have B := BxR.start w r 36
    have z0 := B.lt
    have z1 := B.c0
    have z2 := B.c1
    have z3 := B.c2
    have z4 := B.c3
    have z5 := B.c4
    go_wp2_with fail
    refine (sane_x hM _).mono ?_
    rintro e' w1 ⟨rfl, b1⟩
    have B' := B.next b1
    clear B b1 z0 z1 z2 z3 z4 z5
    have B := B'
    clear B'
    have z0 := B.lt
    have z1 := B.c0
    have z2 := B.c1
    have z3 := B.c2
    have z4 := B.c3
    have z5 := B.c4
    have hbl := B.below
    go_wp2_with fail
    go_ret
    exact ⟨by try rfl, hbl⟩
  have tg3 : decide (1073741824 < r.n) = false := decide_eq_false g3
  by_cases g4 : r.d < 1
  · have tg4 : decide (r.d < 1) = true := decide_eq_true g4
    go_enter Try.func7, Try.ntmps7
    have B := BxR.start w r 36
    have z0 := B.lt
    have z1 := B.c0
    have z2 := B.c1
    have z3 := B.c2
    have z4 := B.c3
    have z5 := B.c4
    go_wp2_with fail
    refine (sane_x hM _).mono ?_
    rintro e' w1 ⟨rfl, b1⟩
    have B' := B.next b1
    clear B b1 z0 z1 z2 z3 z4 z5
    have B := B'
    clear B'
    have z0 := B.lt
    have z1 := B.c0
    have z2 := B.c1
    have z3 := B.c2
    have z4 := B.c3
    have z5 := B.c4
    have hbl := B.below
    go_wp2_with fail
    go_ret
    exact ⟨by try rfl, hbl⟩
  have tg4 : decide (r.d < 1) = false := decide_eq_false g4
  by_cases g5 : 1073741824 < r.d
  · have tg5 : decide (1073741824 < r.d) = true := decide_eq_true g5
    go_enter Try.func7, Try.ntmps7
    have B := BxR.start w r 36
    have z0 := B.lt
    have z1 := B.c0
    have z2 := B.c1
    have z3 := B.c2
    have z4 := B.c3
    have z5 := B.c4
    go_wp2_with fail
    refine (sane_x hM _).mono ?_
    rintro e' w1 ⟨rfl, b1⟩
    have B' := B.next b1
    clear B b1 z0 z1 z2 z3 z4 z5
    have B := B'
    clear B'
    have z0 := B.lt
    have z1 := B.c0
    have z2 := B.c1
    have z3 := B.c2
    have z4 := B.c3
    have z5 := B.c4
    have hbl := B.below
    go_wp2_with fail
    go_ret
    exact ⟨by try rfl, hbl⟩
  have tg5 : decide (1073741824 < r.d) = false := decide_eq_false g5
  obtain ⟨mn, k, i1, i2, kl⟩ := place l.length at' (by omega)
  have k0 : (0 : Int) ≤ (k : Int) := by omega
  have kc : (k : Int) ≤ (cap : Int) := by omega
  have ok1 : okR r = true := decide_eq_true ⟨⟨by omega, by omega⟩, by omega, by omega⟩
  have part1 : Hid (partP r.n ∧ partP r.d) := show _ ∧ _ from ⟨⟨by omega, by omega⟩, by omega, by omega⟩
  obtain ⟨ri, hi, hz0, hz1, hz2⟩ := info_parts infoR
  go_enter Try.func7, Try.ntmps7
  have B := BxR.start w r 36
  have z0 := B.lt
  have z1 := B.c0
  have z2 := B.c1
  have z3 := B.c2
  have z4 := B.c3
  have z5 := B.c4
  go_wp2_with fail
  refine (sane_x hM _).mono ?_
  rintro e' w1 ⟨rfl, b1⟩
  have B' := B.next b1
  clear B b1 z0 z1 z2 z3 z4 z5
  have B := B'
  clear B'
  have z0 := B.lt
  have z1 := B.c0
  have z2 := B.c1
  have z3 := B.c2
  have z4 := B.c3
  have z5 := B.c4
  go_upto_region 5 with fail
  go_cut [17] (fun v' wx => RAt wx v' (l.take k ++ r :: l.drop k) ∧ BxR w r wx)
  case first =>
    have HI1 := Lib.hid i1
    have HI2 := Lib.hid i2
    have OK1 := Lib.hid ok1
    have Hi := Lib.hid hi
    have Hz0 := Lib.hid hz0
    have Hz1 := Lib.hid hz1
    have Hz2 := Lib.hid hz2
    have KL := Lib.hid kl
    have HCAP := Lib.hid hcap
    have L99 : Hid ((l.length : Int) ≤ 99) := by show _ ≤ _; omega
    clear i1 i2 ok1 hi hz0 hz1 hz2 g1 g2 g3 g4 g5 tg1 tg2 tg3 tg4 tg5
    cases ad with
    | none =>
      obtain rfl : cap = 0 := HZ.out _ _ rfl
      obtain rfl : k = 0 := by omega
      obtain rfl : l = [] := List.eq_nil_of_length_eq_zero (by have := HCAP.out; omega)
      go_region_held3 (fun w' => w.heap.size < w'.heap.size ∧ w'.cell? ⟨w.heap.size, 0, none⟩ = some (.int .i64 r.f) ∧ w'.cell? ⟨w.heap.size, 1, none⟩ = some (.int .i64 r.t) ∧ w'.cell? ⟨w.heap.size, 2, none⟩ = some (.int .i64 r.n) ∧ w'.cell? ⟨w.heap.size, 3, none⟩ = some (.int .i64 r.d) ∧ w'.cell? ⟨w.heap.size, 4, none⟩ = some (.int .i64 r.s))
        (first | exact bx_all B | exact bx_all (BxR.drew B) | exact bx_all (BxR.alloc B _) | exact bx_all (BxR.alloc (BxR.alloc B _) _) | exact bx_all (BxR.alloc (BxR.drew B) _) | exact bx_all (BxR.alloc (BxR.alloc (BxR.drew B) _) _) | exact bx_all (by assumption) | exact bx_all (BxR.alloc (by assumption) _))
        (first | (refine step_none (by rfl) (.tmp 58) (.tmp 61) 22 (by rfl) (w.heap.size + 1) 36 ri 5 Try.underlying22 Hi.out _ 0 [] (by rfl) (own_empty w1 36 (w.heap.size + 1) w1.heap.size rfl B.lt).drew (by rfl) ?_; intro v5 w5 hown5 hgrow5; have hk5 : BxR w r w5 := (by first | exact BxR.grown (BxR.drew (BxR.alloc B _)) hgrow5 (by intro j hj; simp [Value.ownBlock] at hj; have := B.lt; omega) | exact BxR.grown (BxR.drew (BxR.alloc (BxR.alloc B _) _)) hgrow5 (by intro j hj; simp [Value.ownBlock] at hj; have := B.lt; omega))) | (refine step_none (by rfl) (.tmp 58) (.tmp 61) 22 (by rfl) (w.heap.size + 1) 36 ri 5 Try.underlying22 Hi.out _ 0 [] (by rfl) (World.ownsRow.drew ((own_empty w1 36 (w.heap.size + 1) w1.heap.size rfl B.lt).alloc _)) (by rfl) ?_; intro v5 w5 hown5 hgrow5; have hC5 : ∀ j u, (rateC r)[j]? = some u → w5.cell? ((⟨w1.heap.size + 1, 0, none⟩ : Addr).add j) = some u := (fun j u hu => (hgrow5.cell_far ((⟨w1.heap.size + 1, 0, none⟩ : Addr).add j) (by rw [lessBlk]; simp; try omega) (by rw [lessBlk]; simp [Value.ownBlock])).trans (rate_new _ r _ _ (by simp) j u hu)); have hk5 : BxR w r w5 := (by first | exact BxR.grown (BxR.drew (BxR.alloc B _)) hgrow5 (by intro j hj; simp [Value.ownBlock] at hj; have := B.lt; omega) | exact BxR.grown (BxR.drew (BxR.alloc (BxR.alloc B _) _)) hgrow5 (by intro j hj; simp [Value.ownBlock] at hj; have := B.lt; omega))) | (refine step_none (by rfl) (.tmp 58) (.tmp 61) 22 (by rfl) (w.heap.size + 1) 36 ri 5 Try.underlying22 Hi.out _ 0 [] (by rfl) (own_empty (w1.alloc _) 36 (w.heap.size + 1) (w1.heap.size + 1) (by simp) (by have := B.lt; omega)).drew (by rfl) ?_; intro v5 w5 hown5 hgrow5; have hC5 : ∀ j u, (rateC r)[j]? = some u → w5.cell? ((⟨w1.heap.size, 0, none⟩ : Addr).add j) = some u := (fun j u hu => (hgrow5.cell_far ((⟨w1.heap.size, 0, none⟩ : Addr).add j) (by rw [lessBlk]; simp; try omega) (by rw [lessBlk]; simp [Value.ownBlock])).trans (((Below.new (w := w1.alloc _) _).cell (p := _) (by rw [lessBlk]; simp)).trans (rate_new _ r _ _ rfl j u hu))); have hk5 : BxR w r w5 := (by first | exact BxR.grown (BxR.drew (BxR.alloc B _)) hgrow5 (by intro j hj; simp [Value.ownBlock] at hj; have := B.lt; omega) | exact BxR.grown (BxR.drew (BxR.alloc (BxR.alloc B _) _)) hgrow5 (by intro j hj; simp [Value.ownBlock] at hj; have := B.lt; omega))) | (refine step_app (by rfl) (.tmp 62) (.tmp 64) 22 (by rfl) (w.heap.size + 1) 36 ri (.agg #[.int .i64 0, .int .i64 0, .int .i64 0, .int .i64 0, .int .i64 0]) 5 40 Try.underlying22 Hi.out Hz0.out Hz1.out Hz2.out (by rfl) (by decide) _ 0 [] (by rfl) (hown5.alloc _) ⟨w5.heap.size, 0, none⟩ 1 1 (rateC r) (by rfl) (by rfl) (rate_new _ r _ _ rfl) (rate_one r) (by decide) (by decide) (by have := hk5.lt; simp; omega) ?_; intro v6 w6 hown6 hgrow6; have hk6 : BxR w r w6 := (by first | exact BxR.grown (BxR.alloc hk5 _) hgrow6 (fun j hj => (hown5.lt j hj).1) | exact BxR.grown hk5 hgrow6 (fun j hj => (hown5.lt j hj).1))) | (refine step_app (by rfl) (.tmp 62) (.tmp 64) 22 (by rfl) (w.heap.size + 1) 36 ri (.agg #[.int .i64 0, .int .i64 0, .int .i64 0, .int .i64 0, .int .i64 0]) 5 40 Try.underlying22 Hi.out Hz0.out Hz1.out Hz2.out (by rfl) (by decide) _ 0 [] (by rfl) hown5 _ 1 1 (rateC r) (by rfl) (by rfl) hC5 (rate_one r) (by decide) (by decide) (by have := hk5.lt; simp; omega) ?_; intro v6 w6 hown6 hgrow6; have hk6 : BxR w r w6 := (by first | exact BxR.grown (BxR.alloc hk5 _) hgrow6 (fun j hj => (hown5.lt j hj).1) | exact BxR.grown hk5 hgrow6 (fun j hj => (hown5.lt j hj).1))) | (refine step_none (by rfl) (.tmp 65) (.tmp 68) 22 (by rfl) (w.heap.size + 1) 36 ri 5 Try.underlying22 Hi.out _ (0 + 1) ([] ++ rateC r) (by rfl) hown6 (by rfl) ?_; intro v7 w7 hown7 hgrow7; have hk7 : BxR w r w7 := BxR.grown hk6 hgrow7 (fun j hj => (hown6.lt j hj).1)) | fail)
      all_goals
        go_wp2_with fail
        go_meet
        exact ⟨RAt.own hown7 (by simp [ratesC]) rfl, hk7⟩
    | some ad =>
      by_cases ck : k = cap
      · obtain rfl := ck
        have TK : Hid ((ratesC (l.take k)).length = k * 5) := by show _ = _; rw [ratesC_len, List.length_take]; have := KL.out; omega
        have FL := Lib.hid (rates_flat HC.out)
        have DK : Hid ((ratesC (l.drop k)).length = 0 * 5) := by show _ = _; rw [ratesC_len, List.length_drop]; have := HCAP.out; omega
        have NT : Hid (∀ W : World, Below w.heap.size w W → ∀ j u, (ratesC (l.take k))[j]? = some u → W.cell? (ad.add j) = some u) := fun W hb j u hu => rates_take FL.out hb hu
        have ND : Hid (∀ W : World, Below w.heap.size w W → ∀ j u, (ratesC (l.drop k))[j]? = some u → W.cell? (ad.add j) = some u) := fun W hb j u hu => by
          have hz : l.drop k = [] := List.drop_eq_nil_of_le (by have := HCAP.out; omega)
          rw [hz] at hu
          simp [ratesC] at hu
        go_region_held3 (fun w' => w.heap.size < w'.heap.size ∧ w'.cell? ⟨w.heap.size, 0, none⟩ = some (.int .i64 r.f) ∧ w'.cell? ⟨w.heap.size, 1, none⟩ = some (.int .i64 r.t) ∧ w'.cell? ⟨w.heap.size, 2, none⟩ = some (.int .i64 r.n) ∧ w'.cell? ⟨w.heap.size, 3, none⟩ = some (.int .i64 r.d) ∧ w'.cell? ⟨w.heap.size, 4, none⟩ = some (.int .i64 r.s))
          (first | exact bx_all B | exact bx_all (BxR.drew B) | exact bx_all (BxR.alloc B _) | exact bx_all (BxR.alloc (BxR.alloc B _) _) | exact bx_all (BxR.alloc (BxR.drew B) _) | exact bx_all (BxR.alloc (BxR.alloc (BxR.drew B) _) _) | exact bx_all (by assumption) | exact bx_all (BxR.alloc (by assumption) _))
          (first | (refine step_app (by rfl) (.tmp 58) (.tmp 61) 22 (by rfl) (w.heap.size + 1) 36 ri (.agg #[.int .i64 0, .int .i64 0, .int .i64 0, .int .i64 0, .int .i64 0]) 5 40 Try.underlying22 Hi.out Hz0.out Hz1.out Hz2.out (by rfl) (by decide) _ 0 [] (by rfl) (own_empty w1 36 (w.heap.size + 1) w1.heap.size rfl B.lt).drew ad k _ (ratesC (l.take k)) (by rfl) TK.out (fun j u hu => NT.out _ (by first | exact (BxR.alloc B _).below.drew | exact (BxR.alloc (BxR.alloc B _) _).below.drew) j u hu) (ratesC_one _) (by have := KL.out; have := L99.out; unfold maxLen; omega) (by have := KL.out; have := L99.out; omega) (by have := B.lt; simp; omega) ?_; intro v5 w5 hown5 hgrow5; have hk5 : BxR w r w5 := (by first | exact BxR.grown (BxR.drew (BxR.alloc B _)) hgrow5 (by intro j hj; simp [Value.ownBlock] at hj; have := B.lt; omega) | exact BxR.grown (BxR.drew (BxR.alloc (BxR.alloc B _) _)) hgrow5 (by intro j hj; simp [Value.ownBlock] at hj; have := B.lt; omega))) | (refine step_app (by rfl) (.tmp 58) (.tmp 61) 22 (by rfl) (w.heap.size + 1) 36 ri (.agg #[.int .i64 0, .int .i64 0, .int .i64 0, .int .i64 0, .int .i64 0]) 5 40 Try.underlying22 Hi.out Hz0.out Hz1.out Hz2.out (by rfl) (by decide) _ 0 [] (by rfl) (World.ownsRow.drew ((own_empty w1 36 (w.heap.size + 1) w1.heap.size rfl B.lt).alloc _)) ad k _ (ratesC (l.take k)) (by rfl) TK.out (fun j u hu => NT.out _ (by first | exact (BxR.alloc B _).below.drew | exact (BxR.alloc (BxR.alloc B _) _).below.drew) j u hu) (ratesC_one _) (by have := KL.out; have := L99.out; unfold maxLen; omega) (by have := KL.out; have := L99.out; omega) (by have := B.lt; simp; omega) ?_; intro v5 w5 hown5 hgrow5; have hC5 : ∀ j u, (rateC r)[j]? = some u → w5.cell? ((⟨w1.heap.size + 1, 0, none⟩ : Addr).add j) = some u := (fun j u hu => (hgrow5.cell_far ((⟨w1.heap.size + 1, 0, none⟩ : Addr).add j) (by rw [lessBlk]; simp; try omega) (by rw [lessBlk]; simp [Value.ownBlock])).trans (rate_new _ r _ _ (by simp) j u hu)); have hk5 : BxR w r w5 := (by first | exact BxR.grown (BxR.drew (BxR.alloc B _)) hgrow5 (by intro j hj; simp [Value.ownBlock] at hj; have := B.lt; omega) | exact BxR.grown (BxR.drew (BxR.alloc (BxR.alloc B _) _)) hgrow5 (by intro j hj; simp [Value.ownBlock] at hj; have := B.lt; omega))) | (refine step_app (by rfl) (.tmp 58) (.tmp 61) 22 (by rfl) (w.heap.size + 1) 36 ri (.agg #[.int .i64 0, .int .i64 0, .int .i64 0, .int .i64 0, .int .i64 0]) 5 40 Try.underlying22 Hi.out Hz0.out Hz1.out Hz2.out (by rfl) (by decide) _ 0 [] (by rfl) (own_empty (w1.alloc _) 36 (w.heap.size + 1) (w1.heap.size + 1) (by simp) (by have := B.lt; omega)).drew ad k _ (ratesC (l.take k)) (by rfl) TK.out (fun j u hu => NT.out _ (by first | exact (BxR.alloc B _).below.drew | exact (BxR.alloc (BxR.alloc B _) _).below.drew) j u hu) (ratesC_one _) (by have := KL.out; have := L99.out; unfold maxLen; omega) (by have := KL.out; have := L99.out; omega) (by have := B.lt; simp; omega) ?_; intro v5 w5 hown5 hgrow5; have hC5 : ∀ j u, (rateC r)[j]? = some u → w5.cell? ((⟨w1.heap.size, 0, none⟩ : Addr).add j) = some u := (fun j u hu => (hgrow5.cell_far ((⟨w1.heap.size, 0, none⟩ : Addr).add j) (by rw [lessBlk]; simp; try omega) (by rw [lessBlk]; simp [Value.ownBlock])).trans (((Below.new (w := w1.alloc _) _).cell (p := _) (by rw [lessBlk]; simp)).trans (rate_new _ r _ _ rfl j u hu))); have hk5 : BxR w r w5 := (by first | exact BxR.grown (BxR.drew (BxR.alloc B _)) hgrow5 (by intro j hj; simp [Value.ownBlock] at hj; have := B.lt; omega) | exact BxR.grown (BxR.drew (BxR.alloc (BxR.alloc B _) _)) hgrow5 (by intro j hj; simp [Value.ownBlock] at hj; have := B.lt; omega))) | (refine step_app (by rfl) (.tmp 62) (.tmp 64) 22 (by rfl) (w.heap.size + 1) 36 ri (.agg #[.int .i64 0, .int .i64 0, .int .i64 0, .int .i64 0, .int .i64 0]) 5 40 Try.underlying22 Hi.out Hz0.out Hz1.out Hz2.out (by rfl) (by decide) _ (0 + k) ([] ++ ratesC (l.take k)) (by rfl) (hown5.alloc _) ⟨w5.heap.size, 0, none⟩ 1 1 (rateC r) (by rfl) (by rfl) (rate_new _ r _ _ rfl) (rate_one r) (by have := KL.out; have := L99.out; unfold maxLen; omega) (by have := KL.out; have := L99.out; omega) (by have := hk5.lt; simp; omega) ?_; intro v6 w6 hown6 hgrow6; have hk6 : BxR w r w6 := (by first | exact BxR.grown (BxR.alloc hk5 _) hgrow6 (fun j hj => (hown5.lt j hj).1) | exact BxR.grown hk5 hgrow6 (fun j hj => (hown5.lt j hj).1))) | (refine step_app (by rfl) (.tmp 62) (.tmp 64) 22 (by rfl) (w.heap.size + 1) 36 ri (.agg #[.int .i64 0, .int .i64 0, .int .i64 0, .int .i64 0, .int .i64 0]) 5 40 Try.underlying22 Hi.out Hz0.out Hz1.out Hz2.out (by rfl) (by decide) _ (0 + k) ([] ++ ratesC (l.take k)) (by rfl) hown5 _ 1 1 (rateC r) (by rfl) (by rfl) hC5 (rate_one r) (by have := KL.out; have := L99.out; unfold maxLen; omega) (by have := KL.out; have := L99.out; omega) (by have := hk5.lt; simp; omega) ?_; intro v6 w6 hown6 hgrow6; have hk6 : BxR w r w6 := (by first | exact BxR.grown (BxR.alloc hk5 _) hgrow6 (fun j hj => (hown5.lt j hj).1) | exact BxR.grown hk5 hgrow6 (fun j hj => (hown5.lt j hj).1))) | (refine step_app (by rfl) (.tmp 65) (.tmp 68) 22 (by rfl) (w.heap.size + 1) 36 ri (.agg #[.int .i64 0, .int .i64 0, .int .i64 0, .int .i64 0, .int .i64 0]) 5 40 Try.underlying22 Hi.out Hz0.out Hz1.out Hz2.out (by rfl) (by decide) _ (0 + k + 1) ([] ++ ratesC (l.take k) ++ rateC r) (by rfl) hown6 ad 0 _ (ratesC (l.drop k)) (by rfl) DK.out (fun j u hu => ND.out _ hk6.below j u hu) (ratesC_one _) (by have := KL.out; have := L99.out; unfold maxLen; omega) (by have := KL.out; have := L99.out; omega) hk6.lt ?_; intro v7 w7 hown7 hgrow7; have hk7 : BxR w r w7 := BxR.grown hk6 hgrow7 (fun j hj => (hown6.lt j hj).1)) | fail)
        all_goals
          go_wp2_with fail
          go_meet
          exact ⟨RAt.own hown7 (rates_more l r k) (by rw [List.length_append, List.length_cons, List.length_take, List.length_drop]; have := KL.out; omega), hk7⟩
      · have ck2 : ¬ cap = k := fun h => ck h.symm
        have TK : Hid ((ratesC (l.take k)).length = k * 5) := by show _ = _; rw [ratesC_len, List.length_take]; have := KL.out; omega
        have FL := Lib.hid (rates_flat HC.out)
        have DK : Hid ((ratesC (l.drop k)).length = (l.length - k) * 5) := by show _ = _; rw [ratesC_len, List.length_drop]
        have NT : Hid (∀ W : World, Below w.heap.size w W → ∀ j u, (ratesC (l.take k))[j]? = some u → W.cell? (ad.add j) = some u) := fun W hb j u hu => rates_take FL.out hb hu
        have ND : Hid (∀ W : World, Below w.heap.size w W → ∀ j u, (ratesC (l.drop k))[j]? = some u → W.cell? ((ad.add (k * 5)).add j) = some u) := fun W hb j u hu => rates_drop FL.out hb (by have := KL.out; omega) hu
        go_region_held3 (fun w' => w.heap.size < w'.heap.size ∧ w'.cell? ⟨w.heap.size, 0, none⟩ = some (.int .i64 r.f) ∧ w'.cell? ⟨w.heap.size, 1, none⟩ = some (.int .i64 r.t) ∧ w'.cell? ⟨w.heap.size, 2, none⟩ = some (.int .i64 r.n) ∧ w'.cell? ⟨w.heap.size, 3, none⟩ = some (.int .i64 r.d) ∧ w'.cell? ⟨w.heap.size, 4, none⟩ = some (.int .i64 r.s))
          (first | exact bx_all B | exact bx_all (BxR.drew B) | exact bx_all (BxR.alloc B _) | exact bx_all (BxR.alloc (BxR.alloc B _) _) | exact bx_all (BxR.alloc (BxR.drew B) _) | exact bx_all (BxR.alloc (BxR.alloc (BxR.drew B) _) _) | exact bx_all (by assumption) | exact bx_all (BxR.alloc (by assumption) _))
          (first | (refine step_app (by rfl) (.tmp 58) (.tmp 61) 22 (by rfl) (w.heap.size + 1) 36 ri (.agg #[.int .i64 0, .int .i64 0, .int .i64 0, .int .i64 0, .int .i64 0]) 5 40 Try.underlying22 Hi.out Hz0.out Hz1.out Hz2.out (by rfl) (by decide) _ 0 [] (by rfl) (own_empty w1 36 (w.heap.size + 1) w1.heap.size rfl B.lt).drew ad k _ (ratesC (l.take k)) (by rfl) TK.out (fun j u hu => NT.out _ (by first | exact (BxR.alloc B _).below.drew | exact (BxR.alloc (BxR.alloc B _) _).below.drew) j u hu) (ratesC_one _) (by have := KL.out; have := L99.out; unfold maxLen; omega) (by have := KL.out; have := L99.out; omega) (by have := B.lt; simp; omega) ?_; intro v5 w5 hown5 hgrow5; have hk5 : BxR w r w5 := (by first | exact BxR.grown (BxR.drew (BxR.alloc B _)) hgrow5 (by intro j hj; simp [Value.ownBlock] at hj; have := B.lt; omega) | exact BxR.grown (BxR.drew (BxR.alloc (BxR.alloc B _) _)) hgrow5 (by intro j hj; simp [Value.ownBlock] at hj; have := B.lt; omega))) | (refine step_app (by rfl) (.tmp 58) (.tmp 61) 22 (by rfl) (w.heap.size + 1) 36 ri (.agg #[.int .i64 0, .int .i64 0, .int .i64 0, .int .i64 0, .int .i64 0]) 5 40 Try.underlying22 Hi.out Hz0.out Hz1.out Hz2.out (by rfl) (by decide) _ 0 [] (by rfl) (World.ownsRow.drew ((own_empty w1 36 (w.heap.size + 1) w1.heap.size rfl B.lt).alloc _)) ad k _ (ratesC (l.take k)) (by rfl) TK.out (fun j u hu => NT.out _ (by first | exact (BxR.alloc B _).below.drew | exact (BxR.alloc (BxR.alloc B _) _).below.drew) j u hu) (ratesC_one _) (by have := KL.out; have := L99.out; unfold maxLen; omega) (by have := KL.out; have := L99.out; omega) (by have := B.lt; simp; omega) ?_; intro v5 w5 hown5 hgrow5; have hC5 : ∀ j u, (rateC r)[j]? = some u → w5.cell? ((⟨w1.heap.size + 1, 0, none⟩ : Addr).add j) = some u := (fun j u hu => (hgrow5.cell_far ((⟨w1.heap.size + 1, 0, none⟩ : Addr).add j) (by rw [lessBlk]; simp; try omega) (by rw [lessBlk]; simp [Value.ownBlock])).trans (rate_new _ r _ _ (by simp) j u hu)); have hk5 : BxR w r w5 := (by first | exact BxR.grown (BxR.drew (BxR.alloc B _)) hgrow5 (by intro j hj; simp [Value.ownBlock] at hj; have := B.lt; omega) | exact BxR.grown (BxR.drew (BxR.alloc (BxR.alloc B _) _)) hgrow5 (by intro j hj; simp [Value.ownBlock] at hj; have := B.lt; omega))) | (refine step_app (by rfl) (.tmp 58) (.tmp 61) 22 (by rfl) (w.heap.size + 1) 36 ri (.agg #[.int .i64 0, .int .i64 0, .int .i64 0, .int .i64 0, .int .i64 0]) 5 40 Try.underlying22 Hi.out Hz0.out Hz1.out Hz2.out (by rfl) (by decide) _ 0 [] (by rfl) (own_empty (w1.alloc _) 36 (w.heap.size + 1) (w1.heap.size + 1) (by simp) (by have := B.lt; omega)).drew ad k _ (ratesC (l.take k)) (by rfl) TK.out (fun j u hu => NT.out _ (by first | exact (BxR.alloc B _).below.drew | exact (BxR.alloc (BxR.alloc B _) _).below.drew) j u hu) (ratesC_one _) (by have := KL.out; have := L99.out; unfold maxLen; omega) (by have := KL.out; have := L99.out; omega) (by have := B.lt; simp; omega) ?_; intro v5 w5 hown5 hgrow5; have hC5 : ∀ j u, (rateC r)[j]? = some u → w5.cell? ((⟨w1.heap.size, 0, none⟩ : Addr).add j) = some u := (fun j u hu => (hgrow5.cell_far ((⟨w1.heap.size, 0, none⟩ : Addr).add j) (by rw [lessBlk]; simp; try omega) (by rw [lessBlk]; simp [Value.ownBlock])).trans (((Below.new (w := w1.alloc _) _).cell (p := _) (by rw [lessBlk]; simp)).trans (rate_new _ r _ _ rfl j u hu))); have hk5 : BxR w r w5 := (by first | exact BxR.grown (BxR.drew (BxR.alloc B _)) hgrow5 (by intro j hj; simp [Value.ownBlock] at hj; have := B.lt; omega) | exact BxR.grown (BxR.drew (BxR.alloc (BxR.alloc B _) _)) hgrow5 (by intro j hj; simp [Value.ownBlock] at hj; have := B.lt; omega))) | (refine step_app (by rfl) (.tmp 62) (.tmp 64) 22 (by rfl) (w.heap.size + 1) 36 ri (.agg #[.int .i64 0, .int .i64 0, .int .i64 0, .int .i64 0, .int .i64 0]) 5 40 Try.underlying22 Hi.out Hz0.out Hz1.out Hz2.out (by rfl) (by decide) _ (0 + k) ([] ++ ratesC (l.take k)) (by rfl) (hown5.alloc _) ⟨w5.heap.size, 0, none⟩ 1 1 (rateC r) (by rfl) (by rfl) (rate_new _ r _ _ rfl) (rate_one r) (by have := KL.out; have := L99.out; unfold maxLen; omega) (by have := KL.out; have := L99.out; omega) (by have := hk5.lt; simp; omega) ?_; intro v6 w6 hown6 hgrow6; have hk6 : BxR w r w6 := (by first | exact BxR.grown (BxR.alloc hk5 _) hgrow6 (fun j hj => (hown5.lt j hj).1) | exact BxR.grown hk5 hgrow6 (fun j hj => (hown5.lt j hj).1))) | (refine step_app (by rfl) (.tmp 62) (.tmp 64) 22 (by rfl) (w.heap.size + 1) 36 ri (.agg #[.int .i64 0, .int .i64 0, .int .i64 0, .int .i64 0, .int .i64 0]) 5 40 Try.underlying22 Hi.out Hz0.out Hz1.out Hz2.out (by rfl) (by decide) _ (0 + k) ([] ++ ratesC (l.take k)) (by rfl) hown5 _ 1 1 (rateC r) (by rfl) (by rfl) hC5 (rate_one r) (by have := KL.out; have := L99.out; unfold maxLen; omega) (by have := KL.out; have := L99.out; omega) (by have := hk5.lt; simp; omega) ?_; intro v6 w6 hown6 hgrow6; have hk6 : BxR w r w6 := (by first | exact BxR.grown (BxR.alloc hk5 _) hgrow6 (fun j hj => (hown5.lt j hj).1) | exact BxR.grown hk5 hgrow6 (fun j hj => (hown5.lt j hj).1))) | (refine step_app (by rfl) (.tmp 65) (.tmp 68) 22 (by rfl) (w.heap.size + 1) 36 ri (.agg #[.int .i64 0, .int .i64 0, .int .i64 0, .int .i64 0, .int .i64 0]) 5 40 Try.underlying22 Hi.out Hz0.out Hz1.out Hz2.out (by rfl) (by decide) _ (0 + k + 1) ([] ++ ratesC (l.take k) ++ rateC r) (by rfl) hown6 (ad.add (k * 5)) (l.length - k) _ (ratesC (l.drop k)) (by rfl) DK.out (fun j u hu => ND.out _ hk6.below j u hu) (ratesC_one _) (by have := KL.out; have := L99.out; unfold maxLen; omega) (by have := KL.out; have := L99.out; omega) hk6.lt ?_; intro v7 w7 hown7 hgrow7; have hk7 : BxR w r w7 := BxR.grown hk6 hgrow7 (fun j hj => (hown6.lt j hj).1)) | fail)
        all_goals
          go_wp2_with fail
          go_meet
          exact ⟨RAt.own hown7 (rates_more l r k) (by rw [List.length_append, List.length_cons, List.length_take, List.length_drop]; have := KL.out; omega), hk7⟩
  case rest =>
    obtain ⟨V0, B'⟩ := hcut
    clear B z0 z1 z2 z3 z4 z5
    have B := B'
    clear B'
    have V := Lib.hid V0
    clear V0
    have z0 := B.lt
    have z1 := B.c0
    have z2 := B.c1
    have z3 := B.c2
    have z4 := B.c3
    have z5 := B.c4
    have L99 : Hid ((l.length : Int) ≤ 99) := by show _ ≤ _; omega
    have KL := Lib.hid kl
    have OK1 := Lib.hid ok1
    have Hi := Lib.hid hi
    have Hz0 := Lib.hid hz0
    have Hz1 := Lib.hid hz1
    have Hz2 := Lib.hid hz2
    have HCAP := Lib.hid hcap
    have MLEN : Hid ((l.take k ++ r :: l.drop k).length ≤ 1099511627776) := by show _ ≤ _; rw [List.length_append, List.length_cons, List.length_take, List.length_drop]; omega
    have MOK : Hid (∀ q ∈ l.take k ++ r :: l.drop k, okI q) := (fun q hq => (List.mem_append.1 hq).elim (fun h => HOK.out q (List.mem_of_mem_take h)) (fun h => (List.mem_cons.1 h).elim (fun e => by rw [e]; exact HR.out) (fun h => HOK.out q (List.mem_of_mem_drop h))))
    obtain ⟨X, e, hx⟩ : ∃ X e, Mon.conv l s f t on = (X, e) := ⟨_, _, rfl⟩
    obtain ⟨Y, g, hy⟩ : ∃ Y g, Mon.conv (l.take k ++ r :: l.drop k) s f t on = (Y, g) := ⟨_, _, rfl⟩
    have NX := Lib.hid hx
    have NY := Lib.hid hy
    have SAME : Hid (fits f t on r = false → fits t f on r = false → Y = X ∧ g = e) := fun h1 h2 => by
      have h := conv_more (l := l.take k) (m := l.drop k) (s := s) h1 h2 OK1.out (by rw [List.take_append_drop]; have := L99.out; omega)
      rw [List.take_append_drop, NX.out, NY.out] at h
      exact ⟨(Prod.mk.inj h).1, (Prod.mk.inj h).2⟩
    clear hx hy kl ok1 hi hz0 hz1 hz2 hcap i1 i2 g1 g2 g3 g4 g5 tg1 tg2 tg3 tg4 tg5 k0 kc
    go_wp2_with fail
    refine (hM.conv _ l s f t on _ (HAT.out.below B.below (Nat.le_refl _)) (by have := L99.out; omega) HOK.out HS.out HF.out HT.out HON.out).mono ?_
    rintro e' w1 ⟨rfl, b1⟩
    rw [NX.out]
    simp only [pv]
    have V' := Lib.hid (V.out.below b1 (Nat.le_refl _))
    clear V
    have V := V'
    clear V'
    have B' := B.next b1
    clear B b1 z0 z1 z2 z3 z4 z5
    have B := B'
    clear B'
    have z0 := B.lt
    have z1 := B.c0
    have z2 := B.c1
    have z3 := B.c2
    have z4 := B.c3
    have z5 := B.c4
    go_wp2_with fail
    refine (hM.conv _ _ s f t on _ V.out MLEN.out MOK.out HS.out HF.out HT.out HON.out).mono ?_
    rintro e' w1 ⟨rfl, b1⟩
    rw [NY.out]
    simp only [pv]
    clear V
    have B' := B.next b1
    clear B b1 z0 z1 z2 z3 z4 z5
    have B := B'
    clear B'
    have z0 := B.lt
    have z1 := B.c0
    have z2 := B.c1
    have z3 := B.c2
    have z4 := B.c3
    have z5 := B.c4
    go_upto_region 8 with fail
    go_cut [22] (fun c wx => c = .bool (pairB r f t) ∧ BxR w r wx)
    case first =>
      by_cases e1 : r.f = f
      · have f1 : (r.f == f) = true := by simp [e1]
        by_cases e2 : r.t = t
        · have f2 : (r.t == t) = true := by simp [e2]
          have PV : Hid (pairB r f t = true) := decide_eq_true (.inl ⟨e1, e2⟩)
          clear e1 e2
          go_wp2_with fail
          go_meet
          exact ⟨by first | rfl | rw [PV.out], B⟩
        · have f2 : (r.t == t) = false := by simp [e2]
          by_cases e3 : r.f = t
          · have f3 : (r.f == t) = true := by simp [e3]
            by_cases e4 : r.t = f
            · have f4 : (r.t == f) = true := by simp [e4]
              have PV : Hid (pairB r f t = true) := decide_eq_true (.inr ⟨e3, e4⟩)
              clear e1 e2 e3 e4
              go_wp2_with fail
              go_meet
              exact ⟨by first | rfl | rw [PV.out], B⟩
            · have f4 : (r.t == f) = false := by simp [e4]
              have PV : Hid (pairB r f t = false) := decide_eq_false (by omega)
              clear e1 e2 e3 e4
              go_wp2_with fail
              go_meet
              exact ⟨by first | rfl | rw [PV.out], B⟩
          · have f3 : (r.f == t) = false := by simp [e3]
            have PV : Hid (pairB r f t = false) := decide_eq_false (by omega)
            clear e1 e2 e3
            go_wp2_with fail
            go_meet
            exact ⟨by first | rfl | rw [PV.out], B⟩
      · have f1 : (r.f == f) = false := by simp [e1]
        by_cases e3 : r.f = t
        · have f3 : (r.f == t) = true := by simp [e3]
          by_cases e4 : r.t = f
          · have f4 : (r.t == f) = true := by simp [e4]
            have PV : Hid (pairB r f t = true) := decide_eq_true (.inr ⟨e3, e4⟩)
            clear e1 e3 e4
            go_wp2_with fail
            go_meet
            exact ⟨by first | rfl | rw [PV.out], B⟩
          · have f4 : (r.t == f) = false := by simp [e4]
            have PV : Hid (pairB r f t = false) := decide_eq_false (by omega)
            clear e1 e3 e4
            go_wp2_with fail
            go_meet
            exact ⟨by first | rfl | rw [PV.out], B⟩
        · have f3 : (r.f == t) = false := by simp [e3]
          have PV : Hid (pairB r f t = false) := decide_eq_false (by omega)
          clear e1 e3
          go_wp2_with fail
          go_meet
          exact ⟨by first | rfl | rw [PV.out], B⟩
    case rest =>
      obtain ⟨rfl, B'⟩ := hcut
      clear B z0 z1 z2 z3 z4 z5
      have B := B'
      clear B'
      have z0 := B.lt
      have z1 := B.c0
      have z2 := B.c1
      have z3 := B.c2
      have z4 := B.c3
      have z5 := B.c4
      obtain ⟨pb, hp⟩ : ∃ pb, pairB r f t = pb := ⟨_, rfl⟩
      rw [hp]
      have HP := Lib.hid hp
      clear hp
      go_upto_region 9 with fail
      go_cut [127] (fun c wx => c = .bool false ∧ BxR w r wx)
      case first =>
        cases pb with
        | false =>
          have hno : ¬ (r.f = f ∧ r.t = t ∨ r.f = t ∧ r.t = f) := of_decide_eq_false HP.out
          obtain ⟨rfl, rfl⟩ := SAME.out (decide_eq_false (by omega)) (decide_eq_false (by omega))
          clear hno
          go_wp2_with fail
          go_meet
          exact ⟨by try rfl, B⟩
        | true =>
          by_cases e3 : on < r.s
          · have e4 : decide (on < r.s) = true := decide_eq_true e3
            obtain ⟨rfl, rfl⟩ := SAME.out (decide_eq_false (by omega)) (decide_eq_false (by omega))
            go_wp2_with fail
            go_meet
            exact ⟨by try rfl, B⟩
          · have e4 : decide (on < r.s) = false := decide_eq_false e3
            go_wp2_with fail
            go_meet
            exact ⟨by try rfl, B⟩
      case rest =>
        obtain ⟨rfl, B'⟩ := hcut
        clear B z0 z1 z2 z3 z4 z5
        have B := B'
        clear B'
        have z0 := B.lt
        have z1 := B.c0
        have z2 := B.c1
        have z3 := B.c2
        have z4 := B.c3
        have z5 := B.c4
        have OWN : Hid (okI ⟨f, t, r.n, r.d, on⟩) := show okI _ from ⟨HF.out, HT.out, HR.out.2.2.1, HR.out.2.2.2.1, HON.out⟩
        have OWK : Hid (okR ⟨f, t, r.n, r.d, on⟩ = true) := decide_eq_true part1.out
        obtain ⟨Z, h, hzv⟩ : ∃ Z h, Mon.conv (⟨f, t, r.n, r.d, on⟩ :: l) s f t on = (Z, h) := ⟨_, _, rfl⟩
        obtain ⟨U, j, hu⟩ : ∃ U j, Mon.conv [⟨f, t, r.n, r.d, on⟩] s f t on = (U, j) := ⟨_, _, rfl⟩
        have NZ := Lib.hid hzv
        have NU := Lib.hid hu
        obtain ⟨c1, c2⟩ := conv_own (own := ⟨f, t, r.n, r.d, on⟩) rfl rfl rfl OWK.out (by have := L99.out; omega) NX.out
        rw [NZ.out] at c1 c2
        rw [NU.out] at c2
        have C1 := Lib.hid c1
        have C2 := Lib.hid c2
        clear c1 c2 hzv hu HP SAME NY MLEN MOK
        obtain ⟨LL, hLL⟩ : ∃ LL, wc.alloc (.cells #[.int .i64 f, .int .i64 t, .int .i64 r.n, .int .i64 r.d, .int .i64 on] 36) = LL := ⟨_, rfl⟩
        have HLL := Lib.hid hLL
        have sLL : Hid (LL.heap.size = wc.heap.size + 1) := by show _ = _; rw [← hLL]; simp
        have own1 : Hid ((LL.alloc (.cells #[.int .i64 f, .int .i64 t, .int .i64 r.n, .int .i64 r.d, .int .i64 on] 36)).ownsRow (w.heap.size + 1) 36 5 (.slice (some ⟨wc.heap.size + 1, 0, none⟩) 1 1) 1 (rateC ⟨f, t, r.n, r.d, on⟩)) := own_one LL ⟨f, t, r.n, r.d, on⟩ _ _ _ sLL.out.symm (by have := B.lt; omega)
        have B1 : Hid (BxR wc ⟨f, t, r.n, r.d, on⟩ LL) := by rw [← hLL]; exact BxR.start wc ⟨f, t, r.n, r.d, on⟩ _
        have B2 : Hid (BxR wc ⟨f, t, r.n, r.d, on⟩ (LL.alloc (.cells #[.int .i64 f, .int .i64 t, .int .i64 r.n, .int .i64 r.d, .int .i64 on] 36))) := B1.out.alloc _
        have W2 : Hid (Below w.heap.size w (LL.alloc (.cells #[.int .i64 f, .int .i64 t, .int .i64 r.n, .int .i64 r.d, .int .i64 on] 36))) := chain B.below B2.out.below
        have OML : Hid (∀ q ∈ (⟨f, t, r.n, r.d, on⟩ : R) :: l, okI q) := fun q hq => (List.mem_cons.1 hq).elim (fun e => by rw [e]; exact OWN.out) (fun h => HOK.out q h)
        clear hLL
        cases ad with
        | none =>
          obtain rfl : cap = 0 := HZ.out _ _ rfl
          obtain rfl : l = [] := List.eq_nil_of_length_eq_zero (by have := HCAP.out; omega)
          have V2 : Hid (RAt (LL.alloc (.cells #[.int .i64 f, .int .i64 t, .int .i64 r.n, .int .i64 r.d, .int .i64 on] 36)) (.slice (some ⟨wc.heap.size + 1, 0, none⟩) 1 1) [⟨f, t, r.n, r.d, on⟩]) := by have h := RAt.one LL ⟨f, t, r.n, r.d, on⟩ 36; rw [sLL.out] at h; exact h
          have B4 := B2.out
          have W4 := W2
          clear z0 z1 z2 z3 z4 z5
          have z3 := B.c2
          have z4 := B.c3
          have z0 := B.lt
          go_wp2_with (at_builtin; refine wpList_append_own_none rfl (.tmp 138) (.tmp 139) 22 rfl (w.heap.size + 1) 36 ri 5 Try.underlying22 Hi.out _ _ _ rfl (by rw [HLL.out]; exact own1.out) rfl ?_)
          rw [HLL.out]
          have y0 := B4.lt
          have y1 := B4.c0
          have y2 := B4.c1
          have y3 := B4.c2
          have y4 := B4.c3
          have y5 := B4.c4
          go_wp2_with fail
          refine (hM.conv _ (⟨f, t, r.n, r.d, on⟩ :: []) s f t on _ V2.out (by rw [List.length_cons]; have := L99.out; omega) OML.out HS.out HF.out HT.out HON.out).mono ?_
          rintro e' w5 ⟨rfl, b5⟩
          rw [NZ.out]
          simp only [pv]
          have B5 := B4.next b5
          have W5 := chain W4.out b5
          clear b5 B4 W4 V2 y0 y1 y2 y3 y4 y5
          have B4 := B5
          clear B5
          have y0 := B4.lt
          have y1 := B4.c0
          have y2 := B4.c1
          have y3 := B4.c2
          have y4 := B4.c3
          have y5 := B4.c4
          have V5 := RAt.one w5 ⟨f, t, r.n, r.d, on⟩ 36
          have c5 : Below w.heap.size w (w5.alloc (.cells #[.int .i64 f, .int .i64 t, .int .i64 r.n, .int .i64 r.d, .int .i64 on] 36)) := chain W5 (Below.new _)
          have V6 := Lib.hid V5
          have W6 := Lib.hid c5
          clear V5 c5 W5
          go_wp2_with fail
          refine (hM.conv _ [⟨f, t, r.n, r.d, on⟩] s f t on _ V6.out (by simp) (fun q hq => by rw [List.mem_singleton.1 hq]; exact OWN.out) HS.out HF.out HT.out HON.out).mono ?_
          rintro e' w6 ⟨rfl, b6⟩
          rw [NU.out]
          simp only [pv]
          have hbl := chain W6.out b6
          clear b6 B4 W6 V6 y0 y1 y2 y3 y4 y5
          by_cases e1 : e = 1
          · obtain rfl := e1
            obtain ⟨rfl, rfl⟩ := Prod.mk.inj (C1.out rfl)
            go_wp2_with fail
            go_ret
            exact ⟨by try rfl, hbl⟩
          · have e2 : (e == 1) = false := by simp [e1]
            obtain ⟨rfl, rfl⟩ := Prod.mk.inj (C2.out e1)
            clear e1
            go_wp2_with fail
            go_ret
            exact ⟨by try rfl, hbl⟩
        | some ad =>
          have FL := Lib.hid (rates_flat HC.out)
          have RL : Hid ((ratesC l).length = l.length * 5) := ratesC_len l
          clear z1 z2 z5
          go_wp2_with (at_builtin; refine wpList_append_own _ rfl (.tmp 138) (.tmp 139) 22 rfl (w.heap.size + 1) 36 ri (.agg #[.int .i64 0, .int .i64 0, .int .i64 0, .int .i64 0, .int .i64 0]) 5 40 Try.underlying22 Hi.out Hz0.out Hz1.out Hz2.out rfl (by decide) _ 1 (rateC ⟨f, t, r.n, r.d, on⟩) rfl (by rw [HLL.out]; exact own1.out) ad l.length cap (ratesC l) rfl ?f1 ?f2 ?f3 ?f4 ?f5 ?f6 ?_)
          case f1 => exact RL.out
          case f2 => rw [HLL.out]; exact fun j u hu => rates_whole FL.out W2.out hu
          case f3 => exact ratesC_one _
          case f4 => have := L99.out; unfold maxLen; omega
          case f5 => have := L99.out; omega
          case f6 => rw [HLL.out]; have := B.lt; have := sLL.out; simp; omega
          intro v4 w4 hown4 hgrow4 _
          rw [HLL.out] at hgrow4
          have V2 : Hid (RAt w4 v4 (⟨f, t, r.n, r.d, on⟩ :: l)) := RAt.own hown4 (rates_cons l ⟨f, t, r.n, r.d, on⟩) (by rw [List.length_cons]; omega)
          have B4 : BxR wc ⟨f, t, r.n, r.d, on⟩ w4 := B2.out.grown hgrow4 (fun j hj => by simp [Value.ownBlock] at hj; omega)
          have W4 : Hid (Below w.heap.size w w4) := chain B.below B4.below
          clear hown4 hgrow4 FL RL own1 W2 B1 B2 z0 z3 z4
          have y0 := B4.lt
          have y1 := B4.c0
          have y2 := B4.c1
          have y3 := B4.c2
          have y4 := B4.c3
          have y5 := B4.c4
          go_wp2_with fail
          refine (hM.conv _ (⟨f, t, r.n, r.d, on⟩ :: l) s f t on _ V2.out (by rw [List.length_cons]; have := L99.out; omega) OML.out HS.out HF.out HT.out HON.out).mono ?_
          rintro e' w5 ⟨rfl, b5⟩
          rw [NZ.out]
          simp only [pv]
          have B5 := B4.next b5
          have W5 := chain W4.out b5
          clear b5 B4 W4 V2 y0 y1 y2 y3 y4 y5
          have B4 := B5
          clear B5
          have y0 := B4.lt
          have y1 := B4.c0
          have y2 := B4.c1
          have y3 := B4.c2
          have y4 := B4.c3
          have y5 := B4.c4
          have V5 := RAt.one w5 ⟨f, t, r.n, r.d, on⟩ 36
          have c5 : Below w.heap.size w (w5.alloc (.cells #[.int .i64 f, .int .i64 t, .int .i64 r.n, .int .i64 r.d, .int .i64 on] 36)) := chain W5 (Below.new _)
          have V6 := Lib.hid V5
          have W6 := Lib.hid c5
          clear V5 c5 W5
          go_wp2_with fail
          refine (hM.conv _ [⟨f, t, r.n, r.d, on⟩] s f t on _ V6.out (by simp) (fun q hq => by rw [List.mem_singleton.1 hq]; exact OWN.out) HS.out HF.out HT.out HON.out).mono ?_
          rintro e' w6 ⟨rfl, b6⟩
          rw [NU.out]
          simp only [pv]
          have hbl := chain W6.out b6
          clear b6 B4 W6 V6 y0 y1 y2 y3 y4 y5
          by_cases e1 : e = 1
          · obtain rfl := e1
            obtain ⟨rfl, rfl⟩ := Prod.mk.inj (C1.out rfl)
            go_wp2_with fail
            go_ret
            exact ⟨by try rfl, hbl⟩
          · have e2 : (e == 1) = false := by simp [e1]
            obtain ⟨rfl, rfl⟩ := Prod.mk.inj (C2.out e1)
            clear e1
            go_wp2_with fail
            go_ret
            exact ⟨by try rfl, hbl⟩

end Go.Proofs.Ytdijhpcnlbjdaaa
