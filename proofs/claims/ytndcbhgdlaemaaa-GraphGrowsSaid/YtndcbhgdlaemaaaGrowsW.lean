/-
  The law GraphGrows' walk.
-/
import Derived.Test.YtndcbhgdlaemaaaGrowsL
namespace Go.Proofs.Ytndcbhgdlaemaaa
open Go.RowKit Gr
attribute [local go_sem ↓] Go.wp_at_zero Go.wp_at_succ

set_option maxHeartbeats 12800000 in
set_option maxRecDepth 100000 in
theorem GraphGrows_x (h : GraphOk) (v : Value) (n : Int) (e : E) (a : Int) (m : Int × Int) (w : World) (hat : EAt w v e) (hz : ∀ n c, v = .slice none n c → c = 0) (hlen : e.length * 16 + 4096 ≤ 140737488355328) (hok : okE2 e) (hn : I64 n) (ha : I64 a) (hm : I64 m.1 ∧ I64 m.2) :
    Calls Try.prog 8 #[.int .i64 n, v, .int .i64 a, .agg #[.int .i64 m.1, .int .i64 m.2]] w fun e w' => e = .returned (.bool true) ∧ Below w.heap.size w w' := by
  have HA := Lib.hid hat
  have HZ := Lib.hid hz
  have HLN := Lib.hid hlen
  obtain ⟨ad, cap, rfl, hcap, -⟩ := hat
  have HCAP := Lib.hid hcap
  have OK := Lib.hid hok
  have HN := Lib.hid hn
  have HF := Lib.hid ha
  have OKN : Hid (okE2 (e ++ [m])) := fun p hp => (List.mem_append.1 hp).elim (fun h => OK.out p h) (fun h => by rw [List.mem_singleton.1 h]; exact hm)
  obtain ⟨ri, hi, hz0, hz1, hz2⟩ := info_parts infoE
  have Hi := Lib.hid hi
  have Hz0 := Lib.hid hz0
  have Hz1 := Lib.hid hz1
  have Hz2 := Lib.hid hz2
  clear hz hcap hok hn ha hm hi hz0 hz1 hz2 hlen
  go_enter Try.func8, Try.ntmps8
  have B := BxE.start w m 40
  have z0 := B.lt
  have z1 := B.c0
  have z2 := B.c1
  go_wp2_with fail
  refine (sane_x h _).mono ?_
  rintro r w1 ⟨rfl, b1⟩
  have B' := B.next b1
  clear B b1 z0 z1 z2
  have B := B'
  clear B'
  have z0 := B.lt
  have z1 := B.c0
  have z2 := B.c1
  go_upto_region 2 with fail
  go_cut [10] (fun v' wx => EAt wx v' (e ++ [m]) ∧ BxE w m wx)
  case first =>
    cases ad with
    | none =>
      obtain rfl : cap = 0 := HZ.out _ _ rfl
      obtain rfl : e = [] := List.eq_nil_of_length_eq_zero (by have := HCAP.out; omega)
      go_region_held3 (fun w' => w.heap.size < w'.heap.size ∧ w'.cell? ⟨w.heap.size, 0, none⟩ = some (.int .i64 m.1) ∧ w'.cell? ⟨w.heap.size, 1, none⟩ = some (.int .i64 m.2))
        (first | exact be_all B | exact be_all (BxE.drew B) | exact be_all (BxE.alloc B _) | exact be_all (BxE.alloc (BxE.alloc B _) _) | exact be_all (BxE.alloc (BxE.drew B) _) | exact be_all (BxE.alloc (BxE.alloc (BxE.drew B) _) _) | exact be_all (by assumption) | exact be_all (BxE.alloc (by assumption) _))
        (first | (refine step_none2 (by rfl) (.tmp 24) (.tmp 25) 22 (by rfl) (w.heap.size + 1) 40 ri 2 Try.underlying22 Hi.out _ 0 [] (by rfl) (own_none2 w1 40 (w.heap.size + 1) w1.heap.size rfl B.lt).drew (by rfl) ?_; intro v5 w5 hown5 hgrow5; have hk5 : BxE w m w5 := (by first | exact BxE.grown (BxE.drew (BxE.alloc B _)) hgrow5 (by intro j hj; simp [Value.ownBlock] at hj; have := B.lt; omega) | exact BxE.grown (BxE.drew (BxE.alloc (BxE.alloc B _) _)) hgrow5 (by intro j hj; simp [Value.ownBlock] at hj; have := B.lt; omega))) | (refine step_none2 (by rfl) (.tmp 24) (.tmp 25) 22 (by rfl) (w.heap.size + 1) 40 ri 2 Try.underlying22 Hi.out _ 0 [] (by rfl) (World.ownsRow.drew ((own_none2 w1 40 (w.heap.size + 1) w1.heap.size rfl B.lt).alloc _)) (by rfl) ?_; intro v5 w5 hown5 hgrow5; have hC5 : ∀ j u, (edgesC [m])[j]? = some u → w5.cell? ((⟨w1.heap.size + 1, 0, none⟩ : Addr).add j) = some u := (fun j u hu => (hgrow5.cell_far ((⟨w1.heap.size + 1, 0, none⟩ : Addr).add j) (by rw [addBlk]; simp; try omega) (by rw [addBlk]; simp [Value.ownBlock])).trans (edge_new _ m _ _ (by simp) j u hu)); have hk5 : BxE w m w5 := (by first | exact BxE.grown (BxE.drew (BxE.alloc B _)) hgrow5 (by intro j hj; simp [Value.ownBlock] at hj; have := B.lt; omega) | exact BxE.grown (BxE.drew (BxE.alloc (BxE.alloc B _) _)) hgrow5 (by intro j hj; simp [Value.ownBlock] at hj; have := B.lt; omega))) | (refine step_none2 (by rfl) (.tmp 24) (.tmp 25) 22 (by rfl) (w.heap.size + 1) 40 ri 2 Try.underlying22 Hi.out _ 0 [] (by rfl) (own_none2 (w1.alloc _) 40 (w.heap.size + 1) (w1.heap.size + 1) (by simp) (by have := B.lt; omega)).drew (by rfl) ?_; intro v5 w5 hown5 hgrow5; have hC5 : ∀ j u, (edgesC [m])[j]? = some u → w5.cell? ((⟨w1.heap.size, 0, none⟩ : Addr).add j) = some u := (fun j u hu => (hgrow5.cell_far ((⟨w1.heap.size, 0, none⟩ : Addr).add j) (by rw [addBlk]; simp; try omega) (by rw [addBlk]; simp [Value.ownBlock])).trans (((Below.new1 (w := w1.alloc _) _).cell (p := _) (by rw [addBlk]; simp)).trans (edge_new _ m _ _ rfl j u hu))); have hk5 : BxE w m w5 := (by first | exact BxE.grown (BxE.drew (BxE.alloc B _)) hgrow5 (by intro j hj; simp [Value.ownBlock] at hj; have := B.lt; omega) | exact BxE.grown (BxE.drew (BxE.alloc (BxE.alloc B _) _)) hgrow5 (by intro j hj; simp [Value.ownBlock] at hj; have := B.lt; omega))) | (refine step_app2 (by rfl) (.tmp 26) (.tmp 28) 22 (by rfl) (w.heap.size + 1) 40 ri (.agg #[.int .i64 0, .int .i64 0]) 2 16 Try.underlying22 Hi.out Hz0.out Hz1.out Hz2.out (by rfl) (by decide) _ 0 [] (by rfl) (hown5.alloc _) ⟨w5.heap.size, 0, none⟩ 1 1 (edgesC [m]) (by rfl) (by rfl) (edge_new _ m _ _ rfl) (edgesC_one _) (by decide) (by decide) (by have := hk5.lt; simp; omega) ?_; intro v6 w6 hown6 hgrow6; have hk6 : BxE w m w6 := (by first | exact BxE.grown (BxE.alloc hk5 _) hgrow6 (fun j hj => (hown5.lt j hj).1) | exact BxE.grown hk5 hgrow6 (fun j hj => (hown5.lt j hj).1))) | (refine step_app2 (by rfl) (.tmp 26) (.tmp 28) 22 (by rfl) (w.heap.size + 1) 40 ri (.agg #[.int .i64 0, .int .i64 0]) 2 16 Try.underlying22 Hi.out Hz0.out Hz1.out Hz2.out (by rfl) (by decide) _ 0 [] (by rfl) hown5 _ 1 1 (edgesC [m]) (by rfl) (by rfl) hC5 (edgesC_one _) (by decide) (by decide) (by have := hk5.lt; simp; omega) ?_; intro v6 w6 hown6 hgrow6; have hk6 : BxE w m w6 := (by first | exact BxE.grown (BxE.alloc hk5 _) hgrow6 (fun j hj => (hown5.lt j hj).1) | exact BxE.grown hk5 hgrow6 (fun j hj => (hown5.lt j hj).1))) | fail)
      all_goals
        go_wp2_with fail
        go_meet
        exact ⟨EAt.own hown6 (by first | rfl | (rw [edgesC_app]; rfl)) (by simp), hk6⟩
    | some ad =>
      go_region_held3 (fun w' => w.heap.size < w'.heap.size ∧ w'.cell? ⟨w.heap.size, 0, none⟩ = some (.int .i64 m.1) ∧ w'.cell? ⟨w.heap.size, 1, none⟩ = some (.int .i64 m.2))
        (first | exact be_all B | exact be_all (BxE.drew B) | exact be_all (BxE.alloc B _) | exact be_all (BxE.alloc (BxE.alloc B _) _) | exact be_all (BxE.alloc (BxE.drew B) _) | exact be_all (BxE.alloc (BxE.alloc (BxE.drew B) _) _) | exact be_all (by assumption) | exact be_all (BxE.alloc (by assumption) _))
        (first | (refine step_app2 (by rfl) (.tmp 24) (.tmp 25) 22 (by rfl) (w.heap.size + 1) 40 ri (.agg #[.int .i64 0, .int .i64 0]) 2 16 Try.underlying22 Hi.out Hz0.out Hz1.out Hz2.out (by rfl) (by decide) _ 0 [] (by rfl) (own_none2 w1 40 (w.heap.size + 1) w1.heap.size rfl B.lt).drew ad e.length cap (edgesC e) (by rfl) (edgesC_len e) (edges_in HA.out (by first | exact (BxE.alloc B _).below.drew | exact (BxE.alloc (BxE.alloc B _) _).below.drew)) (edgesC_one _) (by have := HLN.out; unfold maxLen; omega) (by have := HLN.out; omega) (by have := B.lt; simp; omega) ?_; intro v5 w5 hown5 hgrow5; have hk5 : BxE w m w5 := (by first | exact BxE.grown (BxE.drew (BxE.alloc B _)) hgrow5 (by intro j hj; simp [Value.ownBlock] at hj; have := B.lt; omega) | exact BxE.grown (BxE.drew (BxE.alloc (BxE.alloc B _) _)) hgrow5 (by intro j hj; simp [Value.ownBlock] at hj; have := B.lt; omega))) | (refine step_app2 (by rfl) (.tmp 24) (.tmp 25) 22 (by rfl) (w.heap.size + 1) 40 ri (.agg #[.int .i64 0, .int .i64 0]) 2 16 Try.underlying22 Hi.out Hz0.out Hz1.out Hz2.out (by rfl) (by decide) _ 0 [] (by rfl) (World.ownsRow.drew ((own_none2 w1 40 (w.heap.size + 1) w1.heap.size rfl B.lt).alloc _)) ad e.length cap (edgesC e) (by rfl) (edgesC_len e) (edges_in HA.out (by first | exact (BxE.alloc B _).below.drew | exact (BxE.alloc (BxE.alloc B _) _).below.drew)) (edgesC_one _) (by have := HLN.out; unfold maxLen; omega) (by have := HLN.out; omega) (by have := B.lt; simp; omega) ?_; intro v5 w5 hown5 hgrow5; have hC5 : ∀ j u, (edgesC [m])[j]? = some u → w5.cell? ((⟨w1.heap.size + 1, 0, none⟩ : Addr).add j) = some u := (fun j u hu => (hgrow5.cell_far ((⟨w1.heap.size + 1, 0, none⟩ : Addr).add j) (by rw [addBlk]; simp; try omega) (by rw [addBlk]; simp [Value.ownBlock])).trans (edge_new _ m _ _ (by simp) j u hu)); have hk5 : BxE w m w5 := (by first | exact BxE.grown (BxE.drew (BxE.alloc B _)) hgrow5 (by intro j hj; simp [Value.ownBlock] at hj; have := B.lt; omega) | exact BxE.grown (BxE.drew (BxE.alloc (BxE.alloc B _) _)) hgrow5 (by intro j hj; simp [Value.ownBlock] at hj; have := B.lt; omega))) | (refine step_app2 (by rfl) (.tmp 24) (.tmp 25) 22 (by rfl) (w.heap.size + 1) 40 ri (.agg #[.int .i64 0, .int .i64 0]) 2 16 Try.underlying22 Hi.out Hz0.out Hz1.out Hz2.out (by rfl) (by decide) _ 0 [] (by rfl) (own_none2 (w1.alloc _) 40 (w.heap.size + 1) (w1.heap.size + 1) (by simp) (by have := B.lt; omega)).drew ad e.length cap (edgesC e) (by rfl) (edgesC_len e) (edges_in HA.out (by first | exact (BxE.alloc B _).below.drew | exact (BxE.alloc (BxE.alloc B _) _).below.drew)) (edgesC_one _) (by have := HLN.out; unfold maxLen; omega) (by have := HLN.out; omega) (by have := B.lt; simp; omega) ?_; intro v5 w5 hown5 hgrow5; have hC5 : ∀ j u, (edgesC [m])[j]? = some u → w5.cell? ((⟨w1.heap.size, 0, none⟩ : Addr).add j) = some u := (fun j u hu => (hgrow5.cell_far ((⟨w1.heap.size, 0, none⟩ : Addr).add j) (by rw [addBlk]; simp; try omega) (by rw [addBlk]; simp [Value.ownBlock])).trans (((Below.new1 (w := w1.alloc _) _).cell (p := _) (by rw [addBlk]; simp)).trans (edge_new _ m _ _ rfl j u hu))); have hk5 : BxE w m w5 := (by first | exact BxE.grown (BxE.drew (BxE.alloc B _)) hgrow5 (by intro j hj; simp [Value.ownBlock] at hj; have := B.lt; omega) | exact BxE.grown (BxE.drew (BxE.alloc (BxE.alloc B _) _)) hgrow5 (by intro j hj; simp [Value.ownBlock] at hj; have := B.lt; omega))) | (refine step_app2 (by rfl) (.tmp 26) (.tmp 28) 22 (by rfl) (w.heap.size + 1) 40 ri (.agg #[.int .i64 0, .int .i64 0]) 2 16 Try.underlying22 Hi.out Hz0.out Hz1.out Hz2.out (by rfl) (by decide) _ (0 + e.length) ([] ++ edgesC e) (by rfl) (hown5.alloc _) ⟨w5.heap.size, 0, none⟩ 1 1 (edgesC [m]) (by rfl) (by rfl) (edge_new _ m _ _ rfl) (edgesC_one _) (by have := HLN.out; unfold maxLen; omega) (by have := HLN.out; omega) (by have := hk5.lt; simp; omega) ?_; intro v6 w6 hown6 hgrow6; have hk6 : BxE w m w6 := (by first | exact BxE.grown (BxE.alloc hk5 _) hgrow6 (fun j hj => (hown5.lt j hj).1) | exact BxE.grown hk5 hgrow6 (fun j hj => (hown5.lt j hj).1))) | (refine step_app2 (by rfl) (.tmp 26) (.tmp 28) 22 (by rfl) (w.heap.size + 1) 40 ri (.agg #[.int .i64 0, .int .i64 0]) 2 16 Try.underlying22 Hi.out Hz0.out Hz1.out Hz2.out (by rfl) (by decide) _ (0 + e.length) ([] ++ edgesC e) (by rfl) hown5 _ 1 1 (edgesC [m]) (by rfl) (by rfl) hC5 (edgesC_one _) (by have := HLN.out; unfold maxLen; omega) (by have := HLN.out; omega) (by have := hk5.lt; simp; omega) ?_; intro v6 w6 hown6 hgrow6; have hk6 : BxE w m w6 := (by first | exact BxE.grown (BxE.alloc hk5 _) hgrow6 (fun j hj => (hown5.lt j hj).1) | exact BxE.grown hk5 hgrow6 (fun j hj => (hown5.lt j hj).1))) | fail)
      all_goals
        go_wp2_with fail
        go_meet
        exact ⟨EAt.own hown6 (by first | rfl | (rw [edgesC_app]; rfl)) (by simp), hk6⟩
  case rest =>
    obtain ⟨E0, B'⟩ := hcut
    clear B z0 z1 z2
    have EN := Lib.hid E0
    have EA := Lib.hid (HA.out.below B'.below (Nat.le_refl _))
    have CC := Lib.hid B'.below
    obtain ⟨na, nc, e10, -, -⟩ := E0
    rw [show (e ++ [m]).length = e.length + 1 from by simp] at e10
    subst e10
    clear B' HA HZ HCAP Hi Hz0 Hz1 Hz2
    obtain ⟨mb, hmb⟩ : ∃ mb, midB n (e ++ [m]) = mb := ⟨_, rfl⟩
    have MB := Lib.hid hmb
    cases mb with
    | false =>
      clear hmb
      go_wp2_with fail
      refine (middle_x _ _ _ _ EN.out).mono ?_
      rintro r w3 ⟨rfl, rfl⟩
      rw [MB.out]
      go_wp2_with fail
      go_ret
      exact ⟨by try rfl, CC.out⟩
    | true =>
      obtain ⟨n40, e200, hr⟩ := mid_iff.1 hmb
      have n0 := (right_iff.1 hr).1.1
      have HRN := Lib.hid hr
      clear hmb hr
      by_cases a0 : a < 0
      · go_wp2_with fail
        refine (middle_x _ _ _ _ EN.out).mono ?_
        rintro r w3 ⟨rfl, rfl⟩
        rw [MB.out]
        go_wp2_with fail
        go_ret
        exact ⟨by try rfl, CC.out⟩
      by_cases a1 : n ≤ a
      · go_wp2_with fail
        refine (middle_x _ _ _ _ EN.out).mono ?_
        rintro r w3 ⟨rfl, rfl⟩
        rw [MB.out]
        go_wp2_with fail
        go_ret
        exact ⟨by try rfl, CC.out⟩
      obtain ⟨N, rfl⟩ := Int.eq_ofNat_of_zero_le n0
      obtain ⟨A, rfl⟩ := Int.eq_ofNat_of_zero_le (show 0 ≤ a by omega)
      have SUB : Hid (∀ p ∈ e, p ∈ e ++ [m]) := fun p hp => List.mem_append_left _ hp
      have e199 : e.length ≤ 199 := by rw [List.length_append] at e200; simp at e200; omega
      have hl2 : e.length ≤ 1099511627776 := by omega
      have hl3 : (e ++ [m]).length ≤ 1099511627776 := by omega
      have HRE : Hid (rightB N e = true) := right_sub HRN.out SUB.out (by simp)
      obtain ⟨GG, hG⟩ : ∃ L, groups N e = L := ⟨_, rfl⟩
      obtain ⟨LL, hL⟩ : ∃ L, groups N (e ++ [m]) = L := ⟨_, rfl⟩
      have HLG := Lib.hid hG
      have HLH := Lib.hid hL
      have ON := Lib.hid (once_groups HRN.out)
      have OG := Lib.hid (once_groups HRE.out)
      rw [hL] at ON
      rw [hG] at OG
      have HFEW : Hid (LL.length ≤ GG.length) := by have h := groups_fewer SUB.out HRE.out HRN.out; rw [hG, hL] at h; exact h
      have HPOS : Hid (0 < LL.length) := by have h := groups_pos HRN.out (show (0 : Int) < (N : Int) by omega); rw [hL] at h; exact h
      have HSH : Hid (cycle N e ≠ [] → cycle N (e ++ [m]) ≠ [] ∧ (cycle N (e ++ [m])).length ≤ (cycle N e).length) := fun h => cycle_shorter SUB.out HRE.out HRN.out h
      have SLE : Hid (∀ i, sumTo LL i ≤ N) := fun i => by have h1 := sum_le LL i; have h2 := groups_count HRN.out; rw [hL] at h2; simp at h2; simp at h1; omega
      have SLG : Hid (∀ i, sumTo GG i ≤ N) := fun i => by have h1 := sum_le GG i; have h2 := groups_count HRE.out; rw [hG] at h2; simp at h2; simp at h1; omega
      have GM : (GG.length : Int) ≤ 40 := by have h := groups_len HRE.out; rw [hG, Int.toNat_natCast] at h; omega
      have LM : (LL.length : Int) ≤ 40 := by have h := groups_len HRN.out; rw [hL, Int.toNat_natCast] at h; omega
      clear hG hL
      obtain ⟨rj, hj, hy0, hy1, hy2⟩ := info_parts infoI
      have Hj := Lib.hid hj
      have Hy0 := Lib.hid hy0
      have Hy1 := Lib.hid hy1
      have Hy2 := Lib.hid hy2
      clear hj hy0 hy1 hy2
      go_wp2_with fail
      refine (middle_x _ _ _ _ EN.out).mono ?_
      rintro r w3 ⟨rfl, rfl⟩
      rw [MB.out]
      go_wp2_with fail
      refine (h.reach _ _ e _ _ EA.out hl2 OK.out HN.out HF.out).mono ?_
      rintro r w4 ⟨xr1, rfl, hx1, b4⟩
      have EA' := Lib.hid (EA.out.below b4 (Nat.le_refl _))
      clear EA
      have EA := EA'
      clear EA'
      have EN' := Lib.hid (EN.out.below b4 (Nat.le_refl _))
      clear EN
      have EN := EN'
      clear EN'
      have CC' := Lib.hid (chain CC.out b4)
      clear CC b4
      have CC := CC'
      clear CC'
      have X1 := Lib.hid hx1
      clear hx1
      go_wp2_with fail
      refine (h.reach _ _ (e ++ [m]) _ _ EN.out hl3 OKN.out HN.out HF.out).mono ?_
      rintro r w5 ⟨xr2, rfl, hx2, b5⟩
      have EA' := Lib.hid (EA.out.below b5 (Nat.le_refl _))
      clear EA
      have EA := EA'
      clear EA'
      have EN' := Lib.hid (EN.out.below b5 (Nat.le_refl _))
      clear EN
      have EN := EN'
      clear EN'
      have X1' := Lib.hid (X1.out.below b5 (Nat.le_refl _))
      clear X1
      have X1 := X1'
      clear X1'
      have CC' := Lib.hid (chain CC.out b5)
      clear CC b5
      have CC := CC'
      clear CC'
      have X2 := Lib.hid hx2
      clear hx2
      go_wp2_with fail
      refine (h.cycle _ _ e _ EA.out hl2 OK.out HN.out).mono ?_
      rintro r w6 ⟨xc1, rfl, hx3, b6⟩
      have EA' := Lib.hid (EA.out.below b6 (Nat.le_refl _))
      clear EA
      have EA := EA'
      clear EA'
      have EN' := Lib.hid (EN.out.below b6 (Nat.le_refl _))
      clear EN
      have EN := EN'
      clear EN'
      have X1' := Lib.hid (X1.out.below b6 (Nat.le_refl _))
      clear X1
      have X1 := X1'
      clear X1'
      have X2' := Lib.hid (X2.out.below b6 (Nat.le_refl _))
      clear X2
      have X2 := X2'
      clear X2'
      have CC' := Lib.hid (chain CC.out b6)
      clear CC b6
      have CC := CC'
      clear CC'
      obtain ⟨ca, cc1, rfl, -, -⟩ := hx3
      rw [List.length_map]
      go_wp2_with fail
      refine (h.cycle _ _ (e ++ [m]) _ EN.out hl3 OKN.out HN.out).mono ?_
      rintro r w7 ⟨xc2, rfl, hx4, b7⟩
      have EA' := Lib.hid (EA.out.below b7 (Nat.le_refl _))
      clear EA
      have EA := EA'
      clear EA'
      have EN' := Lib.hid (EN.out.below b7 (Nat.le_refl _))
      clear EN
      have EN := EN'
      clear EN'
      have X1' := Lib.hid (X1.out.below b7 (Nat.le_refl _))
      clear X1
      have X1 := X1'
      clear X1'
      have X2' := Lib.hid (X2.out.below b7 (Nat.le_refl _))
      clear X2
      have X2 := X2'
      clear X2'
      have CC' := Lib.hid (chain CC.out b7)
      clear CC b7
      have CC := CC'
      clear CC'
      obtain ⟨da, dc, rfl, -, -⟩ := hx4
      rw [List.length_map]
      go_wp2_with fail
      refine (h.groups _ _ e _ EA.out hl2 OK.out HN.out).mono ?_
      rintro r w8 ⟨xg, rfl, hx5, b8⟩
      have EA' := Lib.hid (EA.out.below b8 (Nat.le_refl _))
      clear EA
      have EA := EA'
      clear EA'
      have EN' := Lib.hid (EN.out.below b8 (Nat.le_refl _))
      clear EN
      have EN := EN'
      clear EN'
      have X1' := Lib.hid (X1.out.below b8 (Nat.le_refl _))
      clear X1
      have X1 := X1'
      clear X1'
      have X2' := Lib.hid (X2.out.below b8 (Nat.le_refl _))
      clear X2
      have X2 := X2'
      clear X2'
      have CC' := Lib.hid (chain CC.out b8)
      clear CC b8
      have CC := CC'
      clear CC'
      rw [HLG.out] at hx5
      have LG := Lib.hid hx5
      obtain ⟨ga, gc, rfl, -, -⟩ := hx5.get
      clear hx5
      go_wp2_with fail
      refine (h.groups _ _ (e ++ [m]) _ EN.out hl3 OKN.out HN.out).mono ?_
      rintro r w9 ⟨xh, rfl, hx6, b9⟩
      have EA' := Lib.hid (EA.out.below b9 (Nat.le_refl _))
      clear EA
      have EA := EA'
      clear EA'
      have EN' := Lib.hid (EN.out.below b9 (Nat.le_refl _))
      clear EN
      have EN := EN'
      clear EN'
      have X1' := Lib.hid (X1.out.below b9 (Nat.le_refl _))
      clear X1
      have X1 := X1'
      clear X1'
      have X2' := Lib.hid (X2.out.below b9 (Nat.le_refl _))
      clear X2
      have X2 := X2'
      clear X2'
      have LG' := Lib.hid (LG.out.below b9 (Nat.le_refl _))
      clear LG
      have LG := LG'
      clear LG'
      have CC' := Lib.hid (chain CC.out b9)
      clear CC b9
      have CC := CC'
      clear CC'
      rw [HLH.out] at hx6
      have LH := Lib.hid hx6
      obtain ⟨ha, hc, rfl, -, -⟩ := hx6.get
      clear hx6 EA EN
      obtain ⟨fa, fc, e8, fcap, HF1⟩ := own_bools X1.out (show (reach N e A).length = N by rw [reach_len HRE.out ⟨by omega, by omega⟩]; simp)
      subst e8
      obtain ⟨ta, tc, e9, tcap, HF2⟩ := own_bools X2.out (show (reach N (e ++ [m]) A).length = N by rw [reach_len HRN.out ⟨by omega, by omega⟩]; simp)
      subst e9
      clear X1 X2
      have fh : ¬ (GG.length : Int) < (LL.length : Int) := by have := HFEW.out; omega
      have fz : ((LL.length : Int) == 0) = false := beq_eq_false_iff_ne.2 (by have := HPOS.out; omega)
      have fn : ¬ LL = [] := fun e0 => by have := HPOS.out; rw [e0] at this; simp at this
      go_upto_region 11 with fail
      go_cut [102] (fun c wx => c = .bool false ∧ wx = w9)
      case first =>
        by_cases c0 : (cycle N e).length = 0
        · have f1 : decide ((0 : Int) < ((cycle N e).length : Int)) = false := decide_eq_false (by omega)
          have f2 : decide (0 < (cycle N e).length) = false := decide_eq_false (by omega)
          clear c0
          go_wp2_with fail
          go_meet
          exact ⟨by first | rfl | exact congrArg Value.bool (decide_eq_false (by have := HFEW.out; omega)), rfl⟩
        · obtain ⟨s1, s2⟩ := HSH.out (fun e0 => c0 (by rw [e0]; rfl))
          have s3 : 0 < (cycle N (e ++ [m])).length := List.length_pos_iff.2 s1
          have f1 : (0 : Int) < ((cycle N e).length : Int) := by omega
          have f2 : (((cycle N (e ++ [m])).length : Int) == 0) = false := beq_eq_false_iff_ne.2 (by omega)
          have f3 : ¬ cycle N (e ++ [m]) = [] := s1
          have f4 : ¬ ((cycle N e).length : Int) < ((cycle N (e ++ [m])).length : Int) := by omega
          go_wp2_with fail
          go_meet
          exact ⟨by first | rfl | exact congrArg Value.bool (decide_eq_false (by have := HFEW.out; omega)), rfl⟩
      case rest =>
        obtain ⟨rfl, hw⟩ := hcut
        obtain rfl := hw.symm
        go_wp2_with (at_make; refine wpList_make_full _ rfl (.tmp 103) (.tmp 103) 25 rfl w9.heap.size 3 rj (.int .i64 0) 1 Try.underlying25 Hj.out Hy0.out Hy1.out .i64 .i64 N N N rfl rfl rfl rfl ?f1 ?f2 ?f3 ?_)
        case f1 => rw [Hy2.out]; omega
        case f2 => unfold maxLen; omega
        intro w10 hown hgrow
        rw [made_ints] at hown
        have R10 : Hid (Row w10 w9.heap.size (ints (List.replicate N 0))) := Row.own hown (by simp)
        have B10 : Hid (Below w9.heap.size w9 w10) := (Below.refl _ _).grown hgrow (Nat.le_refl _) (fun k hk => by cases hk)
        clear hown hgrow
        go_wp2_with fail
        go_loopw [18] (fun i wr => W1R N LL w9.heap.size w9 i wr) (fun i _ => LL.length - (intOf i).toNat)
        case atStart => exact ⟨0, _, Nat.zero_le _, rfl, QS.start ON.out 0, R10.out, B10.out⟩
        case round =>
          clear R10 B10
          obtain ⟨i, Q, hi, rfl, hQ, hrow, hold⟩ := hrel
          have HQ := Lib.hid hQ
          have HROW := Lib.hid hrow
          have HOLD := Lib.hid hold
          clear hQ hrow hold
          have i0 : (0 : Int) ≤ (i : Int) := by omega
          by_cases d : (i : Int) < (LL.length : Int)
          case pos =>
            obtain ⟨l, hl⟩ : ∃ l, LL[i]? = some l := ⟨_, List.getElem?_eq_getElem (by omega)⟩
            have Hl := Lib.hid hl
            clear hl
            obtain ⟨xa', xc', e', -, hx⟩ := (LH.out.below HOLD.out (Nat.le_refl _)).get
            injection e' with e1 e2 e3
            subst e1 e3
            obtain ⟨g1, o1, la, lc, rfl, hg1, p0, lcap, sl⟩ := hx i l Hl.out
            have l40 : (l.length : Int) ≤ 40 := by
              have h1 := sum_next Hl.out
              have h2 := SLE.out (i + 1)
              omega
            clear hx sl
            go_wp2_with fail
            go_loopw [19] (fun k wx => W2R N LL w9.heap.size w9 i l k wx) (fun k _ => l.length - (intOf k).toNat)
            case atStart => exact ⟨0, Q, Nat.zero_le _, rfl, HQ.out, HROW.out, HOLD.out⟩
            case round =>
              clear HQ HROW HOLD p0
              obtain ⟨k, Q, hkl, rfl, hQ, hrow, hold⟩ := hrel
              have HQ := Lib.hid hQ
              have HROW := Lib.hid hrow
              have HOLD := Lib.hid hold
              clear hQ hrow hold
              have k0 : (0 : Int) ≤ (k : Int) := by omega
              obtain ⟨xa', xc', e', -, hx⟩ := (LH.out.below HOLD.out (Nat.le_refl _)).get
              injection e' with e1 e2 e3
              subst e3
              obtain ⟨g1', o1', la', lc', e7, hg1, p0, lcap', sl⟩ := hx i l Hl.out
              rw [← e1] at e7
              simp only [Option.some.injEq, Addr.mk.injEq, and_true] at e7
              obtain ⟨rfl, rfl⟩ := e7
              clear e1 e2
              by_cases d2 : (k : Int) < (l.length : Int)
              case neg =>
                obtain rfl : k = l.length := by omega
                have Hq : Hid (QS N LL 0 (i + 1) 0 Q) := QS.turn Hl.out HQ.out
                clear hx sl
                go_wp2_with fail
                go_roundw
                case rel => exact ⟨i + 1, Q, by have := (List.getElem?_eq_some_iff.1 Hl.out).1; omega, by congr 1, Hq.out, HROW.out, HOLD.out⟩
                case measure => have := (List.getElem?_eq_some_iff.1 Hl.out).1; simp [intOf]; omega
              case pos =>
                have kl : k < l.length := by omega
                obtain ⟨la'', lc'', e', -, hsl⟩ := id sl
                injection e' with e4 e5 e6
                subst e4 e6
                obtain ⟨x', hx'⟩ : ∃ x, l[k]? = some x := ⟨_, List.getElem?_eq_getElem kl⟩
                have xn := ON.out.node i l x' Hl.out (List.mem_of_getElem? hx')
                obtain ⟨x, rfl⟩ := Int.eq_ofNat_of_zero_le xn.1
                obtain ⟨g2', o2', rfl, hg2, q0⟩ := hsl k _ (ints_get hx')
                have x0 : (0 : Int) ≤ (x : Int) := by omega
                have xN : (x : Int) < (N : Int) := xn.2
                have r0 := HROW.out.lt
                have hQx := HQ.out.todo i k l x Hl.out hx' (by omega)
                have r1 := HROW.out.c x _ (ints_get hQx)
                have r2 := HROW.out.fz x (by rw [List.length_map, HQ.out.len]; omega)
                have Hq : Hid (QS N LL 0 i (k + 1) (Q.set x (i : Int))) := by have h := HQ.out.next ON.out Hl.out hx'; rw [Int.add_zero] at h; exact h
                have xQ : Hid (x < Q.length) := show _ < _ by rw [HQ.out.len]; omega
                clear hx sl hsl hx' hQx e5 xn
                go_wp2_with fail
                go_roundw
                case rel => exact ⟨k + 1, Q.set x (i : Int), by omega, by congr 1, Hq.out, by rw [← ints_set]; exact HROW.out.set x _ (by rw [List.length_map]; exact xQ.out), HOLD.out.setCell (Nat.le_refl _) _⟩
                case measure => simp [intOf]; omega
          case neg =>
            obtain rfl : i = LL.length := by omega
            have HQN : Hid (QS N (groups N (e ++ [m])) 0 (groups N (e ++ [m])).length 0 Q) := by rw [HLH.out]; exact HQ.out
            have LG2 := Lib.hid (LG.out.below HOLD.out (Nat.le_refl _))
            have C2 := Lib.hid (chain CC.out HOLD.out)
            have wsz := HOLD.out.size
            go_wp2_with fail
            clear d HQ hi i0 LG LH
            go_loopw [20] (fun i wx => Cy6 GG.length wr i wx) (fun i _ => GG.length - (intOf i).toNat)
            case atStart => exact ⟨0, Nat.zero_le _, rfl, 0, rfl⟩
            case round =>
              obtain ⟨i, hi, rfl, q, rfl⟩ := hrel
              have i0 : (0 : Int) ≤ (i : Int) := by omega
              by_cases d : (i : Int) < (GG.length : Int)
              case pos =>
                obtain ⟨l, hl⟩ : ∃ l, GG[i]? = some l := ⟨_, List.getElem?_eq_getElem (by omega)⟩
                have Hl := Lib.hid hl
                clear hl
                have lpos : 0 < l.length := by
                  obtain ⟨a, ha, hla⟩ := groups_get HRE.out (show (groups N e)[i]? = some l by rw [HLG.out]; exact Hl.out)
                  obtain ⟨t, ht⟩ := group_head (List.mem_of_getElem? ha)
                  rw [hla, ht]
                  simp
                obtain ⟨y', hy'⟩ : ∃ y, l[0]? = some y := ⟨_, List.getElem?_eq_getElem lpos⟩
                have yn := OG.out.node i l y' Hl.out (List.mem_of_getElem? hy')
                obtain ⟨y, rfl⟩ := Int.eq_ofNat_of_zero_le yn.1
                have y0 : (0 : Int) ≤ (y : Int) := by omega
                have yN : (y : Int) < (N : Int) := yn.2
                have HY := Lib.hid hy'
                have l40 : (l.length : Int) ≤ 40 := by
                  have h1 := sum_next Hl.out
                  have h2 := SLG.out (i + 1)
                  omega
                obtain ⟨xa', xc', e', -, hx⟩ := (LG2.out).get
                injection e' with e1 e2 e3
                subst e1 e3
                obtain ⟨g1, o1, la, lc, rfl, hg1, p0, lcap, sl⟩ := hx i l Hl.out
                clear hx sl hy' yn
                go_wp2_with fail
                go_loopw [21] (fun k wx => Cy6 l.length wr k wx) (fun k _ => l.length - (intOf k).toNat)
                case atStart => exact ⟨0, Nat.zero_le _, rfl, q, rfl⟩
                case round =>
                  clear p0
                  obtain ⟨k, hkl, rfl, q2, rfl⟩ := hrel
                  have k0 : (0 : Int) ≤ (k : Int) := by omega
                  obtain ⟨xa', xc', e', -, hx⟩ := (LG2.out).get
                  injection e' with e1 e2 e3
                  subst e3
                  obtain ⟨g1', o1', la', lc', e7, hg1, p0, lcap', sl⟩ := hx i l Hl.out
                  rw [← e1] at e7
                  simp only [Option.some.injEq, Addr.mk.injEq, and_true] at e7
                  obtain ⟨rfl, rfl⟩ := e7
                  clear e1 e2
                  by_cases d2 : (k : Int) < (l.length : Int)
                  case neg =>
                    clear hx sl
                    go_wp2_with fail
                    go_roundw
                    case rel => exact ⟨i + 1, by have := (List.getElem?_eq_some_iff.1 Hl.out).1; omega, by congr 1, q2, rfl⟩
                    case measure => have := (List.getElem?_eq_some_iff.1 Hl.out).1; simp [intOf]; omega
                  case pos =>
                    have kl : k < l.length := by omega
                    obtain ⟨la'', lc'', e', -, hsl⟩ := id sl
                    injection e' with e4 e5 e6
                    subst e4 e6
                    obtain ⟨x', hx'⟩ : ∃ x, l[k]? = some x := ⟨_, List.getElem?_eq_getElem kl⟩
                    have xn := OG.out.node i l x' Hl.out (List.mem_of_getElem? hx')
                    obtain ⟨x, rfl⟩ := Int.eq_ofNat_of_zero_le xn.1
                    obtain ⟨g2', o2', rfl, hg2, q0⟩ := hsl k _ (ints_get hx')
                    obtain ⟨g3', o3', e8, -, q1⟩ := hsl 0 _ (ints_get HY.out)
                    simp only [Option.some.injEq, Addr.mk.injEq, and_true] at e8
                    obtain ⟨rfl, rfl⟩ := e8
                    rw [Nat.add_zero] at q1
                    have x0 : (0 : Int) ≤ (x : Int) := by omega
                    have xN : (x : Int) < (N : Int) := xn.2
                    have hmut : mutB e x y = true := (groups_same HRE.out (show (groups N e)[i]? = some l by rw [HLG.out]; exact Hl.out) (List.mem_of_getElem? hx') (show (groups N e)[i]? = some l by rw [HLG.out]; exact Hl.out) (List.mem_of_getElem? HY.out)).1 rfl
                    obtain ⟨z, hz1, hz2⟩ := mark_same HRN.out HQN.out (x := x) (y := y) (by omega) (by omega) (mut_mono SUB.out hmut)
                    have r0 := HROW.out.lt
                    have r1 := HROW.out.c x _ (ints_get hz1)
                    have r2 := HROW.out.c y _ (ints_get hz2)
                    clear hx sl hsl hx' e5 xn hmut hz1 hz2
                    go_wp2_with fail
                    go_quiet (fail)
                    go_wp2_with fail
                    go_roundw
                    case rel => exact ⟨k + 1, by omega, by congr 1, _, by first | rfl | rw [World.drewN_drewN]⟩
                    case measure => simp [intOf]; omega
              case neg =>
                go_wp2_with fail
                clear d hi i0
                go_loopw [22] (fun i wx => ReRel N (wr.drewN q) i wx) (fun i _ => N - (intOf i).toNat)
                case atStart => exact ⟨0, Nat.zero_le _, rfl, rfl⟩
                case round =>
                  obtain ⟨k, hk, rfl, rfl⟩ := hrel
                  have k0 : (0 : Int) ≤ (k : Int) := by omega
                  by_cases c : (k : Int) < (N : Int)
                  case neg =>
                    go_wp2_with fail
                    go_ret
                    exact ⟨by try rfl, below_drewN C2.out _⟩
                  case pos =>
                    obtain ⟨u, hu⟩ : ∃ u, reachB e A k = u := ⟨_, rfl⟩
                    obtain ⟨t, ht⟩ : ∃ t, reachB (e ++ [m]) A k = t := ⟨_, rfl⟩
                    obtain ⟨fg, foff, rfl, lt3, m3⟩ := HF1.out k u (by rw [reach_get HRE.out ⟨by omega, by omega⟩ (by simp; omega), hu])
                    obtain ⟨tg, toff, rfl, lt4, m4⟩ := HF2.out k t (by rw [reach_get HRN.out ⟨by omega, by omega⟩ (by simp; omega), ht])
                    have s3 : wr.cell? ⟨fg, foff + k, none⟩ = some (.bool u) := by rw [HOLD.out.cell (p := ⟨fg, foff + k, none⟩) lt3]; exact m3
                    have s4 : wr.cell? ⟨tg, toff + k, none⟩ = some (.bool t) := by rw [HOLD.out.cell (p := ⟨tg, toff + k, none⟩) lt4]; exact m4
                    have l3 : fg < wr.heap.size := Nat.lt_of_lt_of_le lt3 wsz
                    have l4 : tg < wr.heap.size := Nat.lt_of_lt_of_le lt4 wsz
                    have hut : u = true → t = true := fun h1 => by
                      rw [← ht, reachB_iff]
                      exact (reachB_iff.1 (hu.trans h1)).mono SUB.out
                    clear m3 m4 hu ht
                    cases u with
                    | false =>
                      clear s4 hut
                      go_wp2_with fail
                      go_roundw
                      case rel => exact ⟨k + 1, by omega, by congr 1, rfl⟩
                      case measure => simp [intOf]; omega
                    | true =>
                      obtain rfl : t = true := hut rfl
                      clear hut
                      go_wp2_with fail
                      go_roundw
                      case rel => exact ⟨k + 1, by omega, by congr 1, rfl⟩
                      case measure => simp [intOf]; omega

end Go.Proofs.Ytndcbhgdlaemaaa
