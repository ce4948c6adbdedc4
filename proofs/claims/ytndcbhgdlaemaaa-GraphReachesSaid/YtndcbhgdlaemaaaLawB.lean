/-
  The law's examples (sane).
-/
import Derived.Test.YtndcbhgdlaemaaaLawA
import Derived.Test.YtndcbhgdlaemaaaGrF
namespace Go.Proofs.Ytndcbhgdlaemaaa
open Go.RowKit Gr

theorem infoE : (Try.prog.info? 40).map (fun i => (i.zero, i.size, i.bytes)) = some (some (.agg #[.int .i64 0, .int .i64 0]), 2, 16) := by kernel_rfl
theorem own_none2 (W : World) (T : TypeId) (base n : Nat) (hn : n = W.heap.size) (hb : base ≤ n) : (W.alloc (.cells #[] T)).ownsRow base T 2 (.slice (some ⟨n, 0, none⟩) 0 0) 0 [] := by
  subst hn
  exact World.ownsRow_lit W #[] 0 hb (by decide) rfl
theorem okA (e : E) (h : e.all (fun p => decide (0 ≤ p.1 ∧ p.1 ≤ 1000) && decide (0 ≤ p.2 ∧ p.2 ≤ 1000)) = true) : okE2 e := by
  intro p hp
  have := List.all_eq_true.1 h p hp
  rw [Bool.and_eq_true, decide_eq_true_iff, decide_eq_true_iff] at this
  unfold I64
  omega
theorem lat4 {w : World} {v x0 x1 x2 x3 : Value} {l0 l1 l2 l3 : List Int} (h : SAt w v [x0, x1, x2, x3]) (h0 : SAt w x0 (ints l0)) (h1 : SAt w x1 (ints l1)) (h2 : SAt w x2 (ints l2)) (h3 : SAt w x3 (ints l3)) : LAt w v [l0, l1, l2, l3] := by
  refine ⟨_, h, rfl, fun i x l hx hl => ?_⟩
  match i with
  | 0 => simp at hx hl; rw [← hx, ← hl]; exact h0
  | 1 => simp at hx hl; rw [← hx, ← hl]; exact h1
  | 2 => simp at hx hl; rw [← hx, ← hl]; exact h2
  | 3 => simp at hx hl; rw [← hx, ← hl]; exact h3
  | i + 4 => simp at hx

set_option maxHeartbeats 6400000 in
set_option maxRecDepth 100000 in
theorem sane_x (h : GraphOk) (w : World) : Calls Try.prog 9 #[] w fun e w' => e = .returned (.bool true) ∧ Below w.heap.size w w' := by
  go_enter Try.func9, Try.ntmps9
  have cc : Below w.heap.size w w := Below.refl _ _
  have bel1 : Below w.heap.size w (w.alloc (.cells #[.int .i64 3, .int .i64 1, .int .i64 1, .int .i64 2, .int .i64 2, .int .i64 1, .int .i64 0, .int .i64 4] 40)) := Below.new1 _
  have EA : EAt (w.alloc (.cells #[.int .i64 3, .int .i64 1, .int .i64 1, .int .i64 2, .int .i64 2, .int .i64 1, .int .i64 0, .int .i64 4] 40)) (.slice (some ⟨w.heap.size, 0, none⟩) 4 4) eA := EAt.lit _ _ _ _ _ _ (by simp) rfl rfl
  have cc' := chain cc bel1
  clear cc bel1
  have cc := cc'
  clear cc'
  go_wp2_with fail
  refine (h.order _ 5 eA _ EA (by decide) (okA eA (by decide)) (small_I64 (by omega) (by omega))).mono ?_
  rintro r w2 ⟨x, rfl, -, bb⟩
  rw [show ordB 5 eA = false from by unfold ordB; rw [ex_ordA]; rfl]
  have EA' := EA.below bb (Nat.le_refl _)
  clear EA
  have EA := EA'
  clear EA'
  have cc' := chain cc bb
  clear cc bb
  have cc := cc'
  clear cc'
  have bel3 : Below w2.heap.size w2 (w2.alloc (.cells #[.int .i64 3, .int .i64 1, .int .i64 1, .int .i64 2, .int .i64 0, .int .i64 4] 40)) := Below.new1 _
  have EA' := EA.below bel3 (Nat.le_refl _)
  clear EA
  have EA := EA'
  clear EA'
  have EB : EAt (w2.alloc (.cells #[.int .i64 3, .int .i64 1, .int .i64 1, .int .i64 2, .int .i64 0, .int .i64 4] 40)) (.slice (some ⟨w2.heap.size, 0, none⟩) 3 3) eB := EAt.lit _ _ _ _ _ _ (by simp) rfl rfl
  have cc' := chain cc bel3
  clear cc bel3
  have cc := cc'
  clear cc'
  go_wp2_with fail
  refine (h.order _ 5 eB _ EB (by decide) (okA eB (by decide)) (small_I64 (by omega) (by omega))).mono ?_
  rintro r w4 ⟨y, rfl, SY, bb⟩
  rw [show ordL 5 eB = [0, 3, 1, 2, 4] from by unfold ordL; rw [ex_ordB]; rfl] at SY
  rw [show ordB 5 eB = true from by unfold ordB; rw [ex_ordB]; rfl]
  have EA' := EA.below bb (Nat.le_refl _)
  clear EA
  have EA := EA'
  clear EA'
  have EB' := EB.below bb (Nat.le_refl _)
  clear EB
  have EB := EB'
  clear EB'
  have cc' := chain cc bb
  clear cc bb
  have cc := cc'
  clear cc'
  clear EB
  have own0 : Hid ((w4.alloc (.cells #[] 40)).ownsRow w4.heap.size 40 2 (.slice (some ⟨w4.heap.size, 0, none⟩) 0 0) 0 []) := own_none2 w4 _ _ _ rfl (Nat.le_refl _)
  have Ba : Hid (Below w4.heap.size w4 (w4.alloc (.cells #[] 40))) := Below.new1 _
  have CA : Hid (∀ j u, (edgesC eA)[j]? = some u → (w4.alloc (.cells #[] 40)).cell? ((⟨w.heap.size, 0, none⟩ : Addr).add j) = some u) := fun j u hu => by
    obtain ⟨k1, -, k2⟩ := EA.flat j u hu
    rw [add_plain, Ba.out.cell (p := ⟨w.heap.size, 0 + j, none⟩) k1]
    exact k2
  obtain ⟨ri, hi, hz0, hz1, hz2⟩ := info_parts infoE
  go_wp2_with (at_builtin; refine wpList_append_own _ rfl (.tmp 25) (.tmp 26) 22 rfl w4.heap.size 40 ri (.agg #[.int .i64 0, .int .i64 0]) 2 16 Try.underlying22 hi hz0 hz1 hz2 rfl (by decide) _ 0 [] rfl own0.out ⟨w.heap.size, 0, none⟩ 4 4 (edgesC eA) rfl rfl ?f1 ?f2 ?f3 ?f4 ?f5 ?_)
  case f1 => exact CA.out
  case f2 => exact edgesC_one _
  case f3 => decide
  case f4 => decide
  case f5 => simp
  intro va wa howna hgrowa _
  have ba : Below w4.heap.size w4 wa := Ba.out.grown hgrowa (by simp) (fun k hk => by have := (own0.out.lt k hk).1; simp [Value.ownBlock] at hk; omega)
  have sza := ba.size
  go_wp2_with (at_builtin; refine wpList_append_own _ rfl (.tmp 27) (.tmp 29) 22 rfl w4.heap.size 40 ri (.agg #[.int .i64 0, .int .i64 0]) 2 16 Try.underlying22 hi hz0 hz1 hz2 rfl (by decide) _ 4 (edgesC eA) rfl (howna.alloc _) ⟨wa.heap.size, 0, none⟩ 1 1 (edgesC [(4, 0)]) rfl rfl ?g1 ?g2 ?g3 ?g4 ?g5 ?_)
  case g1 => intro j u hu; rw [add_plain, Nat.zero_add]; exact cell_new hu
  case g2 => exact edgesC_one _
  case g3 => decide
  case g4 => decide
  case g5 => simp; omega
  intro vb wb hownb hgrowb _
  have lb : ∀ k, va.ownBlock = some k → w4.heap.size ≤ k := fun k hk => (howna.lt k hk).1
  have bb : Below w4.heap.size w4 wb := (ba.alloc ba.size _).grown hgrowb (by have := ba.size; simp; omega) lb
  have EM : EAt wb vb (eA ++ [(4, 0)]) := EAt.own hownb (by rfl) (by rfl)
  clear howna hgrowa hownb hgrowb ba sza own0 Ba CA lb
  have EA' := EA.below bb (Nat.le_refl _)
  clear EA
  have EA := EA'
  clear EA'
  have SY' := SY.below bb (Nat.le_refl _)
  clear SY
  have SY := SY'
  clear SY'
  have cc' := chain cc bb
  clear cc bb
  have cc := cc'
  clear cc'
  clear hi hz0 hz1 hz2
  have bel5 : Below wb.heap.size wb (wb.alloc (.cells #[.int .i64 0, .int .i64 3, .int .i64 1, .int .i64 2, .int .i64 4] 3)) := Below.new1 _
  have EA' := EA.below bel5 (Nat.le_refl _)
  clear EA
  have EA := EA'
  clear EA'
  have SY' := SY.below bel5 (Nat.le_refl _)
  clear SY
  have SY := SY'
  clear SY'
  have EM' := EM.below bel5 (Nat.le_refl _)
  clear EM
  have EM := EM'
  clear EM'
  have LI : SAt (wb.alloc (.cells #[.int .i64 0, .int .i64 3, .int .i64 1, .int .i64 2, .int .i64 4] 3)) (.slice (some ⟨wb.heap.size, 0, none⟩) 5 5) (ints [0, 3, 1, 2, 4]) := SAt.lit _ _ _ _ _ _ (by simp) rfl rfl
  have cc' := chain cc bel5
  clear cc bel5
  have cc := cc'
  clear cc'
  go_wp2_with fail
  refine (SameInts_x _ _ [0, 3, 1, 2, 4] [0, 3, 1, 2, 4] _ SY LI (by decide)).mono ?_
  rintro r w6 ⟨rfl, q, hq⟩
  have bb : Below (wb.alloc (.cells #[.int .i64 0, .int .i64 3, .int .i64 1, .int .i64 2, .int .i64 4] 3)).heap.size (wb.alloc (.cells #[.int .i64 0, .int .i64 3, .int .i64 1, .int .i64 2, .int .i64 4] 3)) w6 := by rw [hq]; exact below_drewN (Below.refl _ _) q
  clear hq q
  rw [decide_eq_true (by rfl)]
  have EA' := EA.below bb (Nat.le_refl _)
  clear EA
  have EA := EA'
  clear EA'
  have SY' := SY.below bb (Nat.le_refl _)
  clear SY
  have SY := SY'
  clear SY'
  have EM' := EM.below bb (Nat.le_refl _)
  clear EM
  have EM := EM'
  clear EM'
  have LI' := LI.below bb (Nat.le_refl _)
  clear LI
  have LI := LI'
  clear LI'
  have cc' := chain cc bb
  clear cc bb
  have cc := cc'
  clear cc'
  clear SY LI
  go_wp2_with fail
  refine (h.cycle _ 5 eA _ EA (by decide) (okA eA (by decide)) (small_I64 (by omega) (by omega))).mono ?_
  rintro r w7 ⟨x3, rfl, SX, bb⟩
  rw [ex_cycA] at SX
  have EA' := EA.below bb (Nat.le_refl _)
  clear EA
  have EA := EA'
  clear EA'
  have EM' := EM.below bb (Nat.le_refl _)
  clear EM
  have EM := EM'
  clear EM'
  have cc' := chain cc bb
  clear cc bb
  have cc := cc'
  clear cc'
  have bel8 : Below w7.heap.size w7 (w7.alloc (.cells #[.int .i64 1, .int .i64 2] 3)) := Below.new1 _
  have EA' := EA.below bel8 (Nat.le_refl _)
  clear EA
  have EA := EA'
  clear EA'
  have EM' := EM.below bel8 (Nat.le_refl _)
  clear EM
  have EM := EM'
  clear EM'
  have SX' := SX.below bel8 (Nat.le_refl _)
  clear SX
  have SX := SX'
  clear SX'
  have LI : SAt (w7.alloc (.cells #[.int .i64 1, .int .i64 2] 3)) (.slice (some ⟨w7.heap.size, 0, none⟩) 2 2) (ints [1, 2]) := SAt.lit _ _ _ _ _ _ (by simp) rfl rfl
  have cc' := chain cc bel8
  clear cc bel8
  have cc := cc'
  clear cc'
  go_wp2_with fail
  refine (SameInts_x _ _ [1, 2] [1, 2] _ SX LI (by decide)).mono ?_
  rintro r w9 ⟨rfl, q, hq⟩
  have bb : Below (w7.alloc (.cells #[.int .i64 1, .int .i64 2] 3)).heap.size (w7.alloc (.cells #[.int .i64 1, .int .i64 2] 3)) w9 := by rw [hq]; exact below_drewN (Below.refl _ _) q
  clear hq q
  rw [decide_eq_true (by rfl)]
  have EA' := EA.below bb (Nat.le_refl _)
  clear EA
  have EA := EA'
  clear EA'
  have EM' := EM.below bb (Nat.le_refl _)
  clear EM
  have EM := EM'
  clear EM'
  have SX' := SX.below bb (Nat.le_refl _)
  clear SX
  have SX := SX'
  clear SX'
  have LI' := LI.below bb (Nat.le_refl _)
  clear LI
  have LI := LI'
  clear LI'
  have cc' := chain cc bb
  clear cc bb
  have cc := cc'
  clear cc'
  clear SX LI
  go_wp2_with fail
  refine (h.cycle _ 5 (eA ++ [(4, 0)]) _ EM (by decide) (okA (eA ++ [(4, 0)]) (by decide)) (small_I64 (by omega) (by omega))).mono ?_
  rintro r w10 ⟨x4, rfl, SX, bb⟩
  rw [ex_cycB] at SX
  have EA' := EA.below bb (Nat.le_refl _)
  clear EA
  have EA := EA'
  clear EA'
  have EM' := EM.below bb (Nat.le_refl _)
  clear EM
  have EM := EM'
  clear EM'
  have cc' := chain cc bb
  clear cc bb
  have cc := cc'
  clear cc'
  have bel11 : Below w10.heap.size w10 (w10.alloc (.cells #[.int .i64 0, .int .i64 4] 3)) := Below.new1 _
  have EA' := EA.below bel11 (Nat.le_refl _)
  clear EA
  have EA := EA'
  clear EA'
  have EM' := EM.below bel11 (Nat.le_refl _)
  clear EM
  have EM := EM'
  clear EM'
  have SX' := SX.below bel11 (Nat.le_refl _)
  clear SX
  have SX := SX'
  clear SX'
  have LI : SAt (w10.alloc (.cells #[.int .i64 0, .int .i64 4] 3)) (.slice (some ⟨w10.heap.size, 0, none⟩) 2 2) (ints [0, 4]) := SAt.lit _ _ _ _ _ _ (by simp) rfl rfl
  have cc' := chain cc bel11
  clear cc bel11
  have cc := cc'
  clear cc'
  go_wp2_with fail
  refine (SameInts_x _ _ [0, 4] [0, 4] _ SX LI (by decide)).mono ?_
  rintro r w12 ⟨rfl, q, hq⟩
  have bb : Below (w10.alloc (.cells #[.int .i64 0, .int .i64 4] 3)).heap.size (w10.alloc (.cells #[.int .i64 0, .int .i64 4] 3)) w12 := by rw [hq]; exact below_drewN (Below.refl _ _) q
  clear hq q
  rw [decide_eq_true (by rfl)]
  have EA' := EA.below bb (Nat.le_refl _)
  clear EA
  have EA := EA'
  clear EA'
  have EM' := EM.below bb (Nat.le_refl _)
  clear EM
  have EM := EM'
  clear EM'
  have SX' := SX.below bb (Nat.le_refl _)
  clear SX
  have SX := SX'
  clear SX'
  have LI' := LI.below bb (Nat.le_refl _)
  clear LI
  have LI := LI'
  clear LI'
  have cc' := chain cc bb
  clear cc bb
  have cc := cc'
  clear cc'
  clear SX LI EM
  go_wp2_with fail
  refine (h.reach _ 5 eA 3 _ EA (by decide) (okA eA (by decide)) (small_I64 (by omega) (by omega)) (small_I64 (by omega) (by omega))).mono ?_
  rintro r w13 ⟨x5, rfl, SX, bb⟩
  rw [ex_reach] at SX
  have EA' := EA.below bb (Nat.le_refl _)
  clear EA
  have EA := EA'
  clear EA'
  have cc' := chain cc bb
  clear cc bb
  have cc := cc'
  clear cc'
  have bel14 : Below w13.heap.size w13 (w13.alloc (.cells #[.bool false, .bool true, .bool true, .bool true, .bool false] 4)) := Below.new1 _
  have EA' := EA.below bel14 (Nat.le_refl _)
  clear EA
  have EA := EA'
  clear EA'
  have SX' := SX.below bel14 (Nat.le_refl _)
  clear SX
  have SX := SX'
  clear SX'
  have LI : SAt (w13.alloc (.cells #[.bool false, .bool true, .bool true, .bool true, .bool false] 4)) (.slice (some ⟨w13.heap.size, 0, none⟩) 5 5) (bools [false, true, true, true, false]) := SAt.lit _ _ _ _ _ _ (by simp) rfl rfl
  have cc' := chain cc bel14
  clear cc bel14
  have cc := cc'
  clear cc'
  go_wp2_with fail
  refine (SameBools_x _ _ [false, true, true, true, false] [false, true, true, true, false] _ SX LI (by decide)).mono ?_
  rintro r w15 ⟨rfl, q, hq⟩
  have bb : Below (w13.alloc (.cells #[.bool false, .bool true, .bool true, .bool true, .bool false] 4)).heap.size (w13.alloc (.cells #[.bool false, .bool true, .bool true, .bool true, .bool false] 4)) w15 := by rw [hq]; exact below_drewN (Below.refl _ _) q
  clear hq q
  rw [decide_eq_true (by rfl)]
  have EA' := EA.below bb (Nat.le_refl _)
  clear EA
  have EA := EA'
  clear EA'
  have SX' := SX.below bb (Nat.le_refl _)
  clear SX
  have SX := SX'
  clear SX'
  have LI' := LI.below bb (Nat.le_refl _)
  clear LI
  have LI := LI'
  clear LI'
  have cc' := chain cc bb
  clear cc bb
  have cc := cc'
  clear cc'
  clear SX LI
  go_wp2_with fail
  refine (h.groups _ 5 eA _ EA (by decide) (okA eA (by decide)) (small_I64 (by omega) (by omega))).mono ?_
  rintro r w16 ⟨x6, rfl, SX, bb⟩
  rw [ex_groups] at SX
  have EA' := EA.below bb (Nat.le_refl _)
  clear EA
  have EA := EA'
  clear EA'
  have cc' := chain cc bb
  clear cc bb
  have cc := cc'
  clear cc'
  have bel17 : Below w16.heap.size w16 (w16.alloc (.cells #[.int .i64 0] 3)) := Below.new1 _
  have EA' := EA.below bel17 (Nat.le_refl _)
  clear EA
  have EA := EA'
  clear EA'
  have SX' := SX.below bel17 (Nat.le_refl _)
  clear SX
  have SX := SX'
  clear SX'
  have P0 : SAt (w16.alloc (.cells #[.int .i64 0] 3)) (.slice (some ⟨w16.heap.size, 0, none⟩) 1 1) (ints [0]) := SAt.lit _ _ _ _ _ _ (by simp) rfl rfl
  have cc' := chain cc bel17
  clear cc bel17
  have cc := cc'
  clear cc'
  have bel18 : Below (w16.alloc (.cells #[.int .i64 0] 3)).heap.size (w16.alloc (.cells #[.int .i64 0] 3)) ((w16.alloc (.cells #[.int .i64 0] 3)).alloc (.cells #[.int .i64 1, .int .i64 2] 3)) := Below.new1 _
  have EA' := EA.below bel18 (Nat.le_refl _)
  clear EA
  have EA := EA'
  clear EA'
  have SX' := SX.below bel18 (Nat.le_refl _)
  clear SX
  have SX := SX'
  clear SX'
  have P0' := P0.below bel18 (Nat.le_refl _)
  clear P0
  have P0 := P0'
  clear P0'
  have P1 : SAt ((w16.alloc (.cells #[.int .i64 0] 3)).alloc (.cells #[.int .i64 1, .int .i64 2] 3)) (.slice (some ⟨w16.heap.size + 1, 0, none⟩) 2 2) (ints [1, 2]) := SAt.lit _ _ _ _ _ _ (by simp) rfl rfl
  have cc' := chain cc bel18
  clear cc bel18
  have cc := cc'
  clear cc'
  have bel19 : Below ((w16.alloc (.cells #[.int .i64 0] 3)).alloc (.cells #[.int .i64 1, .int .i64 2] 3)).heap.size ((w16.alloc (.cells #[.int .i64 0] 3)).alloc (.cells #[.int .i64 1, .int .i64 2] 3)) (((w16.alloc (.cells #[.int .i64 0] 3)).alloc (.cells #[.int .i64 1, .int .i64 2] 3)).alloc (.cells #[.int .i64 3] 3)) := Below.new1 _
  have EA' := EA.below bel19 (Nat.le_refl _)
  clear EA
  have EA := EA'
  clear EA'
  have SX' := SX.below bel19 (Nat.le_refl _)
  clear SX
  have SX := SX'
  clear SX'
  have P0' := P0.below bel19 (Nat.le_refl _)
  clear P0
  have P0 := P0'
  clear P0'
  have P1' := P1.below bel19 (Nat.le_refl _)
  clear P1
  have P1 := P1'
  clear P1'
  have P2 : SAt (((w16.alloc (.cells #[.int .i64 0] 3)).alloc (.cells #[.int .i64 1, .int .i64 2] 3)).alloc (.cells #[.int .i64 3] 3)) (.slice (some ⟨w16.heap.size + 1 + 1, 0, none⟩) 1 1) (ints [3]) := SAt.lit _ _ _ _ _ _ (by simp) rfl rfl
  have cc' := chain cc bel19
  clear cc bel19
  have cc := cc'
  clear cc'
  have bel20 : Below (((w16.alloc (.cells #[.int .i64 0] 3)).alloc (.cells #[.int .i64 1, .int .i64 2] 3)).alloc (.cells #[.int .i64 3] 3)).heap.size (((w16.alloc (.cells #[.int .i64 0] 3)).alloc (.cells #[.int .i64 1, .int .i64 2] 3)).alloc (.cells #[.int .i64 3] 3)) ((((w16.alloc (.cells #[.int .i64 0] 3)).alloc (.cells #[.int .i64 1, .int .i64 2] 3)).alloc (.cells #[.int .i64 3] 3)).alloc (.cells #[.int .i64 4] 3)) := Below.new1 _
  have EA' := EA.below bel20 (Nat.le_refl _)
  clear EA
  have EA := EA'
  clear EA'
  have SX' := SX.below bel20 (Nat.le_refl _)
  clear SX
  have SX := SX'
  clear SX'
  have P0' := P0.below bel20 (Nat.le_refl _)
  clear P0
  have P0 := P0'
  clear P0'
  have P1' := P1.below bel20 (Nat.le_refl _)
  clear P1
  have P1 := P1'
  clear P1'
  have P2' := P2.below bel20 (Nat.le_refl _)
  clear P2
  have P2 := P2'
  clear P2'
  have P3 : SAt ((((w16.alloc (.cells #[.int .i64 0] 3)).alloc (.cells #[.int .i64 1, .int .i64 2] 3)).alloc (.cells #[.int .i64 3] 3)).alloc (.cells #[.int .i64 4] 3)) (.slice (some ⟨w16.heap.size + 1 + 1 + 1, 0, none⟩) 1 1) (ints [4]) := SAt.lit _ _ _ _ _ _ (by simp) rfl rfl
  have cc' := chain cc bel20
  clear cc bel20
  have cc := cc'
  clear cc'
  skip
  have bel21 : Below ((((w16.alloc (.cells #[.int .i64 0] 3)).alloc (.cells #[.int .i64 1, .int .i64 2] 3)).alloc (.cells #[.int .i64 3] 3)).alloc (.cells #[.int .i64 4] 3)).heap.size ((((w16.alloc (.cells #[.int .i64 0] 3)).alloc (.cells #[.int .i64 1, .int .i64 2] 3)).alloc (.cells #[.int .i64 3] 3)).alloc (.cells #[.int .i64 4] 3)) (((((w16.alloc (.cells #[.int .i64 0] 3)).alloc (.cells #[.int .i64 1, .int .i64 2] 3)).alloc (.cells #[.int .i64 3] 3)).alloc (.cells #[.int .i64 4] 3)).alloc (.cells #[.slice (some ⟨w16.heap.size, 0, none⟩) 1 1, .slice (some ⟨w16.heap.size + 1, 0, none⟩) 2 2, .slice (some ⟨w16.heap.size + 1 + 1, 0, none⟩) 1 1, .slice (some ⟨w16.heap.size + 1 + 1 + 1, 0, none⟩) 1 1] 25)) := Below.new1 _
  have EA' := EA.below bel21 (Nat.le_refl _)
  clear EA
  have EA := EA'
  clear EA'
  have SX' := SX.below bel21 (Nat.le_refl _)
  clear SX
  have SX := SX'
  clear SX'
  have P0' := P0.below bel21 (Nat.le_refl _)
  clear P0
  have P0 := P0'
  clear P0'
  have P1' := P1.below bel21 (Nat.le_refl _)
  clear P1
  have P1 := P1'
  clear P1'
  have P2' := P2.below bel21 (Nat.le_refl _)
  clear P2
  have P2 := P2'
  clear P2'
  have P3' := P3.below bel21 (Nat.le_refl _)
  clear P3
  have P3 := P3'
  clear P3'
  have LV : SAt (((((w16.alloc (.cells #[.int .i64 0] 3)).alloc (.cells #[.int .i64 1, .int .i64 2] 3)).alloc (.cells #[.int .i64 3] 3)).alloc (.cells #[.int .i64 4] 3)).alloc (.cells #[.slice (some ⟨w16.heap.size, 0, none⟩) 1 1, .slice (some ⟨w16.heap.size + 1, 0, none⟩) 2 2, .slice (some ⟨w16.heap.size + 1 + 1, 0, none⟩) 1 1, .slice (some ⟨w16.heap.size + 1 + 1 + 1, 0, none⟩) 1 1] 25)) (.slice (some ⟨w16.heap.size + 1 + 1 + 1 + 1, 0, none⟩) 4 4) [.slice (some ⟨w16.heap.size, 0, none⟩) 1 1, .slice (some ⟨w16.heap.size + 1, 0, none⟩) 2 2, .slice (some ⟨w16.heap.size + 1 + 1, 0, none⟩) 1 1, .slice (some ⟨w16.heap.size + 1 + 1 + 1, 0, none⟩) 1 1] := SAt.lit _ _ _ _ _ _ (by simp) rfl rfl
  have cc' := chain cc bel21
  clear cc bel21
  have cc := cc'
  clear cc'
  have LL := lat4 LV P0 P1 P2 P3
  clear LV P0 P1 P2 P3
  go_wp2_with fail
  refine (SameLists_x _ _ [[0], [1, 2], [3], [4]] [[0], [1, 2], [3], [4]] _ SX LL (by decide) (by decide)).mono ?_
  rintro r w22 ⟨rfl, q, hq⟩
  have bb : Below (((((w16.alloc (.cells #[.int .i64 0] 3)).alloc (.cells #[.int .i64 1, .int .i64 2] 3)).alloc (.cells #[.int .i64 3] 3)).alloc (.cells #[.int .i64 4] 3)).alloc (.cells #[.slice (some ⟨w16.heap.size, 0, none⟩) 1 1, .slice (some ⟨w16.heap.size + 1, 0, none⟩) 2 2, .slice (some ⟨w16.heap.size + 1 + 1, 0, none⟩) 1 1, .slice (some ⟨w16.heap.size + 1 + 1 + 1, 0, none⟩) 1 1] 25)).heap.size (((((w16.alloc (.cells #[.int .i64 0] 3)).alloc (.cells #[.int .i64 1, .int .i64 2] 3)).alloc (.cells #[.int .i64 3] 3)).alloc (.cells #[.int .i64 4] 3)).alloc (.cells #[.slice (some ⟨w16.heap.size, 0, none⟩) 1 1, .slice (some ⟨w16.heap.size + 1, 0, none⟩) 2 2, .slice (some ⟨w16.heap.size + 1 + 1, 0, none⟩) 1 1, .slice (some ⟨w16.heap.size + 1 + 1 + 1, 0, none⟩) 1 1] 25)) w22 := by rw [hq]; exact below_drewN (Below.refl _ _) q
  clear hq q
  rw [decide_eq_true (by rfl)]
  have EA' := EA.below bb (Nat.le_refl _)
  clear EA
  have EA := EA'
  clear EA'
  have SX' := SX.below bb (Nat.le_refl _)
  clear SX
  have SX := SX'
  clear SX'
  have LL' := LL.below bb (Nat.le_refl _)
  clear LL
  have LL := LL'
  clear LL'
  have cc' := chain cc bb
  clear cc bb
  have cc := cc'
  clear cc'
  clear SX LL
  go_wp2_with fail
  refine (h.reach _ 5 eA 5 _ EA (by decide) (okA eA (by decide)) (small_I64 (by omega) (by omega)) (small_I64 (by omega) (by omega))).mono ?_
  rintro r w23 ⟨x7, rfl, SX, bb⟩
  rw [ex_reach5] at SX
  obtain ⟨a7, c7, rfl, -, -⟩ := SX
  have EA' := EA.below bb (Nat.le_refl _)
  clear EA
  have EA := EA'
  clear EA'
  have cc' := chain cc bb
  clear cc bb
  have cc := cc'
  clear cc'
  clear EA
  go_wp2_with fail
  go_ret
  exact ⟨by try rfl, cc⟩

end Go.Proofs.Ytndcbhgdlaemaaa
