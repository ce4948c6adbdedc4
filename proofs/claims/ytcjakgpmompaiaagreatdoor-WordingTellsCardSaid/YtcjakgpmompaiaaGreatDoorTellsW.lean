/-
  WordingTells: the walk.
-/
import Derived.Test.YtcjakgpmompaiaaGreatDoorLwA
import Derived.Test.YtcjakgpmompaiaaGreatDoorRrI
import Derived.Test.YtcjakgpmompaiaaGreatDoorTlO
namespace Go.Proofs.YtcjakgpmompaiaaGreatDoor
open Go.RowKit Rl Wd

theorem swap_region {P : Program} {n : Nat} {q : Bool} {ops ops' : Array Oper} {Q : Exit → Act → World → Prop} {a : Act} {w : World} (h : ops = ops') (g : Code.wp P (Code.region n ops' q) Q a w) : Code.wp P (Code.region n ops q) Q a w := h ▸ g
set_option maxHeartbeats 40000000 in
set_option maxRecDepth 100000 in
theorem tells_6 {a0 a1 a2 a3 a4 a5 a6 a7 : Option Addr} {c0 c1 c2 c3 c4 c5 c6 c7 : Nat} {R : Rlm} {b x : Bl} {part p e : Int} {text other : B} {gy gz : Nat} {u0 u1 u7 u8 u9 u10 u18 u19 u20 u21 u22 u23 u24 u25 u26 u27 u28 u29 u30 u31 u32 u33 u34 u35 u36 u37 u38 u39 u40 u41 u42 u43 u44 u45 u46 u47 u48 u49 u50 u51 u52 u53 u54 u55 u56 u57 u58 u59 u60 u61 u62 u63 u64 u65 u66 u67 u68 u69 u70 u71 u72 u73 u74 u75 u76 u77 u78 u79 u80 u81 u82 u83 u84 u85 u86 u87 u88 u89 : Value} (w : World) {WW : World} {K : Act → World → Prop} (HRS : Hid (RS w a0 a1 a2 a3 a4 a5 a6 a7 c0 c1 c2 c3 c4 c5 c6 c7 R)) (HFT : Hid (Fit R)) (HE : Hid (Ev w)) (zt : text.size ≤ 1000) (g1 : ¬ 1000 < other.size) (B9 : Hid (Below w.heap.size w WW)) (RB9 : Hid (RB WW w.heap.size a0 a1 a2 a3 a4 a5 a6 a7 c0 c1 c2 c3 c4 c5 c6 c7 R)) (X9 : Hid (BB WW (w.heap.size + 1) b)) (Y9 : Hid (BB WW gy x)) (Z9 : Hid (BB WW gz x)) (hK : ∀ (a : Act) (wy : World), Code.wp Tryz.prog Code.ret (bodyPost Tryz.prog Tryz.f3 fun r w' => r = .returned (.bool true) ∧ Below w.heap.size w w') a wy → K a wy) :
    Code.wp Tryz.prog (Code.region 6 tlOps true) (Exit.then K (bodyPost Tryz.prog Tryz.f3 fun r w' => r = .returned (.bool true) ∧ Below w.heap.size w w')) { tmps := #[u0, u1, .int .i64 part, .string text, .string other, .pointer (some ⟨w.heap.size, 0, none⟩), .pointer (some ⟨w.heap.size + 1, 0, none⟩), u7, u8, u9, u10, .bool true, .pointer (some ⟨gy, 0, none⟩), .int .i64 p, .int .i64 e, .pointer (some ⟨gz, 0, none⟩), .int .i64 p, .int .i64 e, u18, u19, u20, u21, u22, u23, u24, u25, u26, u27, u28, u29, u30, u31, u32, u33, u34, u35, u36, u37, u38, u39, u40, u41, u42, u43, u44, u45, u46, u47, u48, u49, u50, u51, u52, u53, u54, u55, u56, u57, u58, u59, u60, u61, u62, u63, u64, u65, u66, u67, u68, u69, u70, u71, u72, u73, u74, u75, u76, u77, u78, u79, u80, u81, u82, u83, u84, u85, u86, u87, u88, u89], defers := [] } WW := by
  have D0 : Hid (Below WW.heap.size WW WW.drew) := (Below.refl _ _).drew
  refine wp_region_held_drew (S := Below WW.heap.size WW) (by kernel_rfl) ?_ (fun hHeld => ?_)
  · exact D0.out
  refine wpAnyH_take (v := ?_) tl_0 tl_none (by kernel_rfl) (by kernel_rfl) (fun _ _ _ h => h) (Or.inl ⟨by rfl, ?_⟩) (by assumption) ?_
  rotate_left
  · intro wz hSw
    clear hSw
    go_simp
    try with_reducible rfl
  try simp only [Act.put, lyA, lyB, lyC]
  refine wpAnyH_take (v := ?_) tl_1 tl_none (by kernel_rfl) (by kernel_rfl) (fun _ _ _ h => h) (Or.inl ⟨by rfl, ?_⟩) (by assumption) ?_
  rotate_left
  · intro wz hSw
    clear hSw
    go_simp
    try with_reducible rfl
  try simp only [Act.put, lyA, lyB, lyC]
  refine wpAnyH_take (v := ?_) tl_2 tl_none (by kernel_rfl) (by kernel_rfl) (fun _ _ _ h => h) (Or.inl ⟨by rfl, ?_⟩) (by assumption) ?_
  rotate_left
  · intro wz hSw
    have kz := RB9.out.next hSw
    obtain ⟨k0, k1, k2, k3, k4, k5, k6, k7⟩ := kz
    clear hSw
    go_simp
    try with_reducible rfl
  try simp only [Act.put, lyA, lyB, lyC]
  refine wpAnyH_take (v := ?_) tl_3 tl_none (by kernel_rfl) (by kernel_rfl) (fun _ _ _ h => h) (Or.inl ⟨by rfl, ?_⟩) (by assumption) ?_
  rotate_left
  · intro wz hSw
    have xz := X9.out.next hSw
    obtain ⟨x0, x1, x2, x3, x4, x5, x6, x7, x8, x9, x10, x11, x12, x13, x14⟩ := xz.all
    clear xz
    clear hSw
    go_simp
    try with_reducible rfl
  try simp only [Act.put, lyA, lyB, lyC]
  refine wpAnyH_take (v := ?_) tl_5 tl_none (by kernel_rfl) (by kernel_rfl) (fun _ _ _ h => h) (Or.inl ⟨by rfl, ?_⟩) (by assumption) ?_
  rotate_left
  · intro wz hSw
    have kz := RB9.out.next hSw
    obtain ⟨k0, k1, k2, k3, k4, k5, k6, k7⟩ := kz
    clear hSw
    go_simp
    try with_reducible rfl
  try simp only [Act.put, lyA, lyB, lyC]
  refine wpAnyH_take (v := ?_) tl_6 tl_none (by kernel_rfl) (by kernel_rfl) (fun _ _ _ h => h) (Or.inl ⟨by rfl, ?_⟩) (by assumption) ?_
  rotate_left
  · intro wz hSw
    have xz := X9.out.next hSw
    obtain ⟨x0, x1, x2, x3, x4, x5, x6, x7, x8, x9, x10, x11, x12, x13, x14⟩ := xz.all
    clear xz
    clear hSw
    go_simp
    try with_reducible rfl
  try simp only [Act.put, lyA, lyB, lyC]
  refine wpAnyH_ready (rs := [4]) (by kernel_rfl) (by simp) (AllReadyH.cons tl_4 (fun K hK => ?_) AllReadyH.nil)
  rw [if_pos (by rfl)]
  go_simp
  (go_at_call 12; refine (WCheck_x b _ (HRS.out.next (chain B9.out D0.out)) HFT.out).mono ?_; rintro r v1 ⟨rfl, cc⟩)
  try go_wp2_with fail
  have D1 : Hid (Below WW.heap.size WW v1) := (chain D0.out cc)
  clear cc
  obtain ⟨ec, hec⟩ : ∃ e : Int, e = checkW R b := ⟨_, rfl⟩
  rw [← hec]
  refine hK.out _ _ ?_ (fun hHeld => ?_)
  · exact D1.out
  clear hK K
  try simp only [Act.put, lyA, lyB, lyC]
  refine wpAnyH_ready (rs := [7]) (by kernel_rfl) (by simp) (AllReadyH.cons tl_7 (fun K hK => ?_) AllReadyH.nil)
  rw [if_pos (by rfl)]
  go_simp
  (go_at_call 13; refine (RCheck_x b _ (HRS.out.next (chain B9.out D1.out)) HFT.out).mono ?_; rintro r v2 ⟨rfl, cc⟩)
  try go_wp2_with fail
  have D2 : Hid (Below WW.heap.size WW v2) := (chain D1.out cc)
  clear cc
  rw [← hec]
  clear hec
  refine hK.out _ _ ?_ (fun hHeld => ?_)
  · exact D2.out
  clear hK K
  try simp only [Act.put, lyA, lyB, lyC]
  as_aux_lemma =>
  refine wpAnyH_take (v := ?_) tl_8 tl_none (by kernel_rfl) (by kernel_rfl) (fun _ _ _ h => h) (Or.inl ⟨by rfl, ?_⟩) (by assumption) ?_
  rotate_left
  · intro wz hSw
    clear hSw
    go_simp
    try with_reducible rfl
  try simp only [Act.put, lyA, lyB, lyC]
  refine wpAnyH_take (v := ?_) tl_9 tl_none (by kernel_rfl) (by kernel_rfl) (fun _ _ _ h => h) (Or.inl ⟨by rfl, ?_⟩) (by assumption) ?_
  rotate_left
  · intro wz hSw
    clear hSw
    go_simp
    try with_reducible rfl
  try simp only [Act.put, lyA, lyB, lyC]
  refine wpAnyH_take (v := ?_) tl_10 tl_none (by kernel_rfl) (by kernel_rfl) (fun _ _ _ h => h) (Or.inl ⟨by rfl, ?_⟩) (by assumption) ?_
  rotate_left
  · intro wz hSw
    clear hSw
    go_simp
    try with_reducible rfl
  try simp only [Act.put, lyA, lyB, lyC]
  refine wpAnyH_take (v := ?_) tl_11 tl_none (by kernel_rfl) (by kernel_rfl) (fun _ _ _ h => h) (Or.inl ⟨by rfl, ?_⟩) (by assumption) ?_
  rotate_left
  · intro wz hSw
    have kz := RB9.out.next hSw
    obtain ⟨k0, k1, k2, k3, k4, k5, k6, k7⟩ := kz
    clear hSw
    go_simp
    try with_reducible rfl
  try simp only [Act.put, lyA, lyB, lyC]
  refine wpAnyH_take (v := ?_) tl_12 tl_none (by kernel_rfl) (by kernel_rfl) (fun _ _ _ h => h) (Or.inl ⟨by rfl, ?_⟩) (by assumption) ?_
  rotate_left
  · intro wz hSw
    have xz := X9.out.next hSw
    obtain ⟨x0, x1, x2, x3, x4, x5, x6, x7, x8, x9, x10, x11, x12, x13, x14⟩ := xz.all
    clear xz
    clear hSw
    go_simp
    try with_reducible rfl
  try simp only [Act.put, lyA, lyB, lyC]
  refine wpAnyH_take (v := ?_) tl_13 tl_none (by kernel_rfl) (by kernel_rfl) (fun _ _ _ h => h) (Or.inl ⟨by rfl, ?_⟩) (by assumption) ?_
  rotate_left
  · intro wz hSw
    clear hSw
    go_simp
    try with_reducible rfl
  try simp only [Act.put, lyA, lyB, lyC]
  refine wpAnyH_take (v := ?_) tl_15 tl_none (by kernel_rfl) (by kernel_rfl) (fun _ _ _ h => h) (Or.inl ⟨by rfl, ?_⟩) (by assumption) ?_
  rotate_left
  · intro wz hSw
    have kz := RB9.out.next hSw
    obtain ⟨k0, k1, k2, k3, k4, k5, k6, k7⟩ := kz
    clear hSw
    go_simp
    try with_reducible rfl
  try simp only [Act.put, lyA, lyB, lyC]
  refine wpAnyH_take (v := ?_) tl_16 tl_none (by kernel_rfl) (by kernel_rfl) (fun _ _ _ h => h) (Or.inl ⟨by rfl, ?_⟩) (by assumption) ?_
  rotate_left
  · intro wz hSw
    have xz := X9.out.next hSw
    obtain ⟨x0, x1, x2, x3, x4, x5, x6, x7, x8, x9, x10, x11, x12, x13, x14⟩ := xz.all
    clear xz
    clear hSw
    go_simp
    try with_reducible rfl
  try simp only [Act.put, lyA, lyB, lyC]
  refine wpAnyH_take (v := ?_) tl_17 tl_none (by kernel_rfl) (by kernel_rfl) (fun _ _ _ h => h) (Or.inl ⟨by rfl, ?_⟩) (by assumption) ?_
  rotate_left
  · intro wz hSw
    clear hSw
    go_simp
    try with_reducible rfl
  try simp only [Act.put, lyA, lyB, lyC]
  refine wpAnyH_ready (rs := [14]) (by kernel_rfl) (by simp) (AllReadyH.cons tl_14 (fun K hK => ?_) AllReadyH.nil)
  rw [if_pos (by rfl)]
  go_simp
  (go_at_call 14; refine (WText_x b part _ (HRS.out.next (chain B9.out D2.out)) HFT.out (HE.out.next (chain B9.out D2.out))).mono ?_; rintro r v3 ⟨rfl, cc⟩)
  try go_wp2_with fail
  have D3 : Hid (Below WW.heap.size WW v3) := (chain D2.out cc)
  clear cc
  obtain ⟨tx, htx⟩ : ∃ s : B, s = textP R b part := ⟨_, rfl⟩
  rw [← htx]
  refine hK.out _ _ ?_ (fun hHeld => ?_)
  · exact D3.out
  clear hK K
  try simp only [Act.put, lyA, lyB, lyC]
  refine wpAnyH_ready (rs := [18]) (by kernel_rfl) (by simp) (AllReadyH.cons tl_18 (fun K hK => ?_) AllReadyH.nil)
  rw [if_pos (by rfl)]
  go_simp
  (go_at_call 15; refine (RText_x b part _ (HRS.out.next (chain B9.out D3.out)) HFT.out).mono ?_; rintro r v4 ⟨rfl, cc⟩)
  try go_wp2_with fail
  have D4 : Hid (Below WW.heap.size WW v4) := (chain D3.out cc)
  clear cc
  rw [← htx]
  clear htx
  refine hK.out _ _ ?_ (fun hHeld => ?_)
  · exact D4.out
  clear hK K
  try simp only [Act.put, lyA, lyB, lyC]
  as_aux_lemma =>
  refine wpAnyH_take (v := ?_) tl_19 tl_none (by kernel_rfl) (by kernel_rfl) (fun _ _ _ h => h) (Or.inl ⟨by rfl, ?_⟩) (by assumption) ?_
  rotate_left
  · intro wz hSw
    clear hSw
    go_simp
    try with_reducible rfl
  try simp only [Act.put, lyA, lyB, lyC]
  refine wpAnyH_take (v := ?_) tl_20 tl_none (by kernel_rfl) (by kernel_rfl) (fun _ _ _ h => h) (Or.inl ⟨by rfl, ?_⟩) (by assumption) ?_
  rotate_left
  · intro wz hSw
    clear hSw
    go_simp
    try with_reducible rfl
  try simp only [Act.put, lyA, lyB, lyC]
  refine wpAnyH_take (v := ?_) tl_21 tl_none (by kernel_rfl) (by kernel_rfl) (fun _ _ _ h => h) (Or.inl ⟨by rfl, ?_⟩) (by assumption) ?_
  rotate_left
  · intro wz hSw
    clear hSw
    go_simp
    try with_reducible rfl
  try simp only [Act.put, lyA, lyB, lyC]
  refine wpAnyH_take (v := ?_) tl_22 tl_none (by kernel_rfl) (by kernel_rfl) (fun _ _ _ h => h) (Or.inl ⟨by rfl, ?_⟩) (by assumption) ?_
  rotate_left
  · intro wz hSw
    have xz := Y9.out.next hSw
    obtain ⟨y0, y1, y2, y3, y4, y5, y6, y7, y8, y9, y10, y11, y12, y13, y14⟩ := xz.all
    clear xz
    clear hSw
    go_simp
    try with_reducible rfl
  try simp only [Act.put, lyA, lyB, lyC]
  refine wpAnyH_take (v := ?_) tl_23 tl_none (by kernel_rfl) (by kernel_rfl) (fun _ _ _ h => h) (Or.inl ⟨by rfl, ?_⟩) (by assumption) ?_
  rotate_left
  · intro wz hSw
    have xz := Z9.out.next hSw
    obtain ⟨z0, z1, z2, z3, z4, z5, z6, z7, z8, z9, z10, z11, z12, z13, z14⟩ := xz.all
    clear xz
    clear hSw
    go_simp
    try with_reducible rfl
  try simp only [Act.put, lyA, lyB, lyC]
  as_aux_lemma =>
  refine wpAnyH_take (v := ?_) tl_24 tl_none (by kernel_rfl) (by kernel_rfl) (fun _ _ _ h => h) (Or.inl ⟨by rfl, ?_⟩) (by assumption) ?_
  rotate_left
  · intro wz hSw
    clear hSw
    go_simp
    try with_reducible rfl
  try simp only [Act.put, lyA, lyB, lyC]
  refine wpAnyH_take (v := ?_) tl_25 tl_none (by kernel_rfl) (by kernel_rfl) (fun _ _ _ h => h) (Or.inl ⟨by rfl, ?_⟩) (by assumption) ?_
  rotate_left
  · intro wz hSw
    clear hSw
    go_simp
    try with_reducible rfl
  try simp only [Act.put, lyA, lyB, lyC]
  refine wpAnyH_take (v := ?_) tl_26 tl_none (by kernel_rfl) (by kernel_rfl) (fun _ _ _ h => h) (Or.inl ⟨by rfl, ?_⟩) (by assumption) ?_
  rotate_left
  · intro wz hSw
    clear hSw
    go_simp
    try with_reducible rfl
  try simp only [Act.put, lyA, lyB, lyC]
  refine wpAnyH_take (v := ?_) tl_27 tl_none (by kernel_rfl) (by kernel_rfl) (fun _ _ _ h => h) (Or.inl ⟨by rfl, ?_⟩) (by assumption) ?_
  rotate_left
  · intro wz hSw
    clear hSw
    go_simp
    try with_reducible rfl
  try simp only [Act.put, lyA, lyB, lyC]
  refine wpAnyH_take (v := ?_) tl_28 tl_none (by kernel_rfl) (by kernel_rfl) (fun _ _ _ h => h) (Or.inl ⟨by rfl, ?_⟩) (by assumption) ?_
  rotate_left
  · intro wz hSw
    clear hSw
    go_simp
    try with_reducible rfl
  try simp only [Act.put, lyA, lyB, lyC]
  refine wpAnyH_take (v := ?_) tl_29 tl_none (by kernel_rfl) (by kernel_rfl) (fun _ _ _ h => h) (Or.inl ⟨by rfl, ?_⟩) (by assumption) ?_
  rotate_left
  · intro wz hSw
    clear hSw
    go_simp
    try with_reducible rfl
  try simp only [Act.put, lyA, lyB, lyC]
  refine wpAnyH_take (v := ?_) tl_30 tl_none (by kernel_rfl) (by kernel_rfl) (fun _ _ _ h => h) (Or.inl ⟨by rfl, ?_⟩) (by assumption) ?_
  rotate_left
  · intro wz hSw
    clear hSw
    go_simp
    try with_reducible rfl
  try simp only [Act.put, lyA, lyB, lyC]
  as_aux_lemma =>
  refine wpAnyH_take (v := ?_) tl_31 tl_none (by kernel_rfl) (by kernel_rfl) (fun _ _ _ h => h) (Or.inl ⟨by rfl, ?_⟩) (by assumption) ?_
  rotate_left
  · intro wz hSw
    clear hSw
    go_simp
    try with_reducible rfl
  try simp only [Act.put, lyA, lyB, lyC]
  refine wpAnyH_take (v := ?_) tl_32 tl_none (by kernel_rfl) (by kernel_rfl) (fun _ _ _ h => h) (Or.inl ⟨by rfl, ?_⟩) (by assumption) ?_
  rotate_left
  · intro wz hSw
    clear hSw
    go_simp
    try with_reducible rfl
  try simp only [Act.put, lyA, lyB, lyC]
  refine wpAnyH_take (v := ?_) tl_33 tl_none (by kernel_rfl) (by kernel_rfl) (fun _ _ _ h => h) (Or.inl ⟨by rfl, ?_⟩) (by assumption) ?_
  rotate_left
  · intro wz hSw
    clear hSw
    go_simp
    try with_reducible rfl
  try simp only [Act.put, lyA, lyB, lyC]
  refine wpAnyH_take (v := ?_) tl_34 tl_none (by kernel_rfl) (by kernel_rfl) (fun _ _ _ h => h) (Or.inl ⟨by rfl, ?_⟩) (by assumption) ?_
  rotate_left
  · intro wz hSw
    clear hSw
    go_simp
    try with_reducible rfl
  try simp only [Act.put, lyA, lyB, lyC]
  refine wpAnyH_take (v := ?_) tl_35 tl_none (by kernel_rfl) (by kernel_rfl) (fun _ _ _ h => h) (Or.inl ⟨by rfl, ?_⟩) (by assumption) ?_
  rotate_left
  · intro wz hSw
    clear hSw
    go_simp
    try with_reducible rfl
  try simp only [Act.put, lyA, lyB, lyC]
  refine wpAnyH_take (v := ?_) tl_36 tl_none (by kernel_rfl) (by kernel_rfl) (fun _ _ _ h => h) (Or.inl ⟨by rfl, ?_⟩) (by assumption) ?_
  rotate_left
  · intro wz hSw
    clear hSw
    go_simp
    try with_reducible rfl
  try simp only [Act.put, lyA, lyB, lyC]
  as_aux_lemma =>
  refine wpAnyH_take (v := ?_) tl_37 tl_none (by kernel_rfl) (by kernel_rfl) (fun _ _ _ h => h) (Or.inl ⟨by rfl, ?_⟩) (by assumption) ?_
  rotate_left
  · intro wz hSw
    have kz := RB9.out.next hSw
    obtain ⟨k0, k1, k2, k3, k4, k5, k6, k7⟩ := kz
    clear hSw
    go_simp
    try with_reducible rfl
  try simp only [Act.put, lyA, lyB, lyC]
  refine wpAnyH_take (v := ?_) tl_38 tl_none (by kernel_rfl) (by kernel_rfl) (fun _ _ _ h => h) (Or.inl ⟨by rfl, ?_⟩) (by assumption) ?_
  rotate_left
  · intro wz hSw
    clear hSw
    go_simp
    try with_reducible rfl
  try simp only [Act.put, lyA, lyB, lyC]
  refine wpAnyH_take (v := ?_) tl_39 tl_none (by kernel_rfl) (by kernel_rfl) (fun _ _ _ h => h) (Or.inl ⟨by rfl, ?_⟩) (by assumption) ?_
  rotate_left
  · intro wz hSw
    clear hSw
    go_simp
    try with_reducible rfl
  try simp only [Act.put, lyA, lyB, lyC]
  refine wpAnyH_take (v := ?_) tl_41 tl_none (by kernel_rfl) (by kernel_rfl) (fun _ _ _ h => h) (Or.inl ⟨by rfl, ?_⟩) (by assumption) ?_
  rotate_left
  · intro wz hSw
    have kz := RB9.out.next hSw
    obtain ⟨k0, k1, k2, k3, k4, k5, k6, k7⟩ := kz
    clear hSw
    go_simp
    try with_reducible rfl
  try simp only [Act.put, lyA, lyB, lyC]
  refine wpAnyH_take (v := ?_) tl_42 tl_none (by kernel_rfl) (by kernel_rfl) (fun _ _ _ h => h) (Or.inl ⟨by rfl, ?_⟩) (by assumption) ?_
  rotate_left
  · intro wz hSw
    clear hSw
    go_simp
    try with_reducible rfl
  try simp only [Act.put, lyA, lyB, lyC]
  as_aux_lemma =>
  refine wpAnyH_take (v := ?_) tl_43 tl_none (by kernel_rfl) (by kernel_rfl) (fun _ _ _ h => h) (Or.inl ⟨by rfl, ?_⟩) (by assumption) ?_
  rotate_left
  · intro wz hSw
    clear hSw
    go_simp
    try with_reducible rfl
  try simp only [Act.put, lyA, lyB, lyC]
  refine wpAnyH_ready (rs := [40]) (by kernel_rfl) (by simp) (AllReadyH.cons tl_40 (fun K hK => ?_) AllReadyH.nil)
  rw [if_pos (by rfl)]
  go_simp
  (go_at_call 16; refine (Alike_x text other _ (HRS.out.next (chain B9.out D4.out)) HFT.out (HE.out.next (chain B9.out D4.out)) (by omega) (by omega)).mono ?_; rintro r v5 ⟨rfl, cc⟩)
  try go_wp2_with fail
  have D5 : Hid (Below WW.heap.size WW v5) := (chain D4.out cc)
  clear cc
  obtain ⟨q, hq⟩ : ∃ s : Bool, s = alikeP R text other := ⟨_, rfl⟩
  rw [← hq]
  refine hK.out _ _ ?_ (fun hHeld => ?_)
  · exact D5.out
  clear hK K
  try simp only [Act.put, lyA, lyB, lyC]
  refine wpAnyH_ready (rs := [44]) (by kernel_rfl) (by simp) (AllReadyH.cons tl_44 (fun K hK => ?_) AllReadyH.nil)
  rw [if_pos (by rfl)]
  go_simp
  (go_at_call 17; refine (RAlike_x text other _ (HRS.out.next (chain B9.out D5.out)) HFT.out (by omega) (by omega)).mono ?_; rintro r v6 ⟨rfl, cc⟩)
  try go_wp2_with fail
  have D6 : Hid (Below WW.heap.size WW v6) := (chain D5.out cc)
  clear cc
  rw [← hq]
  clear hq
  refine hK.out _ _ ?_ (fun hHeld => ?_)
  · exact D6.out
  clear hK K
  try simp only [Act.put, lyA, lyB, lyC]
  refine wpAnyH_take (v := ?_) tl_45 tl_none (by kernel_rfl) (by kernel_rfl) (fun _ _ _ h => h) (Or.inl ⟨by rfl, ?_⟩) (by assumption) ?_
  rotate_left
  · intro wz hSw
    clear hSw
    go_simp
    try with_reducible rfl
  try simp only [Act.put, lyA, lyB, lyC]
  refine wpAnyH_take (v := ?_) tl_46 tl_none (by kernel_rfl) (by kernel_rfl) (fun _ _ _ h => h) (Or.inl ⟨by rfl, ?_⟩) (by assumption) ?_
  rotate_left
  · intro wz hSw
    clear hSw
    go_simp
    try with_reducible rfl
  try simp only [Act.put, lyA, lyB, lyC]
  refine wpAnyH_take (v := ?_) tl_47 tl_none (by kernel_rfl) (by kernel_rfl) (fun _ _ _ h => h) (Or.inl ⟨by rfl, ?_⟩) (by assumption) ?_
  rotate_left
  · intro wz hSw
    clear hSw
    go_simp
    try with_reducible rfl
  try simp only [Act.put, lyA, lyB, lyC]
  refine wpAnyH_done (by kernel_rfl) ?_ _
  refine hK _ _ ?_
  go_wp2_with fail
  go_ret
  exact ⟨rfl, chain B9.out D6.out⟩

set_option maxHeartbeats 40000000 in
set_option maxRecDepth 100000 in
theorem WordingTells_x {a0 a1 a2 a3 a4 a5 a6 a7 : Option Addr} {c0 c1 c2 c3 c4 c5 c6 c7 : Nat} {R : Rlm} (hsm : SmallOk) (b : Bl) (part : Int) (text other : B) (w : World) (hr : RS w a0 a1 a2 a3 a4 a5 a6 a7 c0 c1 c2 c3 c4 c5 c6 c7 R) (hF : FitW R) (hE : Ev w) :
    Calls Tryz.prog 3 #[.agg #[.slice a0 R.cur.length c0, .slice a1 R.cities.length c1, .slice a2 R.groups.length c2, .slice a3 R.firms.length c3, .slice a4 R.orders.length c4, .slice a5 R.usances.length c5, .slice a6 R.rates.length c6, .slice a7 R.halts.length c7], vB b, .int .i64 part, .string text, .string other] w fun r w' => r = .returned (.bool true) ∧ Below w.heap.size w w' := by
  have HRS := Lib.hid hr
  have HFW := Lib.hid hF
  have HE := Lib.hid hE
  clear hr hF hE
  have B0 : Hid (Below w.heap.size w ((w.alloc (.cells #[.slice a0 R.cur.length c0, .slice a1 R.cities.length c1, .slice a2 R.groups.length c2, .slice a3 R.firms.length c3, .slice a4 R.orders.length c4, .slice a5 R.usances.length c5, .slice a6 R.rates.length c6, .slice a7 R.halts.length c7] 31)).alloc (.cells #[.int .i64 b.drawer, .int .i64 b.drawee, .int .i64 b.payee, .int .i64 b.sum, .int .i64 b.cur, .int .i64 b.tk, .int .i64 b.tn, .int .i64 b.tu, .int .i64 b.day, .int .i64 b.city, .int .i64 b.pay, .int .i64 b.need, .int .i64 b.rate, .int .i64 b.flags, .int .i64 b.parts] 35))) := (chain (Below.new1 (w := w) (.cells #[.slice a0 R.cur.length c0, .slice a1 R.cities.length c1, .slice a2 R.groups.length c2, .slice a3 R.firms.length c3, .slice a4 R.orders.length c4, .slice a5 R.usances.length c5, .slice a6 R.rates.length c6, .slice a7 R.halts.length c7] 31)) (Below.new1 (.cells #[.int .i64 b.drawer, .int .i64 b.drawee, .int .i64 b.payee, .int .i64 b.sum, .int .i64 b.cur, .int .i64 b.tk, .int .i64 b.tn, .int .i64 b.tu, .int .i64 b.day, .int .i64 b.city, .int .i64 b.pay, .int .i64 b.need, .int .i64 b.rate, .int .i64 b.flags, .int .i64 b.parts] 35)))
  have RB0 : Hid (RB ((w.alloc (.cells #[.slice a0 R.cur.length c0, .slice a1 R.cities.length c1, .slice a2 R.groups.length c2, .slice a3 R.firms.length c3, .slice a4 R.orders.length c4, .slice a5 R.usances.length c5, .slice a6 R.rates.length c6, .slice a7 R.halts.length c7] 31)).alloc (.cells #[.int .i64 b.drawer, .int .i64 b.drawee, .int .i64 b.payee, .int .i64 b.sum, .int .i64 b.cur, .int .i64 b.tk, .int .i64 b.tn, .int .i64 b.tu, .int .i64 b.day, .int .i64 b.city, .int .i64 b.pay, .int .i64 b.need, .int .i64 b.rate, .int .i64 b.flags, .int .i64 b.parts] 35)) w.heap.size a0 a1 a2 a3 a4 a5 a6 a7 c0 c1 c2 c3 c4 c5 c6 c7 R) := ((RB.new w a0 a1 a2 a3 a4 a5 a6 a7 c0 c1 c2 c3 c4 c5 c6 c7 R).next (Below.new1 (.cells #[.int .i64 b.drawer, .int .i64 b.drawee, .int .i64 b.payee, .int .i64 b.sum, .int .i64 b.cur, .int .i64 b.tk, .int .i64 b.tn, .int .i64 b.tu, .int .i64 b.day, .int .i64 b.city, .int .i64 b.pay, .int .i64 b.need, .int .i64 b.rate, .int .i64 b.flags, .int .i64 b.parts] 35)))
  have X0 : Hid (BB ((w.alloc (.cells #[.slice a0 R.cur.length c0, .slice a1 R.cities.length c1, .slice a2 R.groups.length c2, .slice a3 R.firms.length c3, .slice a4 R.orders.length c4, .slice a5 R.usances.length c5, .slice a6 R.rates.length c6, .slice a7 R.halts.length c7] 31)).alloc (.cells #[.int .i64 b.drawer, .int .i64 b.drawee, .int .i64 b.payee, .int .i64 b.sum, .int .i64 b.cur, .int .i64 b.tk, .int .i64 b.tn, .int .i64 b.tu, .int .i64 b.day, .int .i64 b.city, .int .i64 b.pay, .int .i64 b.need, .int .i64 b.rate, .int .i64 b.flags, .int .i64 b.parts] 35)) (w.heap.size + 1) b) := (BB.new (w.alloc (.cells #[.slice a0 R.cur.length c0, .slice a1 R.cities.length c1, .slice a2 R.groups.length c2, .slice a3 R.firms.length c3, .slice a4 R.orders.length c4, .slice a5 R.usances.length c5, .slice a6 R.rates.length c6, .slice a7 R.halts.length c7] 31)) b (w.heap.size + 1) (by simp))
  go_enter Tryz.func3, Tryz.ntmps3
  go_wp2_with fail
  refine (hsm _ (HE.out.next B0.out)).mono ?_
  rintro r w1 ⟨rfl, cc⟩
  have B1 := Lib.hid (chain B0.out cc)
  have RB1 := Lib.hid (RB0.out.next cc)
  have X1 := Lib.hid (X0.out.next cc)
  clear cc
  obtain ⟨k0, k1, k2, k3, k4, k5, k6, k7⟩ := RB1.out
  go_wp2_with fail
  clear k0 k1 k2 k3 k4 k5 k6 k7
  refine (few_x text _ (HRS.out.next B1.out) HFW.out).mono ?_
  rintro r w2 ⟨⟨fw, rfl, hfw⟩, cc⟩
  have B2 := Lib.hid (chain B1.out cc)
  have RB2 := Lib.hid (RB1.out.next cc)
  have X2 := Lib.hid (X1.out.next cc)
  clear cc
  cases fw
  case true =>
    have zt : text.size ≤ 1000 := (hfw rfl).2
    have HFT := Lib.hid (hfw rfl).1
    clear hfw
    by_cases hl : 1000 < other.size
    · have g1 : 1000 < other.size := hl
      have g2 : decide (1000 < other.size) = true := decide_eq_true g1
      have g3 : decide ((1000 : Int) < (other.size : Int)) = true := decide_eq_true (by omega)
      have g4 : (1000 : Int) < (other.size : Int) := by omega
      go_wp2_with fail
      go_ret
      exact ⟨rfl, B2.out⟩
    · have g1 : ¬ 1000 < other.size := hl
      have g2 : decide (1000 < other.size) = false := decide_eq_false g1
      have g3 : decide ((1000 : Int) < (other.size : Int)) = false := decide_eq_false (by omega)
      have g4 : ¬ (1000 : Int) < (other.size : Int) := by omega
      clear hl
      obtain ⟨k0, k1, k2, k3, k4, k5, k6, k7⟩ := RB2.out
      go_wp2_with fail
      clear k0 k1 k2 k3 k4 k5 k6 k7
      refine (Parse_x text _ (HRS.out.next B2.out) HFT.out (HE.out.next B2.out) (by omega)).mono ?_
      rintro r w3 ⟨rfl, hu, cc⟩
      have B3 := Lib.hid (chain B2.out cc)
      have RB3 := Lib.hid (RB2.out.next cc)
      have X3 := Lib.hid (X2.out.next cc)
      clear cc
      replace hu := Lib.hid hu
      clear g2 g3 g4
      obtain ⟨x, e, p, hx⟩ : ∃ (x : Bl) (e p : Int), pvB (parseP R text) = .tuple #[vB x, .int .i64 p, .int .i64 e] := by
        cases parseP R text with
        | some y => exact ⟨y.1, 0, y.2, rfl⟩
        | none => exact ⟨_, 9, 0, rfl⟩
      rw [hx]
      have HX := Lib.hid hx
      clear hx
      have B4 := Lib.hid (chain B3.out (Below.new1 (.cells #[.int .i64 x.drawer, .int .i64 x.drawee, .int .i64 x.payee, .int .i64 x.sum, .int .i64 x.cur, .int .i64 x.tk, .int .i64 x.tn, .int .i64 x.tu, .int .i64 x.day, .int .i64 x.city, .int .i64 x.pay, .int .i64 x.need, .int .i64 x.rate, .int .i64 x.flags, .int .i64 x.parts] 35)))
      have RB4 := Lib.hid (RB3.out.next (Below.new1 (.cells #[.int .i64 x.drawer, .int .i64 x.drawee, .int .i64 x.payee, .int .i64 x.sum, .int .i64 x.cur, .int .i64 x.tk, .int .i64 x.tn, .int .i64 x.tu, .int .i64 x.day, .int .i64 x.city, .int .i64 x.pay, .int .i64 x.need, .int .i64 x.rate, .int .i64 x.flags, .int .i64 x.parts] 35)))
      have X4 := Lib.hid (X3.out.next (Below.new1 (.cells #[.int .i64 x.drawer, .int .i64 x.drawee, .int .i64 x.payee, .int .i64 x.sum, .int .i64 x.cur, .int .i64 x.tk, .int .i64 x.tn, .int .i64 x.tu, .int .i64 x.day, .int .i64 x.city, .int .i64 x.pay, .int .i64 x.need, .int .i64 x.rate, .int .i64 x.flags, .int .i64 x.parts] 35)))
      have Y4 : Hid (BB (w3.alloc (.cells #[.int .i64 x.drawer, .int .i64 x.drawee, .int .i64 x.payee, .int .i64 x.sum, .int .i64 x.cur, .int .i64 x.tk, .int .i64 x.tn, .int .i64 x.tu, .int .i64 x.day, .int .i64 x.city, .int .i64 x.pay, .int .i64 x.need, .int .i64 x.rate, .int .i64 x.flags, .int .i64 x.parts] 35)) w3.heap.size x) := heap_alloc_new _ _
      obtain ⟨k0, k1, k2, k3, k4, k5, k6, k7⟩ := RB4.out
      go_wp2_with fail
      clear k0 k1 k2 k3 k4 k5 k6 k7
      refine (RParse_x text _ (HRS.out.next B4.out) HFT.out (by omega)).mono ?_
      rintro r w5 ⟨rfl, cc⟩
      have B5 := Lib.hid (chain B4.out cc)
      have RB5 := Lib.hid (RB4.out.next cc)
      have X5 := Lib.hid (X4.out.next cc)
      have Y5 := Lib.hid (Y4.out.next cc)
      clear cc
      rw [HX.out]
      have B6 := Lib.hid (chain B5.out (Below.new1 (.cells #[.int .i64 x.drawer, .int .i64 x.drawee, .int .i64 x.payee, .int .i64 x.sum, .int .i64 x.cur, .int .i64 x.tk, .int .i64 x.tn, .int .i64 x.tu, .int .i64 x.day, .int .i64 x.city, .int .i64 x.pay, .int .i64 x.need, .int .i64 x.rate, .int .i64 x.flags, .int .i64 x.parts] 35)))
      have RB6 := Lib.hid (RB5.out.next (Below.new1 (.cells #[.int .i64 x.drawer, .int .i64 x.drawee, .int .i64 x.payee, .int .i64 x.sum, .int .i64 x.cur, .int .i64 x.tk, .int .i64 x.tn, .int .i64 x.tu, .int .i64 x.day, .int .i64 x.city, .int .i64 x.pay, .int .i64 x.need, .int .i64 x.rate, .int .i64 x.flags, .int .i64 x.parts] 35)))
      have X6 := Lib.hid (X5.out.next (Below.new1 (.cells #[.int .i64 x.drawer, .int .i64 x.drawee, .int .i64 x.payee, .int .i64 x.sum, .int .i64 x.cur, .int .i64 x.tk, .int .i64 x.tn, .int .i64 x.tu, .int .i64 x.day, .int .i64 x.city, .int .i64 x.pay, .int .i64 x.need, .int .i64 x.rate, .int .i64 x.flags, .int .i64 x.parts] 35)))
      have Y6 := Lib.hid (Y5.out.next (Below.new1 (.cells #[.int .i64 x.drawer, .int .i64 x.drawee, .int .i64 x.payee, .int .i64 x.sum, .int .i64 x.cur, .int .i64 x.tk, .int .i64 x.tn, .int .i64 x.tu, .int .i64 x.day, .int .i64 x.city, .int .i64 x.pay, .int .i64 x.need, .int .i64 x.rate, .int .i64 x.flags, .int .i64 x.parts] 35)))
      have Z6 : Hid (BB (w5.alloc (.cells #[.int .i64 x.drawer, .int .i64 x.drawee, .int .i64 x.payee, .int .i64 x.sum, .int .i64 x.cur, .int .i64 x.tk, .int .i64 x.tn, .int .i64 x.tu, .int .i64 x.day, .int .i64 x.city, .int .i64 x.pay, .int .i64 x.need, .int .i64 x.rate, .int .i64 x.flags, .int .i64 x.parts] 35)) w5.heap.size x) := heap_alloc_new _ _
      go_upto_region 6 with fail
      generalize hWW : (w5.alloc (.cells #[.int .i64 x.drawer, .int .i64 x.drawee, .int .i64 x.payee, .int .i64 x.sum, .int .i64 x.cur, .int .i64 x.tk, .int .i64 x.tn, .int .i64 x.tu, .int .i64 x.day, .int .i64 x.city, .int .i64 x.pay, .int .i64 x.need, .int .i64 x.rate, .int .i64 x.flags, .int .i64 x.parts] 35)) = WW at B6 RB6 X6 Y6 Z6 ⊢
      clear hWW
      refine swap_region (ops' := tlOps) (by kernel_rfl) ?_
      refine tells_6 w HRS HFT HE zt g1 B6 RB6 X6 Y6 Z6 ?_
      assumption
  case false =>
    clear hfw
    go_wp2_with fail
    go_ret
    exact ⟨rfl, B2.out⟩
end Go.Proofs.YtcjakgpmompaiaaGreatDoor
