/-
  DiskTells.
-/
import Derived.Test.YtcbeodhopimmlaaLawB
namespace Go.Proofs.Ytcbeodhopimmlaa
open Go.RowKit Dk

theorem cell_on {W W' : World} {g o : Nat} {v : Value} (h : W.cell? ⟨g, o, none⟩ = some v) (hb : Below W.heap.size W W') : W'.cell? ⟨g, o, none⟩ = some v := by
  rw [hb.cell (p := ⟨g, o, none⟩) (World.block_lt_of_cell? W ⟨g, o, none⟩ h)]
  exact h
theorem zb_fit : (zb 16).size ≤ 9223372036854775807 := by rw [zb_size]; omega
theorem fit_new (n : Int) : Fit (newV n).1 := by
  unfold newV
  split
  · next h => exact fit_right (check_iff.2 ⟨by simp; omega, fun s hs => by rw [List.mem_replicate] at hs; rw [hs.2, zb_size], fun p hp => absurd hp (List.not_mem_nil), fun e => by cases e⟩)
  · exact fit_zero
theorem fit_wr {d : D} (a : Int) (s : B) : Fit (wrV d a s).1 := by
  unfold wrV
  split
  · next h =>
    obtain ⟨hc, hd⟩ := upE_zero.1 h
    split
    · next q =>
      split
      · next r => exact fit_right (check_write hc hd ⟨q.1, q.2.1⟩ (pad_size q.2.2) r)
      · exact fit_zero
    · exact fit_zero
  · exact fit_zero
theorem fit_fl (d : D) : Fit (flV d).1 := by
  unfold flV
  split
  · next h =>
    obtain ⟨hc, hd⟩ := upE_zero.1 h
    split
    · next q => exact fit_right (check_tear (w := (d.pend[d.left.toNat]'(by omega))) hc (List.getElem?_eq_getElem (by omega)))
    · next q => exact fit_right (check_flush hc q)
  · exact fit_zero
theorem fit_arm (d : D) (n : Int) : Fit (armV d n).1 := by
  unfold armV
  split
  · next h =>
    obtain ⟨hc, hd⟩ := upE_zero.1 h
    split
    · next q => exact fit_right (check_arm hc hd ⟨by omega, q.2⟩)
    · exact fit_zero
  · exact fit_zero
theorem fit_cut (d : D) : Fit (cutV d).1 := by
  unfold cutV
  split
  · next h => exact fit_right (check_cut (upE_zero.1 h).1)
  · exact fit_zero
theorem fit_st (d : D) : Fit (stV d).1 := by
  unfold stV
  cases h : checkB d with
  | false => exact fit_zero
  | true =>
    cases d.down with
    | false => exact fit_zero
    | true => exact fit_right (check_start h)

set_option maxHeartbeats 51200000 in
set_option maxRecDepth 100000 in
theorem tells_x (ok : DiskOk) (sm : SmallOk) (v : Value) (d : D) (n at_ : Int) (s : B) (w : World) (h : DAt w v d) (hf : FitW d) (hn : I64 n) (hat : I64 at_) (hs : s.size ≤ 9223372036854775807) :
    Calls Try.prog 3 #[v, .int .i64 n, .int .i64 at_, .string s] w fun r w' => r = .returned (.bool true) ∧ Below w.heap.size w w' := by
  obtain ⟨qa, qc, qb, qe, rfl, -, -, -, -⟩ := h.form
  have Pd := Lib.hid (Vr.new (w := w) h (Nat.le_refl _) 25)
  have HF := Lib.hid hf
  have BP : Hid (Below w.heap.size w (w.alloc (.cells #[.slice qa d.secs.length qc, .slice qb d.pend.length qe, .int .i64 d.left, .bool d.down] 25))) := Below.new1 _
  have HN := Lib.hid hn
  have HAT := Lib.hid hat
  have dl1 := hf.left.1
  have dl2 := hf.left.2
  have nl1 := hn.1
  have nl2 := hn.2
  have al1 := hat.1
  have al2 := hat.2
  clear h hf hn hat
  go_enter Try.func3, Try.ntmps3
  go_wp2_with fail
  refine (sm _).mono ?_
  rintro r w1 ⟨rfl, b1⟩
  have Vd := Lib.hid (Pd.out.next b1)
  have BW1 := Lib.hid (chain BP.out b1)
  clear Pd BP b1
  have Pd := Lib.hid Vd.out
  have BP := Lib.hid BW1.out
  clear Vd
  obtain ⟨ad, cd, bd, ed, hBd, hDd⟩ := Pd.out.ex
  have xd0 := hBd.c0
  have xd1 := hBd.c1
  have xd2 := hBd.c2
  have xd3 := hBd.c3
  have xdl := hBd.lt
  have HDd := Lib.hid hDd
  clear hBd hDd
  go_wp2_with fail
  refine (few_x _ d _ HDd.out).mono ?_
  rintro r w2 ⟨rfl, b2⟩
  obtain ⟨okd, hok⟩ : ∃ x, fewB d = x := ⟨_, rfl⟩
  rw [hok]
  have HOK := Lib.hid hok
  clear hok
  clear xd0 xd1 xd2 xd3 xdl HDd
  have Z2 : Hid (w1.heap.size ≤ w2.heap.size) := b2.size
  have Vd := Lib.hid (Pd.out.next b2)
  have BW2 : Hid (Below w.heap.size w w2) := chain BP.out b2
  clear BP
  clear Pd
  have NE_0_2 : Hid (w.heap.size < w2.heap.size) := Nat.lt_of_lt_of_le (Vd.out.lt) (Nat.le_refl _)
  clear b2
  have Pd := Lib.hid Vd.out
  have BP := Lib.hid BW2.out
  clear Vd
  cases okd with
  | false =>
    go_wp2_with fail
    go_ret
    exact ⟨rfl, BP.out⟩
  | true =>
    by_cases t2 : 100 < s.size
    case pos =>
      have f2 : 100 < (s.size : Int) := by omega
      go_wp2_with fail
      go_ret
      exact ⟨rfl, BP.out⟩
    case neg =>
      have f2 : ¬ 100 < (s.size : Int) := by omega
      have hq := of_decide_eq_true HOK.out
      have FD := Lib.hid (HF.out.fit (by omega) (by omega))
      clear hq
      obtain ⟨⟨Dnw, enw⟩, hnw⟩ : ∃ x, newV n = x := ⟨_, rfl⟩
      have Enw := Lib.hid hnw
      have Fnw : Hid (Fit Dnw) := by have hz := fit_new n; rw [hnw] at hz; exact hz
      clear hnw
      obtain ⟨⟨Dwr, ewr⟩, hwr⟩ : ∃ x, wrV d at_ s = x := ⟨_, rfl⟩
      have Ewr := Lib.hid hwr
      have Fwr : Hid (Fit Dwr) := by have hz := fit_wr (d := d) at_ s; rw [hwr] at hz; exact hz
      clear hwr
      obtain ⟨⟨Dfl, efl⟩, hfl⟩ : ∃ x, flV d = x := ⟨_, rfl⟩
      have Efl := Lib.hid hfl
      have Ffl : Hid (Fit Dfl) := by have hz := fit_fl d; rw [hfl] at hz; exact hz
      clear hfl
      obtain ⟨⟨Dar, ear⟩, har⟩ : ∃ x, armV d n = x := ⟨_, rfl⟩
      have Ear := Lib.hid har
      have Far : Hid (Fit Dar) := by have hz := fit_arm d n; rw [har] at hz; exact hz
      clear har
      obtain ⟨⟨Dcu, ecu⟩, hcu⟩ : ∃ x, cutV d = x := ⟨_, rfl⟩
      have Ecu := Lib.hid hcu
      have Fcu : Hid (Fit Dcu) := by have hz := fit_cut d; rw [hcu] at hz; exact hz
      clear hcu
      obtain ⟨⟨Dst, est⟩, hst⟩ : ∃ x, stV d = x := ⟨_, rfl⟩
      have Est := Lib.hid hst
      have Fst : Hid (Fit Dst) := by have hz := fit_st d; rw [hst] at hz; exact hz
      clear hst
      obtain ⟨⟨rs, re⟩, hrd⟩ : ∃ x, rdV d at_ = x := ⟨_, rfl⟩
      have Erd := Lib.hid hrd
      clear hrd
      have HC := Lib.hid (conv_d (ok.new n w2 HN.out) Enw.out)
      go_wp2_with fail
      refine HC.out.mono ?_
      rintro r w3 ⟨sa3, sc3, pa3, pc3, rfl, h3, b3⟩
      clear HC
      have Z3 : Hid (w2.heap.size ≤ w3.heap.size) := b3.size
      have Vd := Lib.hid (Pd.out.next b3)
      have BW3 : Hid (Below w.heap.size w w3) := chain BP.out b3
      clear BP
      clear Pd
      have NE_0_3 : Hid (w.heap.size < w3.heap.size) := Nat.lt_of_lt_of_le (Vd.out.lt) (Nat.le_refl _)
      have H3 := Lib.hid h3
      clear h3 b3
      have Pd := Lib.hid (Vd.out.next (Below.new1 (.cells #[(.slice sa3 (Dnw).secs.length sc3), (.slice pa3 (Dnw).pend.length pc3), .int .i64 Dnw.left, .bool Dnw.down] 25)))
      have Pa := Lib.hid (Vr.new (w := w) H3.out BW3.out.size 25)
      have BP : Hid (Below w.heap.size w (w3.alloc (.cells #[(.slice sa3 (Dnw).secs.length sc3), (.slice pa3 (Dnw).pend.length pc3), .int .i64 Dnw.left, .bool Dnw.down] 25))) := chain BW3.out (Below.new1 _)
      have zs3 : (w3.alloc (.cells #[(.slice sa3 (Dnw).secs.length sc3), (.slice pa3 (Dnw).pend.length pc3), .int .i64 Dnw.left, .bool Dnw.down] 25)).heap.size = w3.heap.size + 1 := by simp
      have ZS3 := Lib.hid zs3
      clear zs3
      clear Vd
      have HC := Lib.hid (conv_d (New_x n (w3.alloc (.cells #[(.slice sa3 (Dnw).secs.length sc3), (.slice pa3 (Dnw).pend.length pc3), .int .i64 Dnw.left, .bool Dnw.down] 25)) HN.out) Enw.out)
      go_wp2_with fail
      refine HC.out.mono ?_
      rintro r w4 ⟨sa4, sc4, pa4, pc4, rfl, h4, b4⟩
      clear HC
      have Z4 : Hid ((w3.alloc (.cells #[(.slice sa3 (Dnw).secs.length sc3), (.slice pa3 (Dnw).pend.length pc3), .int .i64 Dnw.left, .bool Dnw.down] 25)).heap.size ≤ w4.heap.size) := b4.size
      have Vd := Lib.hid (Pd.out.next b4)
      have Va := Lib.hid (Pa.out.next b4)
      have BW4 : Hid (Below w.heap.size w w4) := chain BP.out b4
      clear BP
      clear Pd Pa
      have NE_0_4 : Hid (w.heap.size < w4.heap.size) := Nat.lt_of_lt_of_le (Vd.out.lt) (Nat.le_refl _)
      have NE_3_4 : Hid (w3.heap.size < w4.heap.size) := Nat.lt_of_lt_of_le (Va.out.lt) (Nat.le_refl _)
      have H4 := Lib.hid h4
      clear h4 b4
      have Pd := Lib.hid (Vd.out.next (Below.new1 (.cells #[(.slice sa4 (Dnw).secs.length sc4), (.slice pa4 (Dnw).pend.length pc4), .int .i64 Dnw.left, .bool Dnw.down] 25)))
      have Pa := Lib.hid (Va.out.next (Below.new1 (.cells #[(.slice sa4 (Dnw).secs.length sc4), (.slice pa4 (Dnw).pend.length pc4), .int .i64 Dnw.left, .bool Dnw.down] 25)))
      have Pb := Lib.hid (Vr.new (w := w) H4.out BW4.out.size 25)
      have BP : Hid (Below w.heap.size w (w4.alloc (.cells #[(.slice sa4 (Dnw).secs.length sc4), (.slice pa4 (Dnw).pend.length pc4), .int .i64 Dnw.left, .bool Dnw.down] 25))) := chain BW4.out (Below.new1 _)
      have zs4 : (w4.alloc (.cells #[(.slice sa4 (Dnw).secs.length sc4), (.slice pa4 (Dnw).pend.length pc4), .int .i64 Dnw.left, .bool Dnw.down] 25)).heap.size = w4.heap.size + 1 := by simp
      have ZS4 := Lib.hid zs4
      clear zs4
      clear Vd Va
      obtain ⟨aa, ca, ba, ea, hBa, hDa⟩ := Pa.out.ex
      have xa0 := hBa.c0
      have xa1 := hBa.c1
      have xa2 := hBa.c2
      have xa3 := hBa.c3
      have xal := hBa.lt
      have HDa := Lib.hid hDa
      clear hBa hDa
      obtain ⟨ab, cb, bb, eb, hBb, hDb⟩ := Pb.out.ex
      have xb0 := hBb.c0
      have xb1 := hBb.c1
      have xb2 := hBb.c2
      have xb3 := hBb.c3
      have xbl := hBb.lt
      have HDb := Lib.hid hDb
      clear hBb hDb
      obtain ⟨ad, cd, bd, ed, hBd, hDd⟩ := Pd.out.ex
      have xd0 := hBd.c0
      have xd1 := hBd.c1
      have xd2 := hBd.c2
      have xd3 := hBd.c3
      have xdl := hBd.lt
      have HDd := Lib.hid hDd
      clear hBd hDd
      go_upto_region 6 with fail
      go_cut [51] (fun c wx => c = .bool false ∧ Vr d w.heap.size w wx ∧ Vr Dnw w3.heap.size w wx ∧ Vr Dnw w4.heap.size w wx ∧ Below w.heap.size w wx)
      case first =>
        refine wp_region_held_drew (S := fun w' => w'.cell? ⟨w3.heap.size, 0, none⟩ = some (.slice aa (Dnw).secs.length ca) ∧ w'.cell? ⟨w3.heap.size, 1, none⟩ = some (.slice ba (Dnw).pend.length ea) ∧ w'.cell? ⟨w3.heap.size, 2, none⟩ = some (.int .i64 (Dnw).left) ∧ w'.cell? ⟨w3.heap.size, 3, none⟩ = some (.bool (Dnw).down) ∧ w'.cell? ⟨w4.heap.size, 0, none⟩ = some (.slice ab (Dnw).secs.length cb) ∧ w'.cell? ⟨w4.heap.size, 1, none⟩ = some (.slice bb (Dnw).pend.length eb) ∧ w'.cell? ⟨w4.heap.size, 2, none⟩ = some (.int .i64 (Dnw).left) ∧ w'.cell? ⟨w4.heap.size, 3, none⟩ = some (.bool (Dnw).down) ∧ w'.cell? ⟨w.heap.size, 0, none⟩ = some (.slice ad (d).secs.length cd) ∧ w'.cell? ⟨w.heap.size, 1, none⟩ = some (.slice bd (d).pend.length ed) ∧ w'.cell? ⟨w.heap.size, 2, none⟩ = some (.int .i64 (d).left) ∧ w'.cell? ⟨w.heap.size, 3, none⟩ = some (.bool (d).down)) (by kernel_rfl) ?_ (fun hHeld => ?_)
        · exact ⟨xa0, xa1, xa2, xa3, xb0, xb1, xb2, xb3, xd0, xd1, xd2, xd3⟩
        refine takeN0 (v := ?_) (by kernel_rfl) (by kernel_rfl) (by kernel_rfl) (fun _ _ _ h => h) (by rfl) ?_ (by assumption) ?_
        rotate_left
        · intro wz hSw
          try dsimp only at hSw
          go_simp
          try with_reducible rfl
        try simp only [Act.put, List.setIfInBounds_toArray, List.set_cons_zero, List.set_cons_succ]
        refine takeN1 (v := ?_) (by kernel_rfl) (by kernel_rfl) (by kernel_rfl) (fun _ _ _ h => h) (by rfl) ?_ (by assumption) ?_
        rotate_left
        · intro wz hSw
          try dsimp only at hSw
          go_simp
          try with_reducible rfl
        try simp only [Act.put, List.setIfInBounds_toArray, List.set_cons_zero, List.set_cons_succ]
        refine comeN2 (by kernel_rfl) (by rfl) (fun K hK => ?_)
        go_simp
        go_at_call 12
        refine (Same_x _ _ Dnw _ (HDa.out.next (Below.refl _ _).drew) (HDb.out.next (Below.refl _ _).drew) Fnw.out).mono ?_
        rintro r u6 ⟨rfl, b6⟩
        try go_wp2_with fail
        refine hK.out _ _ ?_ (fun hHeld => ?_)
        · obtain ⟨z0, z1, z2, z3, z4, z5, z6, z7, z8, z9, z10, z11⟩ := hHeld
          exact ⟨cell_on z0 b6, cell_on z1 b6, cell_on z2 b6, cell_on z3 b6, cell_on z4 b6, cell_on z5 b6, cell_on z6 b6, cell_on z7 b6, cell_on z8 b6, cell_on z9 b6, cell_on z10 b6, cell_on z11 b6⟩
        clear hK K
        try simp only [Act.put, List.setIfInBounds_toArray, List.set_cons_zero, List.set_cons_succ]
        refine takeN3 (v := ?_) (by kernel_rfl) (by kernel_rfl) (by kernel_rfl) (fun _ _ _ h => h) (by rfl) ?_ (by assumption) ?_
        rotate_left
        · intro wz hSw
          try dsimp only at hSw
          go_simp
          try with_reducible rfl
        try simp only [Act.put, List.setIfInBounds_toArray, List.set_cons_zero, List.set_cons_succ]
        refine takeN4 (v := ?_) (by kernel_rfl) (by kernel_rfl) (by kernel_rfl) (fun _ _ _ h => h) (by rfl) ?_ (by assumption) ?_
        rotate_left
        · intro wz hSw
          try dsimp only at hSw
          go_simp
          try with_reducible rfl
        try simp only [Act.put, List.setIfInBounds_toArray, List.set_cons_zero, List.set_cons_succ]
        refine takeN5 (v := ?_) (by kernel_rfl) (by kernel_rfl) (by kernel_rfl) (fun _ _ _ h => h) (by rfl) ?_ (by assumption) ?_
        rotate_left
        · intro wz hSw
          try dsimp only at hSw
          go_simp
          try with_reducible rfl
        try simp only [Act.put, List.setIfInBounds_toArray, List.set_cons_zero, List.set_cons_succ]
        refine takeN6 (v := ?_) (by kernel_rfl) (by kernel_rfl) (by kernel_rfl) (fun _ _ _ h => h) (by rfl) ?_ (by assumption) ?_
        rotate_left
        · intro wz hSw
          try dsimp only at hSw
          go_simp
          try with_reducible rfl
        try simp only [Act.put, List.setIfInBounds_toArray, List.set_cons_zero, List.set_cons_succ]
        refine takeN7 (v := ?_) (by kernel_rfl) (by kernel_rfl) (by kernel_rfl) (fun _ _ _ h => h) (by rfl) ?_ (by assumption) ?_
        rotate_left
        · intro wz hSw
          try dsimp only at hSw
          go_simp
          try with_reducible rfl
        try simp only [Act.put, List.setIfInBounds_toArray, List.set_cons_zero, List.set_cons_succ]
        refine takeN8 (v := ?_) (by kernel_rfl) (by kernel_rfl) (by kernel_rfl) (fun _ _ _ h => h) (by rfl) ?_ (by assumption) ?_
        rotate_left
        · intro wz hSw
          try dsimp only at hSw
          go_simp
          try with_reducible rfl
        try simp only [Act.put, List.setIfInBounds_toArray, List.set_cons_zero, List.set_cons_succ]
        refine takeN9 (v := ?_) (by kernel_rfl) (by kernel_rfl) (by kernel_rfl) (fun _ _ _ h => h) (by rfl) ?_ (by assumption) ?_
        rotate_left
        · intro wz hSw
          try dsimp only at hSw
          go_simp
          try with_reducible rfl
        try simp only [Act.put, List.setIfInBounds_toArray, List.set_cons_zero, List.set_cons_succ]
        refine takeN10 (v := ?_) (by kernel_rfl) (by kernel_rfl) (by kernel_rfl) (fun _ _ _ h => h) (by rfl) ?_ (by assumption) ?_
        rotate_left
        · intro wz hSw
          try dsimp only at hSw
          go_simp
          try with_reducible rfl
        try simp only [Act.put, List.setIfInBounds_toArray, List.set_cons_zero, List.set_cons_succ]
        refine takeN12 (v := ?_) (by kernel_rfl) (by kernel_rfl) (by kernel_rfl) (fun _ _ _ h => h) (by rfl) ?_ (by assumption) ?_
        rotate_left
        · intro wz hSw
          try dsimp only at hSw
          go_simp
          try with_reducible rfl
        try simp only [Act.put, List.setIfInBounds_toArray, List.set_cons_zero, List.set_cons_succ]
        refine comeN11 (by kernel_rfl) (by rfl) (fun K hK => ?_)
        go_simp
        go_at_call 13
        refine (ok.check _ d _ ((HDd.out.next (Below.refl _ _).drew).next b6) FD.out).mono ?_
        rintro r u7 ⟨rfl, b7⟩
        try go_wp2_with fail
        refine hK.out _ _ ?_ (fun hHeld => ?_)
        · obtain ⟨z0, z1, z2, z3, z4, z5, z6, z7, z8, z9, z10, z11⟩ := hHeld
          exact ⟨cell_on z0 b7, cell_on z1 b7, cell_on z2 b7, cell_on z3 b7, cell_on z4 b7, cell_on z5 b7, cell_on z6 b7, cell_on z7 b7, cell_on z8 b7, cell_on z9 b7, cell_on z10 b7, cell_on z11 b7⟩
        clear hK K
        try simp only [Act.put, List.setIfInBounds_toArray, List.set_cons_zero, List.set_cons_succ]
        refine comeN13 (by kernel_rfl) (by rfl) (fun K hK => ?_)
        go_simp
        go_at_call 14
        refine (Check_x _ d _ (((HDd.out.next (Below.refl _ _).drew).next b6).next b7) FD.out).mono ?_
        rintro r u8 ⟨rfl, b8⟩
        try go_wp2_with fail
        refine hK.out _ _ ?_ (fun hHeld => ?_)
        · obtain ⟨z0, z1, z2, z3, z4, z5, z6, z7, z8, z9, z10, z11⟩ := hHeld
          exact ⟨cell_on z0 b8, cell_on z1 b8, cell_on z2 b8, cell_on z3 b8, cell_on z4 b8, cell_on z5 b8, cell_on z6 b8, cell_on z7 b8, cell_on z8 b8, cell_on z9 b8, cell_on z10 b8, cell_on z11 b8⟩
        clear hK K
        try simp only [Act.put, List.setIfInBounds_toArray, List.set_cons_zero, List.set_cons_succ]
        refine takeN14 (v := ?_) (by kernel_rfl) (by kernel_rfl) (by kernel_rfl) (fun _ _ _ h => h) (by rfl) ?_ (by assumption) ?_
        rotate_left
        · intro wz hSw
          try dsimp only at hSw
          go_simp
          try with_reducible rfl
        try simp only [Act.put, List.setIfInBounds_toArray, List.set_cons_zero, List.set_cons_succ]
        refine takeN15 (v := ?_) (by kernel_rfl) (by kernel_rfl) (by kernel_rfl) (fun _ _ _ h => h) (by rfl) ?_ (by assumption) ?_
        rotate_left
        · intro wz hSw
          try dsimp only at hSw
          go_simp
          try with_reducible rfl
        try simp only [Act.put, List.setIfInBounds_toArray, List.set_cons_zero, List.set_cons_succ]
        refine wpAnyH_done (by kernel_rfl) ?_ _
        have R8 := fun {D' : D} {g : Nat} (P : Vr D' g w _) => (((P.next (Below.refl _ _).drew).next b6).next b7).next b8
        go_wp2_with fail
        go_meet
        exact ⟨rfl, R8 Pd.out, R8 Pa.out, R8 Pb.out, chain (chain (chain BP.out.drew b6) b7) b8⟩
      case rest =>
        obtain ⟨rfl, hvd, hva, hvb, hbel⟩ := hcut
        clear xa0 xa1 xa2 xa3 xal HDa
        clear xb0 xb1 xb2 xb3 xbl HDb
        clear xd0 xd1 xd2 xd3 xdl HDd
        clear Pd Pa Pb BP
        have Pd := Lib.hid hvd
        have Pa := Lib.hid hva
        have Pb := Lib.hid hvb
        have BP := Lib.hid hbel
        clear hvd hva hvb hbel
        obtain ⟨ad, cd, bd, ed, hBd, hDd⟩ := Pd.out.ex
        have xd0 := hBd.c0
        have xd1 := hBd.c1
        have xd2 := hBd.c2
        have xd3 := hBd.c3
        have xdl := hBd.lt
        have HDd := Lib.hid hDd
        clear hBd hDd
        have HC := Lib.hid (conv_r (ok.read _ d at_ _ HDd.out FD.out HAT.out) Erd.out)
        go_wp2_with fail
        refine HC.out.mono ?_
        rintro r w5 ⟨rfl, b5⟩
        clear HC
        clear xd0 xd1 xd2 xd3 xdl HDd
        have Z5 : Hid (wc.heap.size ≤ w5.heap.size) := b5.size
        have Vd := Lib.hid (Pd.out.next b5)
        have Va := Lib.hid (Pa.out.next b5)
        have Vb := Lib.hid (Pb.out.next b5)
        have BW5 : Hid (Below w.heap.size w w5) := chain BP.out b5
        clear BP
        clear Pd Pa Pb
        have NE_0_5 : Hid (w.heap.size < w5.heap.size) := Nat.lt_of_lt_of_le (Vd.out.lt) (Nat.le_refl _)
        have NE_3_5 : Hid (w3.heap.size < w5.heap.size) := Nat.lt_of_lt_of_le (Va.out.lt) (Nat.le_refl _)
        have NE_4_5 : Hid (w4.heap.size < w5.heap.size) := Nat.lt_of_lt_of_le (Vb.out.lt) (Nat.le_refl _)
        clear b5
        have Pd := Lib.hid Vd.out
        have Pa := Lib.hid Va.out
        have Pb := Lib.hid Vb.out
        have BP := Lib.hid BW5.out
        clear Vd Va Vb
        obtain ⟨ad, cd, bd, ed, hBd, hDd⟩ := Pd.out.ex
        have xd0 := hBd.c0
        have xd1 := hBd.c1
        have xd2 := hBd.c2
        have xd3 := hBd.c3
        have xdl := hBd.lt
        have HDd := Lib.hid hDd
        clear hBd hDd
        have HC := Lib.hid (conv_r (Read_x _ d at_ _ HDd.out FD.out HAT.out) Erd.out)
        go_wp2_with fail
        refine HC.out.mono ?_
        rintro r w6 ⟨rfl, b6⟩
        clear HC
        clear xd0 xd1 xd2 xd3 xdl HDd
        have Z6 : Hid (w5.heap.size ≤ w6.heap.size) := b6.size
        have Vd := Lib.hid (Pd.out.next b6)
        have Va := Lib.hid (Pa.out.next b6)
        have Vb := Lib.hid (Pb.out.next b6)
        have BW6 : Hid (Below w.heap.size w w6) := chain BP.out b6
        clear BP
        clear Pd Pa Pb
        have NE_0_6 : Hid (w.heap.size < w6.heap.size) := Nat.lt_of_lt_of_le (Vd.out.lt) (Nat.le_refl _)
        have NE_3_6 : Hid (w3.heap.size < w6.heap.size) := Nat.lt_of_lt_of_le (Va.out.lt) (Nat.le_refl _)
        have NE_4_6 : Hid (w4.heap.size < w6.heap.size) := Nat.lt_of_lt_of_le (Vb.out.lt) (Nat.le_refl _)
        clear b6
        have Pd := Lib.hid Vd.out
        have Pa := Lib.hid Va.out
        have Pb := Lib.hid Vb.out
        have BP := Lib.hid BW6.out
        clear Vd Va Vb
        obtain ⟨ad, cd, bd, ed, hBd, hDd⟩ := Pd.out.ex
        have xd0 := hBd.c0
        have xd1 := hBd.c1
        have xd2 := hBd.c2
        have xd3 := hBd.c3
        have xdl := hBd.lt
        have HDd := Lib.hid hDd
        clear hBd hDd
        have HC := Lib.hid (conv_d (ok.write _ d at_ s _ HDd.out FD.out HAT.out hs) Ewr.out)
        go_wp2_with fail
        refine HC.out.mono ?_
        rintro r w7 ⟨sa7, sc7, pa7, pc7, rfl, h7, b7⟩
        clear HC
        clear xd0 xd1 xd2 xd3 xdl HDd
        have Z7 : Hid (w6.heap.size ≤ w7.heap.size) := b7.size
        have Vd := Lib.hid (Pd.out.next b7)
        have Va := Lib.hid (Pa.out.next b7)
        have Vb := Lib.hid (Pb.out.next b7)
        have BW7 : Hid (Below w.heap.size w w7) := chain BP.out b7
        clear BP
        clear Pd Pa Pb
        have NE_0_7 : Hid (w.heap.size < w7.heap.size) := Nat.lt_of_lt_of_le (Vd.out.lt) (Nat.le_refl _)
        have NE_3_7 : Hid (w3.heap.size < w7.heap.size) := Nat.lt_of_lt_of_le (Va.out.lt) (Nat.le_refl _)
        have NE_4_7 : Hid (w4.heap.size < w7.heap.size) := Nat.lt_of_lt_of_le (Vb.out.lt) (Nat.le_refl _)
        have H7 := Lib.hid h7
        clear h7 b7
        obtain ⟨oa, oc, ob, oe, hO, -⟩ := Va.out.ex
        have o0 := hO.c0
        have o1 := hO.c1
        have o2 := hO.c2
        have o3 := hO.c3
        have ol := hO.lt
        have of := hO.fz
        clear hO
        have Pd := Lib.hid (Vd.out.putO Va.out (by have q := NE_0_3.out; omega) (.slice sa7 (Dwr).secs.length sc7) (.slice pa7 (Dwr).pend.length pc7) Dwr.left Dwr.down)
        have Pb := Lib.hid (Vb.out.putO Va.out (by have q := NE_3_4.out; omega) (.slice sa7 (Dwr).secs.length sc7) (.slice pa7 (Dwr).pend.length pc7) Dwr.left Dwr.down)
        have Pa := Lib.hid (Vr.put Va.out H7.out)
        have BP : Hid (Below w.heap.size w (put4 w7 (w3.heap.size) (.slice sa7 (Dwr).secs.length sc7) (.slice pa7 (Dwr).pend.length pc7) Dwr.left Dwr.down)) := below_put BW7.out Va.out.lo _ _ _ _
        have zs7 : (put4 w7 (w3.heap.size) (.slice sa7 (Dwr).secs.length sc7) (.slice pa7 (Dwr).pend.length pc7) Dwr.left Dwr.down).heap.size = w7.heap.size := by simp
        have ZS7 := Lib.hid zs7
        clear zs7
        clear Vd Va Vb
        obtain ⟨ad, cd, bd, ed, hBd, hDd⟩ := Pd.out.ex
        have xd0 := hBd.c0
        have xd1 := hBd.c1
        have xd2 := hBd.c2
        have xd3 := hBd.c3
        have xdl := hBd.lt
        have HDd := Lib.hid hDd
        clear hBd hDd
        have HC := Lib.hid (conv_d (Write_x _ d at_ s _ HDd.out FD.out HAT.out hs) Ewr.out)
        go_wp2_with fail
        refine HC.out.mono ?_
        rintro r w8 ⟨sa8, sc8, pa8, pc8, rfl, h8, b8⟩
        clear HC
        clear xd0 xd1 xd2 xd3 xdl HDd
        clear o0 o1 o2 o3 ol of
        have Z8 : Hid ((put4 w7 (w3.heap.size) (.slice sa7 (Dwr).secs.length sc7) (.slice pa7 (Dwr).pend.length pc7) Dwr.left Dwr.down).heap.size ≤ w8.heap.size) := b8.size
        have Vd := Lib.hid (Pd.out.next b8)
        have Va := Lib.hid (Pa.out.next b8)
        have Vb := Lib.hid (Pb.out.next b8)
        have BW8 : Hid (Below w.heap.size w w8) := chain BP.out b8
        clear BP
        clear Pd Pa Pb
        have NE_0_8 : Hid (w.heap.size < w8.heap.size) := Nat.lt_of_lt_of_le (Vd.out.lt) (Nat.le_refl _)
        have NE_3_8 : Hid (w3.heap.size < w8.heap.size) := Nat.lt_of_lt_of_le (Va.out.lt) (Nat.le_refl _)
        have NE_4_8 : Hid (w4.heap.size < w8.heap.size) := Nat.lt_of_lt_of_le (Vb.out.lt) (Nat.le_refl _)
        have H8 := Lib.hid h8
        clear h8 b8
        obtain ⟨oa, oc, ob, oe, hO, -⟩ := Vb.out.ex
        have o0 := hO.c0
        have o1 := hO.c1
        have o2 := hO.c2
        have o3 := hO.c3
        have ol := hO.lt
        have of := hO.fz
        clear hO
        have Pd := Lib.hid (Vd.out.putO Vb.out (by have q := NE_0_4.out; omega) (.slice sa8 (Dwr).secs.length sc8) (.slice pa8 (Dwr).pend.length pc8) Dwr.left Dwr.down)
        have Pa := Lib.hid (Va.out.putO Vb.out (by have q := NE_3_4.out; omega) (.slice sa8 (Dwr).secs.length sc8) (.slice pa8 (Dwr).pend.length pc8) Dwr.left Dwr.down)
        have Pb := Lib.hid (Vr.put Vb.out H8.out)
        have BP : Hid (Below w.heap.size w (put4 w8 (w4.heap.size) (.slice sa8 (Dwr).secs.length sc8) (.slice pa8 (Dwr).pend.length pc8) Dwr.left Dwr.down)) := below_put BW8.out Vb.out.lo _ _ _ _
        have zs8 : (put4 w8 (w4.heap.size) (.slice sa8 (Dwr).secs.length sc8) (.slice pa8 (Dwr).pend.length pc8) Dwr.left Dwr.down).heap.size = w8.heap.size := by simp
        have ZS8 := Lib.hid zs8
        clear zs8
        clear Vd Va Vb
        obtain ⟨aa, ca, ba, ea, hBa, hDa⟩ := Pa.out.ex
        have xa0 := hBa.c0
        have xa1 := hBa.c1
        have xa2 := hBa.c2
        have xa3 := hBa.c3
        have xal := hBa.lt
        have HDa := Lib.hid hDa
        clear hBa hDa
        obtain ⟨ab, cb, bb, eb, hBb, hDb⟩ := Pb.out.ex
        have xb0 := hBb.c0
        have xb1 := hBb.c1
        have xb2 := hBb.c2
        have xb3 := hBb.c3
        have xbl := hBb.lt
        have HDb := Lib.hid hDb
        clear hBb hDb
        have HC := Lib.hid (Same_x _ _ Dwr _ HDa.out HDb.out Fwr.out)
        go_wp2_with fail
        refine HC.out.mono ?_
        rintro r w9 ⟨rfl, b9⟩
        clear HC
        clear xa0 xa1 xa2 xa3 xal HDa
        clear xb0 xb1 xb2 xb3 xbl HDb
        clear o0 o1 o2 o3 ol of
        have Z9 : Hid ((put4 w8 (w4.heap.size) (.slice sa8 (Dwr).secs.length sc8) (.slice pa8 (Dwr).pend.length pc8) Dwr.left Dwr.down).heap.size ≤ w9.heap.size) := b9.size
        have Vd := Lib.hid (Pd.out.next b9)
        have Va := Lib.hid (Pa.out.next b9)
        have Vb := Lib.hid (Pb.out.next b9)
        have BW9 : Hid (Below w.heap.size w w9) := chain BP.out b9
        clear BP
        clear Pd Pa Pb
        have NE_0_9 : Hid (w.heap.size < w9.heap.size) := Nat.lt_of_lt_of_le (Vd.out.lt) (Nat.le_refl _)
        have NE_3_9 : Hid (w3.heap.size < w9.heap.size) := Nat.lt_of_lt_of_le (Va.out.lt) (Nat.le_refl _)
        have NE_4_9 : Hid (w4.heap.size < w9.heap.size) := Nat.lt_of_lt_of_le (Vb.out.lt) (Nat.le_refl _)
        clear b9
        have Pd := Lib.hid Vd.out
        have Pa := Lib.hid Va.out
        have Pb := Lib.hid Vb.out
        have BP := Lib.hid BW9.out
        clear Vd Va Vb
        obtain ⟨ad, cd, bd, ed, hBd, hDd⟩ := Pd.out.ex
        have xd0 := hBd.c0
        have xd1 := hBd.c1
        have xd2 := hBd.c2
        have xd3 := hBd.c3
        have xdl := hBd.lt
        have HDd := Lib.hid hDd
        clear hBd hDd
        have HC := Lib.hid (conv_d (ok.flush _ d  _ HDd.out FD.out ) Efl.out)
        go_wp2_with fail
        refine HC.out.mono ?_
        rintro r w10 ⟨sa10, sc10, pa10, pc10, rfl, h10, b10⟩
        clear HC
        clear xd0 xd1 xd2 xd3 xdl HDd
        have Z10 : Hid (w9.heap.size ≤ w10.heap.size) := b10.size
        have Vd := Lib.hid (Pd.out.next b10)
        have Va := Lib.hid (Pa.out.next b10)
        have Vb := Lib.hid (Pb.out.next b10)
        have BW10 : Hid (Below w.heap.size w w10) := chain BP.out b10
        clear BP
        clear Pd Pa Pb
        have NE_0_10 : Hid (w.heap.size < w10.heap.size) := Nat.lt_of_lt_of_le (Vd.out.lt) (Nat.le_refl _)
        have NE_3_10 : Hid (w3.heap.size < w10.heap.size) := Nat.lt_of_lt_of_le (Va.out.lt) (Nat.le_refl _)
        have NE_4_10 : Hid (w4.heap.size < w10.heap.size) := Nat.lt_of_lt_of_le (Vb.out.lt) (Nat.le_refl _)
        have H10 := Lib.hid h10
        clear h10 b10
        obtain ⟨oa, oc, ob, oe, hO, -⟩ := Va.out.ex
        have o0 := hO.c0
        have o1 := hO.c1
        have o2 := hO.c2
        have o3 := hO.c3
        have ol := hO.lt
        have of := hO.fz
        clear hO
        have Pd := Lib.hid (Vd.out.putO Va.out (by have q := NE_0_3.out; omega) (.slice sa10 (Dfl).secs.length sc10) (.slice pa10 (Dfl).pend.length pc10) Dfl.left Dfl.down)
        have Pb := Lib.hid (Vb.out.putO Va.out (by have q := NE_3_4.out; omega) (.slice sa10 (Dfl).secs.length sc10) (.slice pa10 (Dfl).pend.length pc10) Dfl.left Dfl.down)
        have Pa := Lib.hid (Vr.put Va.out H10.out)
        have BP : Hid (Below w.heap.size w (put4 w10 (w3.heap.size) (.slice sa10 (Dfl).secs.length sc10) (.slice pa10 (Dfl).pend.length pc10) Dfl.left Dfl.down)) := below_put BW10.out Va.out.lo _ _ _ _
        have zs10 : (put4 w10 (w3.heap.size) (.slice sa10 (Dfl).secs.length sc10) (.slice pa10 (Dfl).pend.length pc10) Dfl.left Dfl.down).heap.size = w10.heap.size := by simp
        have ZS10 := Lib.hid zs10
        clear zs10
        clear Vd Va Vb
        obtain ⟨ad, cd, bd, ed, hBd, hDd⟩ := Pd.out.ex
        have xd0 := hBd.c0
        have xd1 := hBd.c1
        have xd2 := hBd.c2
        have xd3 := hBd.c3
        have xdl := hBd.lt
        have HDd := Lib.hid hDd
        clear hBd hDd
        have HC := Lib.hid (conv_d (Flush_x _ d  _ HDd.out FD.out ) Efl.out)
        go_wp2_with fail
        refine HC.out.mono ?_
        rintro r w11 ⟨sa11, sc11, pa11, pc11, rfl, h11, b11⟩
        clear HC
        clear xd0 xd1 xd2 xd3 xdl HDd
        clear o0 o1 o2 o3 ol of
        have Z11 : Hid ((put4 w10 (w3.heap.size) (.slice sa10 (Dfl).secs.length sc10) (.slice pa10 (Dfl).pend.length pc10) Dfl.left Dfl.down).heap.size ≤ w11.heap.size) := b11.size
        have Vd := Lib.hid (Pd.out.next b11)
        have Va := Lib.hid (Pa.out.next b11)
        have Vb := Lib.hid (Pb.out.next b11)
        have BW11 : Hid (Below w.heap.size w w11) := chain BP.out b11
        clear BP
        clear Pd Pa Pb
        have NE_0_11 : Hid (w.heap.size < w11.heap.size) := Nat.lt_of_lt_of_le (Vd.out.lt) (Nat.le_refl _)
        have NE_3_11 : Hid (w3.heap.size < w11.heap.size) := Nat.lt_of_lt_of_le (Va.out.lt) (Nat.le_refl _)
        have NE_4_11 : Hid (w4.heap.size < w11.heap.size) := Nat.lt_of_lt_of_le (Vb.out.lt) (Nat.le_refl _)
        have H11 := Lib.hid h11
        clear h11 b11
        obtain ⟨oa, oc, ob, oe, hO, -⟩ := Vb.out.ex
        have o0 := hO.c0
        have o1 := hO.c1
        have o2 := hO.c2
        have o3 := hO.c3
        have ol := hO.lt
        have of := hO.fz
        clear hO
        have Pd := Lib.hid (Vd.out.putO Vb.out (by have q := NE_0_4.out; omega) (.slice sa11 (Dfl).secs.length sc11) (.slice pa11 (Dfl).pend.length pc11) Dfl.left Dfl.down)
        have Pa := Lib.hid (Va.out.putO Vb.out (by have q := NE_3_4.out; omega) (.slice sa11 (Dfl).secs.length sc11) (.slice pa11 (Dfl).pend.length pc11) Dfl.left Dfl.down)
        have Pb := Lib.hid (Vr.put Vb.out H11.out)
        have BP : Hid (Below w.heap.size w (put4 w11 (w4.heap.size) (.slice sa11 (Dfl).secs.length sc11) (.slice pa11 (Dfl).pend.length pc11) Dfl.left Dfl.down)) := below_put BW11.out Vb.out.lo _ _ _ _
        have zs11 : (put4 w11 (w4.heap.size) (.slice sa11 (Dfl).secs.length sc11) (.slice pa11 (Dfl).pend.length pc11) Dfl.left Dfl.down).heap.size = w11.heap.size := by simp
        have ZS11 := Lib.hid zs11
        clear zs11
        clear Vd Va Vb
        obtain ⟨aa, ca, ba, ea, hBa, hDa⟩ := Pa.out.ex
        have xa0 := hBa.c0
        have xa1 := hBa.c1
        have xa2 := hBa.c2
        have xa3 := hBa.c3
        have xal := hBa.lt
        have HDa := Lib.hid hDa
        clear hBa hDa
        obtain ⟨ab, cb, bb, eb, hBb, hDb⟩ := Pb.out.ex
        have xb0 := hBb.c0
        have xb1 := hBb.c1
        have xb2 := hBb.c2
        have xb3 := hBb.c3
        have xbl := hBb.lt
        have HDb := Lib.hid hDb
        clear hBb hDb
        have HC := Lib.hid (Same_x _ _ Dfl _ HDa.out HDb.out Ffl.out)
        go_wp2_with fail
        refine HC.out.mono ?_
        rintro r w12 ⟨rfl, b12⟩
        clear HC
        clear xa0 xa1 xa2 xa3 xal HDa
        clear xb0 xb1 xb2 xb3 xbl HDb
        clear o0 o1 o2 o3 ol of
        have Z12 : Hid ((put4 w11 (w4.heap.size) (.slice sa11 (Dfl).secs.length sc11) (.slice pa11 (Dfl).pend.length pc11) Dfl.left Dfl.down).heap.size ≤ w12.heap.size) := b12.size
        have Vd := Lib.hid (Pd.out.next b12)
        have Va := Lib.hid (Pa.out.next b12)
        have Vb := Lib.hid (Pb.out.next b12)
        have BW12 : Hid (Below w.heap.size w w12) := chain BP.out b12
        clear BP
        clear Pd Pa Pb
        have NE_0_12 : Hid (w.heap.size < w12.heap.size) := Nat.lt_of_lt_of_le (Vd.out.lt) (Nat.le_refl _)
        have NE_3_12 : Hid (w3.heap.size < w12.heap.size) := Nat.lt_of_lt_of_le (Va.out.lt) (Nat.le_refl _)
        have NE_4_12 : Hid (w4.heap.size < w12.heap.size) := Nat.lt_of_lt_of_le (Vb.out.lt) (Nat.le_refl _)
        clear b12
        have Pd := Lib.hid Vd.out
        have Pa := Lib.hid Va.out
        have Pb := Lib.hid Vb.out
        have BP := Lib.hid BW12.out
        clear Vd Va Vb
        obtain ⟨ad, cd, bd, ed, hBd, hDd⟩ := Pd.out.ex
        have xd0 := hBd.c0
        have xd1 := hBd.c1
        have xd2 := hBd.c2
        have xd3 := hBd.c3
        have xdl := hBd.lt
        have HDd := Lib.hid hDd
        clear hBd hDd
        have HC := Lib.hid (conv_d (ok.arm _ d n _ HDd.out FD.out HN.out) Ear.out)
        go_wp2_with fail
        refine HC.out.mono ?_
        rintro r w13 ⟨sa13, sc13, pa13, pc13, rfl, h13, b13⟩
        clear HC
        clear xd0 xd1 xd2 xd3 xdl HDd
        have Z13 : Hid (w12.heap.size ≤ w13.heap.size) := b13.size
        have Vd := Lib.hid (Pd.out.next b13)
        have Va := Lib.hid (Pa.out.next b13)
        have Vb := Lib.hid (Pb.out.next b13)
        have BW13 : Hid (Below w.heap.size w w13) := chain BP.out b13
        clear BP
        clear Pd Pa Pb
        have NE_0_13 : Hid (w.heap.size < w13.heap.size) := Nat.lt_of_lt_of_le (Vd.out.lt) (Nat.le_refl _)
        have NE_3_13 : Hid (w3.heap.size < w13.heap.size) := Nat.lt_of_lt_of_le (Va.out.lt) (Nat.le_refl _)
        have NE_4_13 : Hid (w4.heap.size < w13.heap.size) := Nat.lt_of_lt_of_le (Vb.out.lt) (Nat.le_refl _)
        have H13 := Lib.hid h13
        clear h13 b13
        obtain ⟨oa, oc, ob, oe, hO, -⟩ := Va.out.ex
        have o0 := hO.c0
        have o1 := hO.c1
        have o2 := hO.c2
        have o3 := hO.c3
        have ol := hO.lt
        have of := hO.fz
        clear hO
        have Pd := Lib.hid (Vd.out.putO Va.out (by have q := NE_0_3.out; omega) (.slice sa13 (Dar).secs.length sc13) (.slice pa13 (Dar).pend.length pc13) Dar.left Dar.down)
        have Pb := Lib.hid (Vb.out.putO Va.out (by have q := NE_3_4.out; omega) (.slice sa13 (Dar).secs.length sc13) (.slice pa13 (Dar).pend.length pc13) Dar.left Dar.down)
        have Pa := Lib.hid (Vr.put Va.out H13.out)
        have BP : Hid (Below w.heap.size w (put4 w13 (w3.heap.size) (.slice sa13 (Dar).secs.length sc13) (.slice pa13 (Dar).pend.length pc13) Dar.left Dar.down)) := below_put BW13.out Va.out.lo _ _ _ _
        have zs13 : (put4 w13 (w3.heap.size) (.slice sa13 (Dar).secs.length sc13) (.slice pa13 (Dar).pend.length pc13) Dar.left Dar.down).heap.size = w13.heap.size := by simp
        have ZS13 := Lib.hid zs13
        clear zs13
        clear Vd Va Vb
        obtain ⟨ad, cd, bd, ed, hBd, hDd⟩ := Pd.out.ex
        have xd0 := hBd.c0
        have xd1 := hBd.c1
        have xd2 := hBd.c2
        have xd3 := hBd.c3
        have xdl := hBd.lt
        have HDd := Lib.hid hDd
        clear hBd hDd
        have HC := Lib.hid (conv_d (Arm_x _ d n _ HDd.out FD.out ) Ear.out)
        go_wp2_with fail
        refine HC.out.mono ?_
        rintro r w14 ⟨sa14, sc14, pa14, pc14, rfl, h14, b14⟩
        clear HC
        clear xd0 xd1 xd2 xd3 xdl HDd
        clear o0 o1 o2 o3 ol of
        have Z14 : Hid ((put4 w13 (w3.heap.size) (.slice sa13 (Dar).secs.length sc13) (.slice pa13 (Dar).pend.length pc13) Dar.left Dar.down).heap.size ≤ w14.heap.size) := b14.size
        have Vd := Lib.hid (Pd.out.next b14)
        have Va := Lib.hid (Pa.out.next b14)
        have Vb := Lib.hid (Pb.out.next b14)
        have BW14 : Hid (Below w.heap.size w w14) := chain BP.out b14
        clear BP
        clear Pd Pa Pb
        have NE_0_14 : Hid (w.heap.size < w14.heap.size) := Nat.lt_of_lt_of_le (Vd.out.lt) (Nat.le_refl _)
        have NE_3_14 : Hid (w3.heap.size < w14.heap.size) := Nat.lt_of_lt_of_le (Va.out.lt) (Nat.le_refl _)
        have NE_4_14 : Hid (w4.heap.size < w14.heap.size) := Nat.lt_of_lt_of_le (Vb.out.lt) (Nat.le_refl _)
        have H14 := Lib.hid h14
        clear h14 b14
        obtain ⟨oa, oc, ob, oe, hO, -⟩ := Vb.out.ex
        have o0 := hO.c0
        have o1 := hO.c1
        have o2 := hO.c2
        have o3 := hO.c3
        have ol := hO.lt
        have of := hO.fz
        clear hO
        have Pd := Lib.hid (Vd.out.putO Vb.out (by have q := NE_0_4.out; omega) (.slice sa14 (Dar).secs.length sc14) (.slice pa14 (Dar).pend.length pc14) Dar.left Dar.down)
        have Pa := Lib.hid (Va.out.putO Vb.out (by have q := NE_3_4.out; omega) (.slice sa14 (Dar).secs.length sc14) (.slice pa14 (Dar).pend.length pc14) Dar.left Dar.down)
        have Pb := Lib.hid (Vr.put Vb.out H14.out)
        have BP : Hid (Below w.heap.size w (put4 w14 (w4.heap.size) (.slice sa14 (Dar).secs.length sc14) (.slice pa14 (Dar).pend.length pc14) Dar.left Dar.down)) := below_put BW14.out Vb.out.lo _ _ _ _
        have zs14 : (put4 w14 (w4.heap.size) (.slice sa14 (Dar).secs.length sc14) (.slice pa14 (Dar).pend.length pc14) Dar.left Dar.down).heap.size = w14.heap.size := by simp
        have ZS14 := Lib.hid zs14
        clear zs14
        clear Vd Va Vb
        obtain ⟨aa, ca, ba, ea, hBa, hDa⟩ := Pa.out.ex
        have xa0 := hBa.c0
        have xa1 := hBa.c1
        have xa2 := hBa.c2
        have xa3 := hBa.c3
        have xal := hBa.lt
        have HDa := Lib.hid hDa
        clear hBa hDa
        obtain ⟨ab, cb, bb, eb, hBb, hDb⟩ := Pb.out.ex
        have xb0 := hBb.c0
        have xb1 := hBb.c1
        have xb2 := hBb.c2
        have xb3 := hBb.c3
        have xbl := hBb.lt
        have HDb := Lib.hid hDb
        clear hBb hDb
        have HC := Lib.hid (Same_x _ _ Dar _ HDa.out HDb.out Far.out)
        go_wp2_with fail
        refine HC.out.mono ?_
        rintro r w15 ⟨rfl, b15⟩
        clear HC
        clear xa0 xa1 xa2 xa3 xal HDa
        clear xb0 xb1 xb2 xb3 xbl HDb
        clear o0 o1 o2 o3 ol of
        have Z15 : Hid ((put4 w14 (w4.heap.size) (.slice sa14 (Dar).secs.length sc14) (.slice pa14 (Dar).pend.length pc14) Dar.left Dar.down).heap.size ≤ w15.heap.size) := b15.size
        have Vd := Lib.hid (Pd.out.next b15)
        have Va := Lib.hid (Pa.out.next b15)
        have Vb := Lib.hid (Pb.out.next b15)
        have BW15 : Hid (Below w.heap.size w w15) := chain BP.out b15
        clear BP
        clear Pd Pa Pb
        have NE_0_15 : Hid (w.heap.size < w15.heap.size) := Nat.lt_of_lt_of_le (Vd.out.lt) (Nat.le_refl _)
        have NE_3_15 : Hid (w3.heap.size < w15.heap.size) := Nat.lt_of_lt_of_le (Va.out.lt) (Nat.le_refl _)
        have NE_4_15 : Hid (w4.heap.size < w15.heap.size) := Nat.lt_of_lt_of_le (Vb.out.lt) (Nat.le_refl _)
        clear b15
        have Pd := Lib.hid Vd.out
        have Pa := Lib.hid Va.out
        have Pb := Lib.hid Vb.out
        have BP := Lib.hid BW15.out
        clear Vd Va Vb
        obtain ⟨ad, cd, bd, ed, hBd, hDd⟩ := Pd.out.ex
        have xd0 := hBd.c0
        have xd1 := hBd.c1
        have xd2 := hBd.c2
        have xd3 := hBd.c3
        have xdl := hBd.lt
        have HDd := Lib.hid hDd
        clear hBd hDd
        have HC := Lib.hid (conv_d (ok.cut _ d  _ HDd.out FD.out ) Ecu.out)
        go_wp2_with fail
        refine HC.out.mono ?_
        rintro r w16 ⟨sa16, sc16, pa16, pc16, rfl, h16, b16⟩
        clear HC
        clear xd0 xd1 xd2 xd3 xdl HDd
        have Z16 : Hid (w15.heap.size ≤ w16.heap.size) := b16.size
        have Vd := Lib.hid (Pd.out.next b16)
        have Va := Lib.hid (Pa.out.next b16)
        have Vb := Lib.hid (Pb.out.next b16)
        have BW16 : Hid (Below w.heap.size w w16) := chain BP.out b16
        clear BP
        clear Pd Pa Pb
        have NE_0_16 : Hid (w.heap.size < w16.heap.size) := Nat.lt_of_lt_of_le (Vd.out.lt) (Nat.le_refl _)
        have NE_3_16 : Hid (w3.heap.size < w16.heap.size) := Nat.lt_of_lt_of_le (Va.out.lt) (Nat.le_refl _)
        have NE_4_16 : Hid (w4.heap.size < w16.heap.size) := Nat.lt_of_lt_of_le (Vb.out.lt) (Nat.le_refl _)
        have H16 := Lib.hid h16
        clear h16 b16
        obtain ⟨oa, oc, ob, oe, hO, -⟩ := Va.out.ex
        have o0 := hO.c0
        have o1 := hO.c1
        have o2 := hO.c2
        have o3 := hO.c3
        have ol := hO.lt
        have of := hO.fz
        clear hO
        have Pd := Lib.hid (Vd.out.putO Va.out (by have q := NE_0_3.out; omega) (.slice sa16 (Dcu).secs.length sc16) (.slice pa16 (Dcu).pend.length pc16) Dcu.left Dcu.down)
        have Pb := Lib.hid (Vb.out.putO Va.out (by have q := NE_3_4.out; omega) (.slice sa16 (Dcu).secs.length sc16) (.slice pa16 (Dcu).pend.length pc16) Dcu.left Dcu.down)
        have Pa := Lib.hid (Vr.put Va.out H16.out)
        have BP : Hid (Below w.heap.size w (put4 w16 (w3.heap.size) (.slice sa16 (Dcu).secs.length sc16) (.slice pa16 (Dcu).pend.length pc16) Dcu.left Dcu.down)) := below_put BW16.out Va.out.lo _ _ _ _
        have zs16 : (put4 w16 (w3.heap.size) (.slice sa16 (Dcu).secs.length sc16) (.slice pa16 (Dcu).pend.length pc16) Dcu.left Dcu.down).heap.size = w16.heap.size := by simp
        have ZS16 := Lib.hid zs16
        clear zs16
        clear Vd Va Vb
        obtain ⟨ad, cd, bd, ed, hBd, hDd⟩ := Pd.out.ex
        have xd0 := hBd.c0
        have xd1 := hBd.c1
        have xd2 := hBd.c2
        have xd3 := hBd.c3
        have xdl := hBd.lt
        have HDd := Lib.hid hDd
        clear hBd hDd
        have HC := Lib.hid (conv_d (Cut_x _ d  _ HDd.out FD.out ) Ecu.out)
        go_wp2_with fail
        refine HC.out.mono ?_
        rintro r w17 ⟨sa17, sc17, pa17, pc17, rfl, h17, b17⟩
        clear HC
        clear xd0 xd1 xd2 xd3 xdl HDd
        clear o0 o1 o2 o3 ol of
        have Z17 : Hid ((put4 w16 (w3.heap.size) (.slice sa16 (Dcu).secs.length sc16) (.slice pa16 (Dcu).pend.length pc16) Dcu.left Dcu.down).heap.size ≤ w17.heap.size) := b17.size
        have Vd := Lib.hid (Pd.out.next b17)
        have Va := Lib.hid (Pa.out.next b17)
        have Vb := Lib.hid (Pb.out.next b17)
        have BW17 : Hid (Below w.heap.size w w17) := chain BP.out b17
        clear BP
        clear Pd Pa Pb
        have NE_0_17 : Hid (w.heap.size < w17.heap.size) := Nat.lt_of_lt_of_le (Vd.out.lt) (Nat.le_refl _)
        have NE_3_17 : Hid (w3.heap.size < w17.heap.size) := Nat.lt_of_lt_of_le (Va.out.lt) (Nat.le_refl _)
        have NE_4_17 : Hid (w4.heap.size < w17.heap.size) := Nat.lt_of_lt_of_le (Vb.out.lt) (Nat.le_refl _)
        have H17 := Lib.hid h17
        clear h17 b17
        obtain ⟨oa, oc, ob, oe, hO, -⟩ := Vb.out.ex
        have o0 := hO.c0
        have o1 := hO.c1
        have o2 := hO.c2
        have o3 := hO.c3
        have ol := hO.lt
        have of := hO.fz
        clear hO
        have Pd := Lib.hid (Vd.out.putO Vb.out (by have q := NE_0_4.out; omega) (.slice sa17 (Dcu).secs.length sc17) (.slice pa17 (Dcu).pend.length pc17) Dcu.left Dcu.down)
        have Pa := Lib.hid (Va.out.putO Vb.out (by have q := NE_3_4.out; omega) (.slice sa17 (Dcu).secs.length sc17) (.slice pa17 (Dcu).pend.length pc17) Dcu.left Dcu.down)
        have Pb := Lib.hid (Vr.put Vb.out H17.out)
        have BP : Hid (Below w.heap.size w (put4 w17 (w4.heap.size) (.slice sa17 (Dcu).secs.length sc17) (.slice pa17 (Dcu).pend.length pc17) Dcu.left Dcu.down)) := below_put BW17.out Vb.out.lo _ _ _ _
        have zs17 : (put4 w17 (w4.heap.size) (.slice sa17 (Dcu).secs.length sc17) (.slice pa17 (Dcu).pend.length pc17) Dcu.left Dcu.down).heap.size = w17.heap.size := by simp
        have ZS17 := Lib.hid zs17
        clear zs17
        clear Vd Va Vb
        obtain ⟨aa, ca, ba, ea, hBa, hDa⟩ := Pa.out.ex
        have xa0 := hBa.c0
        have xa1 := hBa.c1
        have xa2 := hBa.c2
        have xa3 := hBa.c3
        have xal := hBa.lt
        have HDa := Lib.hid hDa
        clear hBa hDa
        obtain ⟨ab, cb, bb, eb, hBb, hDb⟩ := Pb.out.ex
        have xb0 := hBb.c0
        have xb1 := hBb.c1
        have xb2 := hBb.c2
        have xb3 := hBb.c3
        have xbl := hBb.lt
        have HDb := Lib.hid hDb
        clear hBb hDb
        have HC := Lib.hid (Same_x _ _ Dcu _ HDa.out HDb.out Fcu.out)
        go_wp2_with fail
        refine HC.out.mono ?_
        rintro r w18 ⟨rfl, b18⟩
        clear HC
        clear xa0 xa1 xa2 xa3 xal HDa
        clear xb0 xb1 xb2 xb3 xbl HDb
        clear o0 o1 o2 o3 ol of
        have Z18 : Hid ((put4 w17 (w4.heap.size) (.slice sa17 (Dcu).secs.length sc17) (.slice pa17 (Dcu).pend.length pc17) Dcu.left Dcu.down).heap.size ≤ w18.heap.size) := b18.size
        have Vd := Lib.hid (Pd.out.next b18)
        have Va := Lib.hid (Pa.out.next b18)
        have Vb := Lib.hid (Pb.out.next b18)
        have BW18 : Hid (Below w.heap.size w w18) := chain BP.out b18
        clear BP
        clear Pd Pa Pb
        have NE_0_18 : Hid (w.heap.size < w18.heap.size) := Nat.lt_of_lt_of_le (Vd.out.lt) (Nat.le_refl _)
        have NE_3_18 : Hid (w3.heap.size < w18.heap.size) := Nat.lt_of_lt_of_le (Va.out.lt) (Nat.le_refl _)
        have NE_4_18 : Hid (w4.heap.size < w18.heap.size) := Nat.lt_of_lt_of_le (Vb.out.lt) (Nat.le_refl _)
        clear b18
        have Pd := Lib.hid Vd.out
        have Pa := Lib.hid Va.out
        have Pb := Lib.hid Vb.out
        have BP := Lib.hid BW18.out
        clear Vd Va Vb
        obtain ⟨ad, cd, bd, ed, hBd, hDd⟩ := Pd.out.ex
        have xd0 := hBd.c0
        have xd1 := hBd.c1
        have xd2 := hBd.c2
        have xd3 := hBd.c3
        have xdl := hBd.lt
        have HDd := Lib.hid hDd
        clear hBd hDd
        have HC := Lib.hid (conv_d (ok.start _ d  _ HDd.out FD.out ) Est.out)
        go_wp2_with fail
        refine HC.out.mono ?_
        rintro r w19 ⟨sa19, sc19, pa19, pc19, rfl, h19, b19⟩
        clear HC
        clear xd0 xd1 xd2 xd3 xdl HDd
        have Z19 : Hid (w18.heap.size ≤ w19.heap.size) := b19.size
        have Vd := Lib.hid (Pd.out.next b19)
        have Va := Lib.hid (Pa.out.next b19)
        have Vb := Lib.hid (Pb.out.next b19)
        have BW19 : Hid (Below w.heap.size w w19) := chain BP.out b19
        clear BP
        clear Pd Pa Pb
        have NE_0_19 : Hid (w.heap.size < w19.heap.size) := Nat.lt_of_lt_of_le (Vd.out.lt) (Nat.le_refl _)
        have NE_3_19 : Hid (w3.heap.size < w19.heap.size) := Nat.lt_of_lt_of_le (Va.out.lt) (Nat.le_refl _)
        have NE_4_19 : Hid (w4.heap.size < w19.heap.size) := Nat.lt_of_lt_of_le (Vb.out.lt) (Nat.le_refl _)
        have H19 := Lib.hid h19
        clear h19 b19
        obtain ⟨oa, oc, ob, oe, hO, -⟩ := Va.out.ex
        have o0 := hO.c0
        have o1 := hO.c1
        have o2 := hO.c2
        have o3 := hO.c3
        have ol := hO.lt
        have of := hO.fz
        clear hO
        have Pd := Lib.hid (Vd.out.putO Va.out (by have q := NE_0_3.out; omega) (.slice sa19 (Dst).secs.length sc19) (.slice pa19 (Dst).pend.length pc19) Dst.left Dst.down)
        have Pb := Lib.hid (Vb.out.putO Va.out (by have q := NE_3_4.out; omega) (.slice sa19 (Dst).secs.length sc19) (.slice pa19 (Dst).pend.length pc19) Dst.left Dst.down)
        have Pa := Lib.hid (Vr.put Va.out H19.out)
        have BP : Hid (Below w.heap.size w (put4 w19 (w3.heap.size) (.slice sa19 (Dst).secs.length sc19) (.slice pa19 (Dst).pend.length pc19) Dst.left Dst.down)) := below_put BW19.out Va.out.lo _ _ _ _
        have zs19 : (put4 w19 (w3.heap.size) (.slice sa19 (Dst).secs.length sc19) (.slice pa19 (Dst).pend.length pc19) Dst.left Dst.down).heap.size = w19.heap.size := by simp
        have ZS19 := Lib.hid zs19
        clear zs19
        clear Vd Va Vb
        obtain ⟨ad, cd, bd, ed, hBd, hDd⟩ := Pd.out.ex
        have xd0 := hBd.c0
        have xd1 := hBd.c1
        have xd2 := hBd.c2
        have xd3 := hBd.c3
        have xdl := hBd.lt
        have HDd := Lib.hid hDd
        clear hBd hDd
        have HC := Lib.hid (conv_d (Start_x _ d  _ HDd.out FD.out ) Est.out)
        go_wp2_with fail
        refine HC.out.mono ?_
        rintro r w20 ⟨sa20, sc20, pa20, pc20, rfl, h20, b20⟩
        clear HC
        clear xd0 xd1 xd2 xd3 xdl HDd
        clear o0 o1 o2 o3 ol of
        have Z20 : Hid ((put4 w19 (w3.heap.size) (.slice sa19 (Dst).secs.length sc19) (.slice pa19 (Dst).pend.length pc19) Dst.left Dst.down).heap.size ≤ w20.heap.size) := b20.size
        have Vd := Lib.hid (Pd.out.next b20)
        have Va := Lib.hid (Pa.out.next b20)
        have Vb := Lib.hid (Pb.out.next b20)
        have BW20 : Hid (Below w.heap.size w w20) := chain BP.out b20
        clear BP
        clear Pd Pa Pb
        have NE_0_20 : Hid (w.heap.size < w20.heap.size) := Nat.lt_of_lt_of_le (Vd.out.lt) (Nat.le_refl _)
        have NE_3_20 : Hid (w3.heap.size < w20.heap.size) := Nat.lt_of_lt_of_le (Va.out.lt) (Nat.le_refl _)
        have NE_4_20 : Hid (w4.heap.size < w20.heap.size) := Nat.lt_of_lt_of_le (Vb.out.lt) (Nat.le_refl _)
        have H20 := Lib.hid h20
        clear h20 b20
        obtain ⟨oa, oc, ob, oe, hO, -⟩ := Vb.out.ex
        have o0 := hO.c0
        have o1 := hO.c1
        have o2 := hO.c2
        have o3 := hO.c3
        have ol := hO.lt
        have of := hO.fz
        clear hO
        have Pd := Lib.hid (Vd.out.putO Vb.out (by have q := NE_0_4.out; omega) (.slice sa20 (Dst).secs.length sc20) (.slice pa20 (Dst).pend.length pc20) Dst.left Dst.down)
        have Pa := Lib.hid (Va.out.putO Vb.out (by have q := NE_3_4.out; omega) (.slice sa20 (Dst).secs.length sc20) (.slice pa20 (Dst).pend.length pc20) Dst.left Dst.down)
        have Pb := Lib.hid (Vr.put Vb.out H20.out)
        have BP : Hid (Below w.heap.size w (put4 w20 (w4.heap.size) (.slice sa20 (Dst).secs.length sc20) (.slice pa20 (Dst).pend.length pc20) Dst.left Dst.down)) := below_put BW20.out Vb.out.lo _ _ _ _
        have zs20 : (put4 w20 (w4.heap.size) (.slice sa20 (Dst).secs.length sc20) (.slice pa20 (Dst).pend.length pc20) Dst.left Dst.down).heap.size = w20.heap.size := by simp
        have ZS20 := Lib.hid zs20
        clear zs20
        clear Vd Va Vb
        obtain ⟨aa, ca, ba, ea, hBa, hDa⟩ := Pa.out.ex
        have xa0 := hBa.c0
        have xa1 := hBa.c1
        have xa2 := hBa.c2
        have xa3 := hBa.c3
        have xal := hBa.lt
        have HDa := Lib.hid hDa
        clear hBa hDa
        obtain ⟨ab, cb, bb, eb, hBb, hDb⟩ := Pb.out.ex
        have xb0 := hBb.c0
        have xb1 := hBb.c1
        have xb2 := hBb.c2
        have xb3 := hBb.c3
        have xbl := hBb.lt
        have HDb := Lib.hid hDb
        clear hBb hDb
        have HC := Lib.hid (Same_x _ _ Dst _ HDa.out HDb.out Fst.out)
        go_wp2_with fail
        refine HC.out.mono ?_
        rintro r w21 ⟨rfl, b21⟩
        clear HC
        clear xa0 xa1 xa2 xa3 xal HDa
        clear xb0 xb1 xb2 xb3 xbl HDb
        clear o0 o1 o2 o3 ol of
        have Z21 : Hid ((put4 w20 (w4.heap.size) (.slice sa20 (Dst).secs.length sc20) (.slice pa20 (Dst).pend.length pc20) Dst.left Dst.down).heap.size ≤ w21.heap.size) := b21.size
        have Vd := Lib.hid (Pd.out.next b21)
        have Va := Lib.hid (Pa.out.next b21)
        have Vb := Lib.hid (Pb.out.next b21)
        have BW21 : Hid (Below w.heap.size w w21) := chain BP.out b21
        clear BP
        clear Pd Pa Pb
        have NE_0_21 : Hid (w.heap.size < w21.heap.size) := Nat.lt_of_lt_of_le (Vd.out.lt) (Nat.le_refl _)
        have NE_3_21 : Hid (w3.heap.size < w21.heap.size) := Nat.lt_of_lt_of_le (Va.out.lt) (Nat.le_refl _)
        have NE_4_21 : Hid (w4.heap.size < w21.heap.size) := Nat.lt_of_lt_of_le (Vb.out.lt) (Nat.le_refl _)
        clear b21
        have Pd := Lib.hid Vd.out
        have Pa := Lib.hid Va.out
        have Pb := Lib.hid Vb.out
        have BP := Lib.hid BW21.out
        clear Vd Va Vb
        go_wp2_with fail
        go_ret
        exact ⟨rfl, BP.out⟩

end Go.Proofs.Ytcbeodhopimmlaa
