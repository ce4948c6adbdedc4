/-
  The reference's Flush.
-/
import Derived.Test.YtemldlhhlneleaaDoorRefE
namespace Go.Proofs.YtemldlhhlneleaaDoor
open Go.RowKit Dk

theorem Row.other {w : World} {g : Nat} {l : List Value} (h : Row w g l) {p : Addr} (hp : p.block ≠ g) (u : Value) : Row (w.setCell p u) g l := by
  have hb : (w.setCell p u).heap[g]? = w.heap[g]? := Below.heap_setCell _ _ _ _ (fun e => hp e.symm)
  exact ⟨by simpa using h.lt, fun j v hv => by rw [World.cell?_of_block (a := ⟨g, j, none⟩) hb]; exact h.c j v hv, fun j hj => by rw [World.frozen?_of_block (a := ⟨g, j, none⟩) hb]; exact h.fz j hj⟩
theorem cell_here (w : World) (cs : Array Value) (T : TypeId) (n : Nat) (hn : n = w.heap.size) (o : Nat) (u : Value) (h : cs.toList[o]? = some u) : (w.alloc (.cells cs T)).cell? ⟨n, o, none⟩ = some u := by
  subst hn
  rw [World.cell?_alloc_new]
  simpa using h
theorem DAt.made {W : World} {g cap n : Nat} {l : List B} {k : Int} {b : Bool} (h : Row W g (strs l)) (hn : n = l.length) (hc : n ≤ cap) : DAt W (.agg #[.slice (some ⟨g, 0, none⟩) n cap, .slice none 0 0, .int .i64 k, .bool b]) ⟨l, [], k, b⟩ := by
  refine ⟨_, _, rfl, ?_, WAt.nil W⟩
  exact h.at (by rw [strs_len]; exact hn) hc

set_option maxHeartbeats 6400000 in
set_option maxRecDepth 100000 in
theorem Flush_x (v : Value) (d : D) (w : World) (h : DAt w v d) (hf : Fit d) :
    Calls Tryd.prog 36 #[v] w fun r w' => ∃ x, r = .returned (.tuple #[x, .int .i64 (flV d).2]) ∧ DAt w' x (flV d).1 ∧ Below w.heap.size w w' := by
  obtain ⟨a, c, b, c2, rfl, -, -, HS, HP⟩ := h.form
  obtain ⟨dl, hdl⟩ : ∃ x, d.left = x := ⟨_, rfl⟩
  obtain ⟨dd, hdd⟩ : ∃ x, d.down = x := ⟨_, rfl⟩
  rw [hdl, hdd] at h
  have HD := Lib.hid h
  have BW : Hid (Below w.heap.size w ((w.alloc (.cells #[.slice a d.secs.length c, .slice b d.pend.length c2, .int .i64 dl, .bool dd] 27)).alloc (.cells #[.slice none 0 0, .slice none 0 0, .int .i64 0, .bool false] 27))) := chain (Below.new1 _) (Below.new1 _)
  have HU := Lib.hid (up_x _ d _ (h.next BW.out) hf)
  have X1 : Hid (Bx (.slice a d.secs.length c) (.slice b d.pend.length c2) dl dd w.heap.size ((w.alloc (.cells #[.slice a d.secs.length c, .slice b d.pend.length c2, .int .i64 dl, .bool dd] 27)).alloc (.cells #[.slice none 0 0, .slice none 0 0, .int .i64 0, .bool false] 27))) := (Bx.new _ _ _ _ _ _).next (Below.new1 _)
  have Y1 : Hid (Bx (.slice none 0 0) (.slice none 0 0) 0 false (w.heap.size + 1) ((w.alloc (.cells #[.slice a d.secs.length c, .slice b d.pend.length c2, .int .i64 dl, .bool dd] 27)).alloc (.cells #[.slice none 0 0, .slice none 0 0, .int .i64 0, .bool false] 27))) := by
    have hy := Bx.new (w.alloc (.cells #[.slice a d.secs.length c, .slice b d.pend.length c2, .int .i64 dl, .bool dd] 27)) (.slice none 0 0) (.slice none 0 0) 0 false 27
    rw [show (w.alloc (.cells #[.slice a d.secs.length c, .slice b d.pend.length c2, .int .i64 dl, .bool dd] 27)).heap.size = w.heap.size + 1 by simp] at hy
    exact hy
  rw [hdl, hdd]
  have HDL := Lib.hid hdl
  have HDN := Lib.hid hdd
  have HF := Lib.hid hf
  obtain ⟨ue, hue⟩ : ∃ x, upE d = x := ⟨_, rfl⟩
  have HUE := Lib.hid hue
  clear h hf hdl hdd hue
  go_enter Tryd.func36, Tryd.ntmps36
  go_wp2_with fail
  refine HU.out.mono ?_
  rintro r w1 ⟨rfl, b1⟩
  have BX := Lib.hid (X1.out.next b1)
  have BY := Lib.hid (Y1.out.next b1)
  have x0 := BX.out.c0
  have x1 := BX.out.c1
  have x2 := BX.out.c2
  have x3 := BX.out.c3
  have xl := BX.out.lt
  have xf := BX.out.fz
  have y0 := BY.out.c0
  have y1 := BY.out.c1
  have y2 := BY.out.c2
  have y3 := BY.out.c3
  have yl := BY.out.lt
  have yf := BY.out.fz
  have B1 := Lib.hid (chain BW.out b1)
  have D1 := Lib.hid (HD.out.next (chain BW.out b1))
  rw [HUE.out]
  clear b1 HU X1 Y1
  by_cases u : ue = 0
  case neg =>
    have u0 : (ue != 0) = true := by simpa using u
    have hv : Hid (flV d = (D0, ue)) := by show _ = _; unfold flV; rw [HUE.out, if_neg u]
    clear u
    go_wp2_with fail
    exact bodyPost_ret (v := .tuple #[.agg #[.slice none 0 0, .slice none 0 0, .int .i64 0, .bool false], .int .i64 ue]) (by simp [results, Tryd.results36, go_sem, y0, y1, y2, y3]) rfl ⟨_, by rw [hv.out]; try rfl, by rw [hv.out]; exact DAt.zero _, (by repeat (first | exact B1.out | refine Below.setCell ?_ (Nat.le_succ _) _ | refine Below.setCell ?_ (by simp) _))⟩
  case pos =>
    subst u
    obtain ⟨hck, hdn⟩ := upE_zero.1 HUE.out
    obtain ⟨⟨hn1, hn2, hn3, hn4, hn5⟩, hsz, hpd, -⟩ := check_iff.1 hck
    have HCK := Lib.hid hck
    have HSZ := Lib.hid hsz
    have HPD := Lib.hid hpd
    rw [HDL.out] at hn4 hn5
    clear hck hdn hsz hpd
    by_cases t1 : 0 ≤ dl
    case neg =>
      have hv : Hid (flV d = (flushD d, 0)) := by show _ = _; unfold flV; rw [HUE.out, if_pos rfl, if_neg (by rw [HDL.out]; omega)]
      have hfd : Hid (flushD d = ⟨perf d.secs d.pend, [], -1, false⟩) := by show _ = _; unfold flushD; rw [HDL.out, if_neg t1]
      go_wp2_with fail
      refine (sectors_x _ d d.pend.length w1 D1.out HCK.out (Nat.le_refl _)).mono ?_
      rintro r w2 ⟨g, gc, rfl, hgc, hg, hrow, b2⟩
      rw [List.take_of_length_le (Nat.le_refl _)] at hrow
      have RW := Lib.hid hrow
      have gw1 : w.heap.size ≠ g := by have := BX.out.lt; omega
      have gw2 : w.heap.size + 1 ≠ g := by have := BY.out.lt; omega
      have BX2 := Lib.hid (BX.out.next b2)
      have BY2 := Lib.hid (BY.out.next b2)
      clear x0 x1 x2 x3 xl xf y0 y1 y2 y3 yl yf
      have x0 := BX2.out.c0
      have x1 := BX2.out.c1
      have x2 := BX2.out.c2
      have x3 := BX2.out.c3
      have xl := BX2.out.lt
      have xf := BX2.out.fz
      have y0 := BY2.out.c0
      have y1 := BY2.out.c1
      have y2 := BY2.out.c2
      have y3 := BY2.out.c3
      have yl := BY2.out.lt
      have yf := BY2.out.fz
      have B2 := Lib.hid (chain B1.out b2)
      clear b2 hrow
      go_wp2_with fail
      exact bodyPost_ret (v := .tuple #[.agg #[.slice (some ⟨g, 0, none⟩) d.secs.length gc, .slice none 0 0, .int .i64 (-1), .bool false], .int .i64 0]) (by simp [results, Tryd.results36, go_sem, World.cell?_alloc_lt, yl, y0, y1, y2, y3]) rfl ⟨_, by rw [hv.out]; try rfl, by rw [hv.out, hfd.out]; exact DAt.made (by repeat (first | refine Row.other ?_ (by first | exact gw1 | exact gw2) _ | with_reducible exact RW.out | (refine Row.next ?_ (Below.new1 _)))) (perf_len _ _).symm hgc, (by repeat (first | exact B2.out | refine Below.setCell ?_ (Nat.le_succ _) _ | refine Below.setCell ?_ (by simp) _ | refine Below.alloc ?_ (by simpa using B2.out.size) _ | refine Below.drew ?_))⟩
    case pos =>
      by_cases t2 : dl < (d.pend.length : Int)
      case neg =>
        have hv : Hid (flV d = (flushD d, 0)) := by show _ = _; unfold flV; rw [HUE.out, if_pos rfl, if_neg (by rw [HDL.out]; omega)]
        have hfd : Hid (flushD d = ⟨perf d.secs d.pend, [], dl - d.pend.length, false⟩) := by show _ = _; unfold flushD; rw [HDL.out, if_pos t1]
        go_wp2_with fail
        refine (sectors_x _ d d.pend.length w1 D1.out HCK.out (Nat.le_refl _)).mono ?_
        rintro r w2 ⟨g, gc, rfl, hgc, hg, hrow, b2⟩
        rw [List.take_of_length_le (Nat.le_refl _)] at hrow
        have RW := Lib.hid hrow
        have gw1 : w.heap.size ≠ g := by have := BX.out.lt; omega
        have gw2 : w.heap.size + 1 ≠ g := by have := BY.out.lt; omega
        have BX2 := Lib.hid (BX.out.next b2)
        have BY2 := Lib.hid (BY.out.next b2)
        clear x0 x1 x2 x3 xl xf y0 y1 y2 y3 yl yf
        have x0 := BX2.out.c0
        have x1 := BX2.out.c1
        have x2 := BX2.out.c2
        have x3 := BX2.out.c3
        have xl := BX2.out.lt
        have xf := BX2.out.fz
        have y0 := BY2.out.c0
        have y1 := BY2.out.c1
        have y2 := BY2.out.c2
        have y3 := BY2.out.c3
        have yl := BY2.out.lt
        have yf := BY2.out.fz
        have B2 := Lib.hid (chain B1.out b2)
        clear b2 hrow
        go_wp2_with fail
        exact bodyPost_ret (v := .tuple #[.agg #[.slice (some ⟨g, 0, none⟩) d.secs.length gc, .slice none 0 0, .int .i64 (dl - d.pend.length), .bool false], .int .i64 0]) (by simp [results, Tryd.results36, go_sem, World.cell?_alloc_lt, yl, y0, y1, y2, y3]) rfl ⟨_, by rw [hv.out]; try rfl, by rw [hv.out, hfd.out]; exact DAt.made (by repeat (first | refine Row.other ?_ (by first | exact gw1 | exact gw2) _ | with_reducible exact RW.out | (refine Row.next ?_ (Below.new1 _)))) (perf_len _ _).symm hgc, (by repeat (first | exact B2.out | refine Below.setCell ?_ (Nat.le_succ _) _ | refine Below.setCell ?_ (by simp) _ | refine Below.alloc ?_ (by simpa using B2.out.size) _ | refine Below.drew ?_))⟩
      case pos =>
        obtain ⟨n, rfl⟩ := Int.eq_ofNat_of_zero_le t1
        have nl : n < d.pend.length := by omega
        obtain ⟨p, hp⟩ : ∃ p, d.pend[n]? = some p := ⟨_, List.getElem?_eq_getElem nl⟩
        obtain ⟨p0, p1, p2⟩ := HPD.out p (List.mem_of_getElem? hp)
        obtain ⟨q, off, rfl, g1, g2, g3⟩ := HP.out n p hp
        obtain ⟨m', t⟩ := p
        simp only at p0 p1 p2 g2 g3
        obtain ⟨m, rfl⟩ := Int.eq_ofNat_of_zero_le p0
        have mN : m < d.secs.length := by omega
        have mN' : (m : Int) < (d.secs.length : Int) := by omega
        have m0 : (0 : Int) ≤ (m : Int) := by omega
        obtain ⟨s0, hs0⟩ : ∃ s, (perf d.secs (d.pend.take n))[m]? = some s := ⟨_, List.getElem?_eq_getElem (by rw [perf_len]; exact mN)⟩
        have hs16 : s0.size = 16 := perf_size HSZ.out (fun p hp => (HPD.out p (List.mem_of_mem_take hp)).2.2) _ (List.mem_of_getElem? hs0)
        have hv : Hid (flV d = (tearD d, 8)) := by show _ = _; unfold flV; rw [HUE.out, if_pos rfl, if_pos (by rw [HDL.out]; omega)]
        have hfd : Hid (tearD d = ⟨(perf d.secs (d.pend.take n)).set m (torn t s0), [], -1, true⟩) := by
          show _ = _
          unfold tearD tearL
          rw [HDL.out, Int.toNat_natCast, hp]
          simp only [Option.getD_some, Int.toNat_natCast]
          rw [hs0]
          rfl
        have HS0 := Lib.hid hs0
        have y5 : w1.cell? ⟨q, off + n * 2, none⟩ = some (.int .i64 (m : Int)) := by rw [B1.out.cell (p := ⟨q, off + n * 2, none⟩) g1]; exact g2
        have y6 : w1.cell? ⟨q, off + n * 2 + 1, none⟩ = some (.string t) := by rw [B1.out.cell (p := ⟨q, off + n * 2 + 1, none⟩) g1]; exact g3
        have y7 : q < w1.heap.size := Nat.lt_of_lt_of_le g1 B1.out.size
        clear hp g1 g2 g3 hs0
        go_wp2_with fail
        refine (sectors_x _ d n w1 D1.out HCK.out (by omega)).mono ?_
        rintro r w2 ⟨g, gc, rfl, hgc, hg, hrow, b2⟩
        have RW := Lib.hid hrow
        have z5 : w2.cell? ⟨q, off + n * 2, none⟩ = some (.int .i64 (m : Int)) := by rw [b2.cell (p := ⟨q, off + n * 2, none⟩) y7]; exact y5
        have z6 : w2.cell? ⟨q, off + n * 2 + 1, none⟩ = some (.string t) := by rw [b2.cell (p := ⟨q, off + n * 2 + 1, none⟩) y7]; exact y6
        have z7 : q < w2.heap.size := Nat.lt_of_lt_of_le y7 b2.size
        clear y5 y6 y7
        have gw1 : w.heap.size ≠ g := by have := BX.out.lt; omega
        have gw2 : w.heap.size + 1 ≠ g := by have := BY.out.lt; omega
        have BX2 := Lib.hid (BX.out.next b2)
        have BY2 := Lib.hid (BY.out.next b2)
        clear x0 x1 x2 x3 xl xf y0 y1 y2 y3 yl yf
        have x0 := BX2.out.c0
        have x1 := BX2.out.c1
        have x2 := BX2.out.c2
        have x3 := BX2.out.c3
        have xl := BX2.out.lt
        have xf := BX2.out.fz
        have y0 := BY2.out.c0
        have y1 := BY2.out.c1
        have y2 := BY2.out.c2
        have y3 := BY2.out.c3
        have yl := BY2.out.lt
        have yf := BY2.out.fz
        have B2 := Lib.hid (chain B1.out b2)
        clear b2 hrow
        have gl : g < w2.heap.size := RW.out.lt
        have r1 : w2.cell? ⟨g, m, none⟩ = some (.string s0) := RW.out.c m _ (strs_get HS0.out)
        have r2 : w2.frozen? ⟨g, m, none⟩ = false := RW.out.fz m (by rw [strs_len, perf_len]; exact mN)
        have k1 : (8 : Int) ≤ (t.size : Int) := by omega
        have k2 : (8 : Int) ≤ (s0.size : Int) := by omega
        have k3 : (t.size : Int) ≤ 16 := by omega
        have k4 : (s0.size : Int) ≤ 16 := by omega
        have n1 : (w2.alloc (.cells #[.int .i64 (m : Int), .string t] 66)).cell? ⟨w2.heap.size, 0, none⟩ = some (.int .i64 (m : Int)) := by rw [World.cell?_alloc_new]; rfl
        have n2 : (w2.alloc (.cells #[.int .i64 (m : Int), .string t] 66)).cell? ⟨w2.heap.size, 1, none⟩ = some (.string t) := by rw [World.cell?_alloc_new]; rfl
        have gne : w2.heap.size ≠ g := by omega
        have T1 : Hid (t.extract 0 8 ++ s0.extract 8 16 = torn t s0) := by show _ = _; unfold torn; rw [hs16]
        have RS := Lib.hid (RW.out.set m (.string (t.extract 0 8 ++ s0.extract 8 16)) (by rw [strs_len, perf_len]; exact mN))
        rw [strs_set, T1.out] at RS
        have RS2 : Hid (Row (w2.setCell ⟨g, m, none⟩ (.string (t.extract 0 8 ++ s0.extract 8 16))) g (strs ((perf d.secs (d.pend.take n)).set m (torn t s0)))) := by show Row _ _ _; rw [T1.out]; exact RS.out
        have BS : Hid (Below w.heap.size w (w2.setCell ⟨g, m, none⟩ (.string (t.extract 0 8 ++ s0.extract 8 16)))) := B2.out.setCell (by show w.heap.size ≤ g; have := B1.out.size; omega) _
        have n3 : ((w2.setCell ⟨g, m, none⟩ (.string (t.extract 0 8 ++ s0.extract 8 16))).alloc (.cells #[.int .i64 (m : Int), .string t] 66)).cell? ⟨w2.heap.size, 0, none⟩ = some (.int .i64 (m : Int)) := cell_here _ _ _ _ (by simp) _ _ rfl
        have n4 : ((w2.setCell ⟨g, m, none⟩ (.string (t.extract 0 8 ++ s0.extract 8 16))).alloc (.cells #[.int .i64 (m : Int), .string t] 66)).cell? ⟨w2.heap.size, 1, none⟩ = some (.string t) := cell_here _ _ _ _ (by simp) _ _ rfl
        go_wp2_with fail
        refine wp_region_held_drew (S := fun w' => w'.cell? ⟨w2.heap.size, 0, none⟩ = some (.int .i64 (m : Int)) ∧ w'.cell? ⟨w2.heap.size, 1, none⟩ = some (.string t)) (by kernel_rfl) ?_ (fun hHeld => ?_)
        · exact ⟨n1, n2⟩
        refine takeN0 (v := ?_) (by kernel_rfl) (by kernel_rfl) (by kernel_rfl) (fun _ _ _ h => h) (by rfl) ?_ (by assumption) ?_
        rotate_left
        · intro wz hSw
          try dsimp only at hSw
          go_simp
          try with_reducible rfl
        try simp only [Act.put, List.setIfInBounds_toArray, List.set_cons_zero, List.set_cons_succ]
        refine takeN1 (v := ?_) (by kernel_rfl) (by kernel_rfl) (by kernel_rfl) (fun _ _ _ h => h) (by rfl) ?_ (by assumption) ?_
        rotate_left
        · intro wz hSw
          try dsimp only at hSw
          go_simp
          try with_reducible rfl
        try simp only [Act.put, List.setIfInBounds_toArray, List.set_cons_zero, List.set_cons_succ]
        refine takeN2 (v := ?_) (by kernel_rfl) (by kernel_rfl) (by kernel_rfl) (fun _ _ _ h => h) (by rfl) ?_ (by assumption) ?_
        rotate_left
        · intro wz hSw
          try dsimp only at hSw
          go_simp
          try with_reducible rfl
        try simp only [Act.put, List.setIfInBounds_toArray, List.set_cons_zero, List.set_cons_succ]
        refine takeN3 (v := ?_) (by kernel_rfl) (by kernel_rfl) (by kernel_rfl) (fun _ _ _ h => h) (by rfl) ?_ (by assumption) ?_
        rotate_left
        · intro wz hSw
          try dsimp only at hSw
          go_simp
          try with_reducible rfl
        try simp only [Act.put, List.setIfInBounds_toArray, List.set_cons_zero, List.set_cons_succ]
        refine takeN4 (v := ?_) (by kernel_rfl) (by kernel_rfl) (by kernel_rfl) (fun _ _ _ h => h) (by rfl) ?_ (by assumption) ?_
        rotate_left
        · intro wz hSw
          try dsimp only at hSw
          go_simp
          try with_reducible rfl
        try simp only [Act.put, List.setIfInBounds_toArray, List.set_cons_zero, List.set_cons_succ]
        refine takeN5 (v := ?_) (by kernel_rfl) (by kernel_rfl) (by kernel_rfl) (fun _ _ _ h => h) (by rfl) ?_ (by assumption) ?_
        rotate_left
        · intro wz hSw
          try dsimp only at hSw
          go_simp
          try with_reducible rfl
        try simp only [Act.put, List.setIfInBounds_toArray, List.set_cons_zero, List.set_cons_succ]
        refine takeN6 (v := ?_) (by kernel_rfl) (by kernel_rfl) (by kernel_rfl) (fun _ _ _ h => h) (by rfl) ?_ (by assumption) ?_
        rotate_left
        · intro wz hSw
          try dsimp only at hSw
          go_simp
          try with_reducible rfl
        try simp only [Act.put, List.setIfInBounds_toArray, List.set_cons_zero, List.set_cons_succ]
        refine takeN7 (v := ?_) (by kernel_rfl) (by kernel_rfl) (by kernel_rfl) (fun _ _ _ h => h) (by rfl) ?_ (by assumption) ?_
        rotate_left
        · intro wz hSw
          try dsimp only at hSw
          go_simp
          try with_reducible rfl
        try simp only [Act.put, List.setIfInBounds_toArray, List.set_cons_zero, List.set_cons_succ]
        refine takeN8 (v := ?_) (by kernel_rfl) (by kernel_rfl) (by kernel_rfl) (fun _ _ _ h => h) (by rfl) ?_ (by assumption) ?_
        rotate_left
        · intro wz hSw
          try dsimp only at hSw
          go_simp
          try with_reducible rfl
        try simp only [Act.put, List.setIfInBounds_toArray, List.set_cons_zero, List.set_cons_succ]
        refine takeN9 (v := ?_) (by kernel_rfl) (by kernel_rfl) (by kernel_rfl) (fun _ _ _ h => h) (by rfl) ?_ (by assumption) ?_
        rotate_left
        · intro wz hSw
          try dsimp only at hSw
          go_simp
          try with_reducible rfl
        try simp only [Act.put, List.setIfInBounds_toArray, List.set_cons_zero, List.set_cons_succ]
        refine comeN10 (by kernel_rfl) (by rfl) (fun K hK => ?_)
        go_simp
        refine hK.out _ _ ?_ (fun hHeld => ?_)
        · exact ⟨n1, n2⟩
        clear hK K
        try simp only [Act.put, List.setIfInBounds_toArray, List.set_cons_zero, List.set_cons_succ]
        refine takeN11 (v := ?_) (by kernel_rfl) (by kernel_rfl) (by kernel_rfl) (fun _ _ _ h => h) (by rfl) ?_ (by assumption) ?_
        rotate_left
        · intro wz hSw
          try dsimp only at hSw
          go_simp
          try with_reducible rfl
        try simp only [Act.put, List.setIfInBounds_toArray, List.set_cons_zero, List.set_cons_succ]
        refine takeN12 (v := ?_) (by kernel_rfl) (by kernel_rfl) (by kernel_rfl) (fun _ _ _ h => h) (by rfl) ?_ (by assumption) ?_
        rotate_left
        · intro wz hSw
          try dsimp only at hSw
          go_simp
          try with_reducible rfl
        try simp only [Act.put, List.setIfInBounds_toArray, List.set_cons_zero, List.set_cons_succ]
        refine takeN13 (v := ?_) (by kernel_rfl) (by kernel_rfl) (by kernel_rfl) (fun _ _ _ h => h) (by rfl) ?_ (by assumption) ?_
        rotate_left
        · intro wz hSw
          try dsimp only at hSw
          go_simp
          try with_reducible rfl
        try simp only [Act.put, List.setIfInBounds_toArray, List.set_cons_zero, List.set_cons_succ]
        refine comeN14 (by kernel_rfl) (by rfl) (fun K hK => ?_)
        go_simp
        refine hK.out _ _ ?_ (fun hHeld => ?_)
        · exact ⟨n3, n4⟩
        clear hK K
        try simp only [Act.put, List.setIfInBounds_toArray, List.set_cons_zero, List.set_cons_succ]
        refine wpAnyH_done (by kernel_rfl) ?_ _
        clear hHeld n1 n2 n3 n4 r1 r2
        go_wp2_with fail
        exact bodyPost_ret (v := .tuple #[.agg #[.slice (some ⟨g, 0, none⟩) d.secs.length gc, .slice none 0 0, .int .i64 (-1), .bool true], .int .i64 8]) (by simp [results, Tryd.results36, go_sem, World.cell?_alloc_lt, yl, y0, y1, y2, y3]) rfl ⟨_, by rw [hv.out]; try rfl, by rw [hv.out, hfd.out]; exact DAt.made (Row.next (Row.next (Row.other (Row.other (Row.other (Row.other RS2.out gw2 _) gw2 _) gw2 _) gw2 _) (Below.new1 _)) (Below.refl _ _).drew) (by rw [List.length_set, perf_len]) hgc, (((((BS.out.setCell (Nat.le_succ _) _).setCell (Nat.le_succ _) _).setCell (Nat.le_succ _) _).setCell (Nat.le_succ _) _).alloc (by simpa using BS.out.size) _).drew⟩

end Go.Proofs.YtemldlhhlneleaaDoor
