/-
  The program: Flush.
-/
import Derived.Test.YtemldlhhlneleaaDoorProD
namespace Go.Proofs.YtemldlhhlneleaaDoor
open Go.RowKit Dk

theorem own_cap {w : World} {base n s : Nat} {T : TypeId} {pa : Option Addr} {pc : Nat} {xs : List Value} (h : w.ownsRow base T s (.slice pa n pc) n xs) : n ≤ pc := by
  rcases h.2 with ⟨e, h0⟩ | ⟨g, cap, cur, e, -, -, h1, -⟩
  · omega
  · simp only [Value.slice.injEq] at e
    omega

set_option maxHeartbeats 6400000 in
set_option maxRecDepth 100000 in
theorem pFlush_x (v : Value) (d : D) (w : World) (h : DAt w v d) (hf : Fit d) :
    Calls Tryd.prog 59 #[v] w fun r w' => ∃ x, r = .returned (.tuple #[x, .int .i64 (flV d).2]) ∧ DAt w' x (flV d).1 ∧ Below w.heap.size w w' := by
  obtain ⟨a, c, b, c2, rfl, -, -, HS, HP⟩ := h.form
  obtain ⟨dl, hdl⟩ : ∃ x, d.left = x := ⟨_, rfl⟩
  obtain ⟨dd, hdd⟩ : ∃ x, d.down = x := ⟨_, rfl⟩
  rw [hdl, hdd] at h
  have HD := Lib.hid h
  obtain ⟨X1, Y1, BW⟩ := two_new w (.slice a d.secs.length c) (.slice b d.pend.length c2) dl dd
  have HX := Lib.hid X1
  have HY := Lib.hid Y1
  have HBW := Lib.hid BW
  have HU := Lib.hid (pUp_x _ d _ (h.next BW) hf)
  rw [hdl, hdd]
  have HDL := Lib.hid hdl
  have HDN := Lib.hid hdd
  have HF := Lib.hid hf
  obtain ⟨ue, hue⟩ : ∃ x, upE d = x := ⟨_, rfl⟩
  have HUE := Lib.hid hue
  clear h hf hdl hdd hue X1 Y1 BW
  go_enter Tryd.func59, Tryd.ntmps59
  go_wp2_with fail
  refine HU.out.mono ?_
  rintro r w1 ⟨rfl, b1⟩
  have BX := Lib.hid (HX.out.next b1)
  have BY := Lib.hid (HY.out.next b1)
  have x0 := BX.out.c0
  have x1 := BX.out.c1
  have x2 := BX.out.c2
  have x3 := BX.out.c3
  have xl := BX.out.lt
  have xf := BX.out.fz
  have y0 := BY.out.c0
  have y1 := BY.out.c1
  have y2 := BY.out.c2
  have y3 := BY.out.c3
  have yl := BY.out.lt
  have yf := BY.out.fz
  have BE := Lib.hid (chain HBW.out b1)
  have DE := Lib.hid (HD.out.next (chain HBW.out b1))
  rw [HUE.out]
  clear b1 HU HX HY HBW
  by_cases u : ue = 0
  case neg =>
    have u0 : (ue != 0) = true := by simpa using u
    have hv : Hid (flV d = (D0, ue)) := by show _ = _; unfold flV; rw [HUE.out, if_neg u]
    clear u
    go_wp2_with fail
    exact bodyPost_ret (v := .tuple #[.agg #[.slice none 0 0, .slice none 0 0, .int .i64 0, .bool false], .int .i64 ue]) (by simp [results, Tryd.results59, go_sem, y0, y1, y2, y3]) rfl ⟨_, by rw [hv.out]; try rfl, by rw [hv.out]; exact DAt.zero _, (by repeat (first | exact BE.out | refine Below.setCell ?_ (Nat.le_succ _) _ | refine Below.setCell ?_ (by simp) _))⟩
  case pos =>
    subst u
    have HCK := Lib.hid (upE_zero.1 HUE.out).1
    obtain ⟨⟨hn1, hn2, hn3, hn4, hn5⟩, hsz, hpd, -⟩ := check_iff.1 HCK.out
    have HSZ := Lib.hid hsz
    have HPD := Lib.hid hpd
    rw [HDL.out] at hn4 hn5
    obtain rfl : false = dd := by rw [← HDN.out]; exact (upE_zero.1 HUE.out).2.symm
    clear hsz hpd
    go_upto_region 4 with fail
    go_cut [] (fun wx => Fre d dl false w wx)
    case first =>
      go_wp2_with fail
      refine (fresh_x _ d _ DE.out HCK.out).mono ?_
      rintro r w2 ⟨g, gc, pa, pc, n', hr, hgc, hg, hgn, hrow, hown, bb⟩
      rw [HDL.out, HDN.out] at hr
      subst hr
      have s1 := BX.out.lt
      have s2 := BY.out.lt
      have k1 : w.heap.size ≠ g := by omega
      have k3 : w.heap.size < n' := by omega
      have FR : Hid (Fre d dl false w (put4 w2 w.heap.size (.slice (some ⟨g, 0, none⟩) d.secs.length gc) (.slice pa d.pend.length pc) dl false)) :=
        ⟨g, gc, pa, pc, n', hgc, by omega, hgn, (BX.out.next bb).put _ _ _ _, (BY.out.next bb).putO (by omega) _ _ _ _,
          Row.other (Row.other (Row.other (Row.other hrow k1 _) k1 _) k1 _) k1 _, own_set (own_set (own_set (own_set hown k3 _) k3 _) k3 _) k3 _, below_put (chain BE.out bb) (Nat.le_refl _) _ _ _ _⟩
      have BX' := Lib.hid (BX.out.next bb)
      clear hrow hown bb x0 x1 x2 x3 xl xf y0 y1 y2 y3 yl yf BX BY BE DE
      have BX := BX'
      have x0 := BX.out.c0
      have x1 := BX.out.c1
      have x2 := BX.out.c2
      have x3 := BX.out.c3
      have xl := BX.out.lt
      have xf := BX.out.fz
      clear BX BX'
      go_wp2_with fail
      go_meet
      exact FR.out
    case rest =>
      clear x0 x1 x2 x3 xl xf y0 y1 y2 y3 yl yf BX BY BE DE
      obtain ⟨g, gc, pa, pc, n', hgc, hg, hgn, hbx, hby, hrow, hown, hbel⟩ := hcut
      have k1 : w.heap.size ≠ g := by omega
      have k2 : w.heap.size + 1 ≠ g := by omega
      have k3 : w.heap.size < n' := by omega
      have k4 : w.heap.size + 1 < n' := by omega
      have kg : w.heap.size ≤ g := by omega
      have RW := Lib.hid hrow
      have ON := Lib.hid hown
      have BX := Lib.hid hbx
      have BY := Lib.hid hby
      have BE := Lib.hid hbel
      clear hrow hown hbx hby hbel
      have x0 := BX.out.c0
      have x1 := BX.out.c1
      have x2 := BX.out.c2
      have x3 := BX.out.c3
      have xl := BX.out.lt
      have xf := BX.out.fz
      have y0 := BY.out.c0
      have y1 := BY.out.c1
      have y2 := BY.out.c2
      have y3 := BY.out.c3
      have yl := BY.out.lt
      have yf := BY.out.fz
      by_cases t1 : 0 ≤ dl
      case neg =>
        obtain rfl : -1 = dl := by omega
        have hv : Hid (flV d = (⟨perf d.secs d.pend, [], (-1), false⟩, 0)) := by show _ = _; unfold flV flushD; rw [HUE.out, if_pos rfl, if_neg (by rw [HDL.out]; omega), HDL.out]; rfl
        have RS : Hid (Row (wc.setCell ⟨w.heap.size, 1, none⟩ (.slice none 0 0)) g (strs d.secs)) := RW.out.other k1 _
        have OS : Hid ((wc.setCell ⟨w.heap.size, 1, none⟩ (.slice none 0 0)).ownsRow n' 66 2 (.slice pa d.pend.length pc) d.pend.length (wC d.pend)) := own_set ON.out k3 _
        have BXS : Hid (Bx (.slice (some ⟨g, 0, none⟩) d.secs.length gc) (.slice none 0 0) (-1) false w.heap.size (wc.setCell ⟨w.heap.size, 1, none⟩ (.slice none 0 0))) := BX.out.set1 _
        have BYS : Hid (Bx (.slice none 0 0) (.slice none 0 0) 0 false (w.heap.size + 1) (wc.setCell ⟨w.heap.size, 1, none⟩ (.slice none 0 0))) := BY.out.othr (p := ⟨w.heap.size, 1, none⟩) (by show w.heap.size ≠ w.heap.size + 1; omega) _
        have BES : Hid (Below w.heap.size w (wc.setCell ⟨w.heap.size, 1, none⟩ (.slice none 0 0))) := BE.out.setCell (Nat.le_refl _) _
        have WNS : Hid (WNe (wc.setCell ⟨w.heap.size, 1, none⟩ (.slice none 0 0)) g pa d.pend) := WNe.own OS.out rfl hgn
        clear RW ON
        have PF := Lib.hid (perform_x g gc d.secs.length d.pend.length pc pa d.secs d.pend _ RS.out rfl rfl WNS.out (fun q hq => ⟨(HPD.out q hq).1, (HPD.out q hq).2.1⟩) hn2 hn3)
        go_wp2_with fail
        refine PF.out.mono ?_
        rintro r w5 ⟨rfl, hrow5, hon5⟩
        have BX5 := Lib.hid (BXS.out.only hon5 k1)
        have BY5 := Lib.hid (BYS.out.only hon5 k2)
        have BE5 := Lib.hid (hon5.bel _ _ kg BES.out.size BES.out)
        have RW5 := Lib.hid hrow5
        clear hrow5 hon5 x0 x1 x2 x3 xl xf y0 y1 y2 y3 yl yf BX BY BE BXS BYS BES RS OS WNS PF
        have BX := BX5
        have BY := BY5
        have BE := BE5
        have RW := RW5
        clear BX5 BY5 BE5 RW5
        have x0 := BX.out.c0
        have x1 := BX.out.c1
        have x2 := BX.out.c2
        have x3 := BX.out.c3
        have xl := BX.out.lt
        have xf := BX.out.fz
        have y0 := BY.out.c0
        have y1 := BY.out.c1
        have y2 := BY.out.c2
        have y3 := BY.out.c3
        have yl := BY.out.lt
        have yf := BY.out.fz
        go_wp2_with fail
        exact bodyPost_ret (v := .tuple #[.agg #[.slice (some ⟨g, 0, none⟩) d.secs.length gc, .slice none 0 0, .int .i64 (-1), .bool false], .int .i64 0]) (by simp [results, Tryd.results59, go_sem, y0, y1, y2, y3]) rfl ⟨_, by rw [hv.out]; try rfl, by rw [hv.out]; exact DAt.made (by repeat (first | with_reducible exact RW.out | refine Row.other ?_ (by first | exact k1 | exact k2) _)) (perf_len _ _).symm hgc, (by repeat (first | exact BE.out | refine Below.setCell ?_ (Nat.le_succ _) _ | refine Below.setCell ?_ (by simp) _))⟩
      case pos =>
        by_cases t2 : dl < (d.pend.length : Int)
        case neg =>
          have e2 : (dl != -1) = true := by simp; omega
          have hv : Hid (flV d = (⟨perf d.secs d.pend, [], (dl - d.pend.length), false⟩, 0)) := by show _ = _; unfold flV flushD; rw [HUE.out, if_pos rfl, if_neg (by rw [HDL.out]; omega), HDL.out, if_pos t1]
          have RS : Hid (Row (wc.setCell ⟨w.heap.size, 1, none⟩ (.slice none 0 0)) g (strs d.secs)) := RW.out.other k1 _
          have OS : Hid ((wc.setCell ⟨w.heap.size, 1, none⟩ (.slice none 0 0)).ownsRow n' 66 2 (.slice pa d.pend.length pc) d.pend.length (wC d.pend)) := own_set ON.out k3 _
          have BXS : Hid (Bx (.slice (some ⟨g, 0, none⟩) d.secs.length gc) (.slice none 0 0) dl false w.heap.size (wc.setCell ⟨w.heap.size, 1, none⟩ (.slice none 0 0))) := BX.out.set1 _
          have BYS : Hid (Bx (.slice none 0 0) (.slice none 0 0) 0 false (w.heap.size + 1) (wc.setCell ⟨w.heap.size, 1, none⟩ (.slice none 0 0))) := BY.out.othr (p := ⟨w.heap.size, 1, none⟩) (by show w.heap.size ≠ w.heap.size + 1; omega) _
          have BES : Hid (Below w.heap.size w (wc.setCell ⟨w.heap.size, 1, none⟩ (.slice none 0 0))) := BE.out.setCell (Nat.le_refl _) _
          have WNS : Hid (WNe (wc.setCell ⟨w.heap.size, 1, none⟩ (.slice none 0 0)) g pa d.pend) := WNe.own OS.out rfl hgn
          clear RW ON
          have PF := Lib.hid (perform_x g gc d.secs.length d.pend.length pc pa d.secs d.pend _ RS.out rfl rfl WNS.out (fun q hq => ⟨(HPD.out q hq).1, (HPD.out q hq).2.1⟩) hn2 hn3)
          go_wp2_with fail
          refine PF.out.mono ?_
          rintro r w5 ⟨rfl, hrow5, hon5⟩
          have BX5 := Lib.hid (BXS.out.only hon5 k1)
          have BY5 := Lib.hid (BYS.out.only hon5 k2)
          have BE5 := Lib.hid (hon5.bel _ _ kg BES.out.size BES.out)
          have RW5 := Lib.hid hrow5
          clear hrow5 hon5 x0 x1 x2 x3 xl xf y0 y1 y2 y3 yl yf BX BY BE BXS BYS BES RS OS WNS PF
          have BX := BX5
          have BY := BY5
          have BE := BE5
          have RW := RW5
          clear BX5 BY5 BE5 RW5
          have x0 := BX.out.c0
          have x1 := BX.out.c1
          have x2 := BX.out.c2
          have x3 := BX.out.c3
          have xl := BX.out.lt
          have xf := BX.out.fz
          have y0 := BY.out.c0
          have y1 := BY.out.c1
          have y2 := BY.out.c2
          have y3 := BY.out.c3
          have yl := BY.out.lt
          have yf := BY.out.fz
          go_wp2_with fail
          exact bodyPost_ret (v := .tuple #[.agg #[.slice (some ⟨g, 0, none⟩) d.secs.length gc, .slice none 0 0, .int .i64 (dl - d.pend.length), .bool false], .int .i64 0]) (by simp [results, Tryd.results59, go_sem, y0, y1, y2, y3]) rfl ⟨_, by rw [hv.out]; try rfl, by rw [hv.out]; exact DAt.made (by repeat (first | with_reducible exact RW.out | refine Row.other ?_ (by first | exact k1 | exact k2) _)) (perf_len _ _).symm hgc, (by repeat (first | exact BE.out | refine Below.setCell ?_ (Nat.le_succ _) _ | refine Below.setCell ?_ (by simp) _))⟩
        case pos =>
          obtain ⟨n, rfl⟩ := Int.eq_ofNat_of_zero_le t1
          have nl : n < d.pend.length := by omega
          obtain ⟨p, hp⟩ : ∃ p, d.pend[n]? = some p := ⟨_, List.getElem?_eq_getElem nl⟩
          obtain ⟨p0, p1, p2⟩ := HPD.out p (List.mem_of_getElem? hp)
          have RS : Hid (Row (wc.setCell ⟨w.heap.size, 1, none⟩ (.slice none 0 0)) g (strs d.secs)) := RW.out.other k1 _
          have OS : Hid ((wc.setCell ⟨w.heap.size, 1, none⟩ (.slice none 0 0)).ownsRow n' 66 2 (.slice pa d.pend.length pc) d.pend.length (wC d.pend)) := own_set ON.out k3 _
          have BXS : Hid (Bx (.slice (some ⟨g, 0, none⟩) d.secs.length gc) (.slice none 0 0) (n : Int) false w.heap.size (wc.setCell ⟨w.heap.size, 1, none⟩ (.slice none 0 0))) := BX.out.set1 _
          have BYS : Hid (Bx (.slice none 0 0) (.slice none 0 0) 0 false (w.heap.size + 1) (wc.setCell ⟨w.heap.size, 1, none⟩ (.slice none 0 0))) := BY.out.othr (p := ⟨w.heap.size, 1, none⟩) (by show w.heap.size ≠ w.heap.size + 1; omega) _
          have BES : Hid (Below w.heap.size w (wc.setCell ⟨w.heap.size, 1, none⟩ (.slice none 0 0))) := BE.out.setCell (Nat.le_refl _) _
          have WNS : Hid (WNe (wc.setCell ⟨w.heap.size, 1, none⟩ (.slice none 0 0)) g pa d.pend) := WNe.own OS.out rfl hgn
          clear RW ON
          obtain ⟨q, off, rfl, g1, g2, g3, g4⟩ := WNS.out n p hp
          obtain ⟨m', t⟩ := p
          simp only at p0 p1 p2 g3 g4
          obtain ⟨m, rfl⟩ := Int.eq_ofNat_of_zero_le p0
          have mN : m < d.secs.length := by omega
          obtain ⟨s0, hs0⟩ : ∃ s, (perf d.secs (d.pend.take n))[m]? = some s := ⟨_, List.getElem?_eq_getElem (by rw [perf_len]; exact mN)⟩
          have hs16 : s0.size = 16 := perf_size HSZ.out (fun p hp => (HPD.out p (List.mem_of_mem_take hp)).2.2) _ (List.mem_of_getElem? hs0)
          have hv : Hid (flV d = (⟨(perf d.secs (d.pend.take n)).set m (torn t s0), [], -1, true⟩, 8)) := by
            show _ = _
            unfold flV tearD tearL
            rw [HUE.out, if_pos rfl, if_pos (by rw [HDL.out]; omega), HDL.out, Int.toNat_natCast, hp]
            simp only [Option.getD_some, Int.toNat_natCast]
            rw [hs0]
            rfl
          have HS0 := Lib.hid hs0
          have tl : (d.pend.take n).length = n := by rw [List.length_take]; omega
          have PF := Lib.hid (perform_x g gc d.secs.length n pc (some ⟨q, off, none⟩) d.secs (d.pend.take n) (wc.setCell ⟨w.heap.size, 1, none⟩ (.slice none 0 0)).drew (RS.out.next (Below.refl _ _).drew) rfl tl.symm ((WNS.out.take n).only (Only.refl _ _).drew) (fun q hq => ⟨(HPD.out q (List.mem_of_mem_take hq)).1, (HPD.out q (List.mem_of_mem_take hq)).2.1⟩) hn2 (by omega))
          have t2' : (n : Int) < (d.pend.length : Int) := t2
          have e2 : (((n : Int)) != -1) = true := by first | (simp; done) | (simp; omega)
          have pcb : n ≤ pc := by have := own_cap OS.out; omega
          have z0 := BXS.out.c0
          have z2 := BXS.out.c2
          have HP0 := Lib.hid hp
          clear hp hs0 tl g1 g2 g3 g4
          go_upto_region 8 with fail
          refine wp_region_held_drew (S := fun w' => w'.cell? ⟨w.heap.size, 0, none⟩ = some (.slice (some ⟨g, 0, none⟩) d.secs.length gc) ∧ w'.cell? ⟨w.heap.size, 2, none⟩ = some (.int .i64 (n : Int))) (by kernel_rfl) ?_ (fun hHeld => ?_)
          · exact ⟨z0, z2⟩
          refine takeN0 (v := ?_) (by kernel_rfl) (by kernel_rfl) (by kernel_rfl) (fun _ _ _ h => h) (by rfl) ?_ (by assumption) ?_
          rotate_left
          · intro wz hSw
            try dsimp only at hSw
            go_simp
            try with_reducible rfl
          try simp only [Act.put, List.setIfInBounds_toArray, List.set_cons_zero, List.set_cons_succ]
          refine takeN1 (v := ?_) (by kernel_rfl) (by kernel_rfl) (by kernel_rfl) (fun _ _ _ h => h) (by rfl) ?_ (by assumption) ?_
          rotate_left
          · intro wz hSw
            try dsimp only at hSw
            go_simp
            try with_reducible rfl
          try simp only [Act.put, List.setIfInBounds_toArray, List.set_cons_zero, List.set_cons_succ]
          refine takeN2 (v := ?_) (by kernel_rfl) (by kernel_rfl) (by kernel_rfl) (fun _ _ _ h => h) (by rfl) ?_ (by assumption) ?_
          rotate_left
          · intro wz hSw
            try dsimp only at hSw
            go_simp
            try with_reducible rfl
          try simp only [Act.put, List.setIfInBounds_toArray, List.set_cons_zero, List.set_cons_succ]
          refine takeN3 (v := ?_) (by kernel_rfl) (by kernel_rfl) (by kernel_rfl) (fun _ _ _ h => h) (by rfl) ?_ (by assumption) ?_
          rotate_left
          · intro wz hSw
            try dsimp only at hSw
            go_simp
            try with_reducible rfl
          try simp only [Act.put, List.setIfInBounds_toArray, List.set_cons_zero, List.set_cons_succ]
          refine takeN4 (v := ?_) (by kernel_rfl) (by kernel_rfl) (by kernel_rfl) (fun _ _ _ h => h) (by rfl) ?_ (by assumption) ?_
          rotate_left
          · intro wz hSw
            try dsimp only at hSw
            go_simp
            try with_reducible rfl
          try simp only [Act.put, List.setIfInBounds_toArray, List.set_cons_zero, List.set_cons_succ]
          refine takeN5 (v := ?_) (by kernel_rfl) (by kernel_rfl) (by kernel_rfl) (fun _ _ _ h => h) (by rfl) ?_ (by assumption) ?_
          rotate_left
          · intro wz hSw
            try dsimp only at hSw
            go_simp
            try with_reducible rfl
          try simp only [Act.put, List.setIfInBounds_toArray, List.set_cons_zero, List.set_cons_succ]
          refine comeN6 (by kernel_rfl) (by rfl) (fun K hK => ?_)
          go_simp
          go_at_call 77
          refine PF.out.mono ?_
          rintro r w5 ⟨rfl, hrow5, hon5⟩
          have BX5 := Lib.hid ((BXS.out.next (Below.refl _ _).drew).only hon5 k1)
          have BY5 := Lib.hid ((BYS.out.next (Below.refl _ _).drew).only hon5 k2)
          have BE5 := Lib.hid (hon5.bel _ _ kg BES.out.drew.size BES.out.drew)
          have RW5 := Lib.hid hrow5
          have WN5 := Lib.hid ((WNS.out.only (Only.refl _ _).drew).only hon5)
          have v0 := BX5.out.c0
          have v2 := BX5.out.c2
          clear hrow5 hon5
          try go_wp2_with fail
          refine hK.out _ _ ?_ (fun hHeld => ?_)
          · exact ⟨v0, v2⟩
          clear hK K
          try simp only [Act.put, List.setIfInBounds_toArray, List.set_cons_zero, List.set_cons_succ]
          refine wpAnyH_done (by kernel_rfl) ?_ _
          clear hHeld z0 z2 x0 x1 x2 x3 xl xf y0 y1 y2 y3 yl yf BX BY BE BXS BYS BES RS OS WNS PF
          obtain ⟨q', off', hq', g5, g6, g7, g8⟩ := WN5.out n _ HP0.out
          simp only [Option.some.injEq, Addr.mk.injEq, and_true] at hq'
          obtain ⟨rfl, rfl⟩ := hq'
          have x0 := BX5.out.c0
          have x1 := BX5.out.c1
          have x2 := BX5.out.c2
          have x3 := BX5.out.c3
          have xl := BX5.out.lt
          have xf := BX5.out.fz
          have TE := Lib.hid (tear_x g gc d.secs.length m t s0 (perf d.secs (d.pend.take n)) w5.drew (RW5.out.next (Below.refl _ _).drew) (perf_len _ _).symm HS0.out p2 hs16 (by rw [perf_len]; exact hn2))
          go_upto_region 9 with fail
          refine wp_region_held_drew (S := fun w' => w'.cell? ⟨w.heap.size, 0, none⟩ = some (.slice (some ⟨g, 0, none⟩) d.secs.length gc) ∧ w'.cell? ⟨w.heap.size, 2, none⟩ = some (.int .i64 (n : Int)) ∧ w'.cell? ⟨q, off + n * 2, none⟩ = some (.int .i64 (m : Int)) ∧ w'.cell? ⟨q, off + n * 2 + 1, none⟩ = some (.string t)) (by kernel_rfl) ?_ (fun hHeld => ?_)
          · exact ⟨x0, x2, g7, g8⟩
          refine takeN0 (v := ?_) (by kernel_rfl) (by kernel_rfl) (by kernel_rfl) (fun _ _ _ h => h) (by rfl) ?_ (by assumption) ?_
          rotate_left
          · intro wz hSw
            try dsimp only at hSw
            go_simp
            try with_reducible rfl
          try simp only [Act.put, List.setIfInBounds_toArray, List.set_cons_zero, List.set_cons_succ]
          refine takeN1 (v := ?_) (by kernel_rfl) (by kernel_rfl) (by kernel_rfl) (fun _ _ _ h => h) (by rfl) ?_ (by assumption) ?_
          rotate_left
          · intro wz hSw
            try dsimp only at hSw
            go_simp
            try with_reducible rfl
          try simp only [Act.put, List.setIfInBounds_toArray, List.set_cons_zero, List.set_cons_succ]
          refine takeN2 (v := ?_) (by kernel_rfl) (by kernel_rfl) (by kernel_rfl) (fun _ _ _ h => h) (by rfl) ?_ (by assumption) ?_
          rotate_left
          · intro wz hSw
            try dsimp only at hSw
            go_simp
            try with_reducible rfl
          try simp only [Act.put, List.setIfInBounds_toArray, List.set_cons_zero, List.set_cons_succ]
          refine takeN3 (v := ?_) (by kernel_rfl) (by kernel_rfl) (by kernel_rfl) (fun _ _ _ h => h) (by rfl) ?_ (by assumption) ?_
          rotate_left
          · intro wz hSw
            try dsimp only at hSw
            go_simp
            try with_reducible rfl
          try simp only [Act.put, List.setIfInBounds_toArray, List.set_cons_zero, List.set_cons_succ]
          refine takeN4 (v := ?_) (by kernel_rfl) (by kernel_rfl) (by kernel_rfl) (fun _ _ _ h => h) (by rfl) ?_ (by assumption) ?_
          rotate_left
          · intro wz hSw
            try dsimp only at hSw
            go_simp
            try with_reducible rfl
          try simp only [Act.put, List.setIfInBounds_toArray, List.set_cons_zero, List.set_cons_succ]
          refine takeN5 (v := ?_) (by kernel_rfl) (by kernel_rfl) (by kernel_rfl) (fun _ _ _ h => h) (by rfl) ?_ (by assumption) ?_
          rotate_left
          · intro wz hSw
            try dsimp only at hSw
            go_simp
            try with_reducible rfl
          try simp only [Act.put, List.setIfInBounds_toArray, List.set_cons_zero, List.set_cons_succ]
          refine takeN6 (v := ?_) (by kernel_rfl) (by kernel_rfl) (by kernel_rfl) (fun _ _ _ h => h) (by rfl) ?_ (by assumption) ?_
          rotate_left
          · intro wz hSw
            try dsimp only at hSw
            go_simp
            try with_reducible rfl
          try simp only [Act.put, List.setIfInBounds_toArray, List.set_cons_zero, List.set_cons_succ]
          refine comeN7 (by kernel_rfl) (by rfl) (fun K hK => ?_)
          go_simp
          go_at_call 78
          refine TE.out.mono ?_
          rintro r w6 ⟨rfl, hrow6, hon6⟩
          have BX6 := Lib.hid ((BX5.out.next (Below.refl _ _).drew).only hon6 k1)
          have BY6 := Lib.hid ((BY5.out.next (Below.refl _ _).drew).only hon6 k2)
          have BE6 := Lib.hid (hon6.bel _ _ kg BE5.out.drew.size BE5.out.drew)
          have RW6 := Lib.hid hrow6
          have h5 : w6.cell? ⟨q, off + n * 2, none⟩ = some (.int .i64 (m : Int)) := by rw [hon6.cell (by simpa using g5) g6]; exact g7
          have h6 : w6.cell? ⟨q, off + n * 2 + 1, none⟩ = some (.string t) := by rw [hon6.cell (by simpa using g5) g6]; exact g8
          have v0 := BX6.out.c0
          have v2 := BX6.out.c2
          clear hrow6 hon6
          try go_wp2_with fail
          refine hK.out _ _ ?_ (fun hHeld => ?_)
          · exact ⟨v0, v2, h5, h6⟩
          clear hK K
          try simp only [Act.put, List.setIfInBounds_toArray, List.set_cons_zero, List.set_cons_succ]
          refine wpAnyH_done (by kernel_rfl) ?_ _
          clear hHeld v0 v2 x0 x1 x2 x3 xl xf g5 g7 g8 TE BX5 BY5 BE5 RW5 WN5
          have x0 := BX6.out.c0
          have x1 := BX6.out.c1
          have x2 := BX6.out.c2
          have x3 := BX6.out.c3
          have xl := BX6.out.lt
          have xf := BX6.out.fz
          have y0 := BY6.out.c0
          have y1 := BY6.out.c1
          have y2 := BY6.out.c2
          have y3 := BY6.out.c3
          have yl := BY6.out.lt
          have yf := BY6.out.fz
          go_wp2_with fail
          refine (off_x _ _ _ _ _ _ _ _ _).mono ?_
          rintro r w7 ⟨rfl, b7⟩
          have BY := Lib.hid (BY6.out.next b7)
          have BE := Lib.hid (chain BE6.out b7)
          have RW := Lib.hid (RW6.out.next b7)
          clear x0 x1 x2 x3 xl xf y0 y1 y2 y3 yl yf b7
          have y0 := BY.out.c0
          have y1 := BY.out.c1
          have y2 := BY.out.c2
          have y3 := BY.out.c3
          have yl := BY.out.lt
          have yf := BY.out.fz
          go_wp2_with fail
          exact bodyPost_ret (v := .tuple #[.agg #[.slice (some ⟨g, 0, none⟩) d.secs.length gc, .slice none 0 0, .int .i64 (-1), .bool true], .int .i64 8]) (by simp [results, Tryd.results59, go_sem, y0, y1, y2, y3]) rfl ⟨_, by rw [hv.out]; try rfl, by rw [hv.out]; exact DAt.made (by repeat (first | with_reducible exact RW.out | refine Row.other ?_ (by first | exact k1 | exact k2) _)) (by rw [List.length_set, perf_len]) hgc, (by repeat (first | exact BE.out | refine Below.setCell ?_ (Nat.le_succ _) _ | refine Below.setCell ?_ (by simp) _))⟩

end Go.Proofs.YtemldlhhlneleaaDoor
