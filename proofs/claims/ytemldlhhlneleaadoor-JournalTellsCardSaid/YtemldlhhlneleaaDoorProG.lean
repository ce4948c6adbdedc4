/-
  The program: Write.
-/
import Derived.Test.YtemldlhhlneleaaDoorProE
namespace Go.Proofs.YtemldlhhlneleaaDoor
open Go.RowKit Dk

theorem own_next {W W' : World} {base n s : Nat} {T : TypeId} {v : Value} {xs : List Value} (h : W.ownsRow base T s v n xs) (hb : Below W.heap.size W W') : W'.ownsRow base T s v n xs := by
  refine ⟨h.1, ?_⟩
  rcases h.2 with ⟨h1, h2⟩ | ⟨g, cap, cur, h1, h2, h3, h4⟩
  · exact .inl ⟨h1, h2⟩
  · exact .inr ⟨g, cap, cur, h1, h2, by rw [hb.block g (Array.getElem?_eq_some_iff.1 h3).1]; exact h3, h4⟩
theorem own_base {W : World} {base base' n s : Nat} {T : TypeId} {v : Value} {xs : List Value} (h : W.ownsRow base T s v n xs) (hb : base' ≤ base) : W.ownsRow base' T s v n xs := by
  refine ⟨h.1, ?_⟩
  rcases h.2 with ⟨h1, h2⟩ | ⟨g, cap, cur, h1, h2, h3, h4⟩
  · exact .inl ⟨h1, h2⟩
  · exact .inr ⟨g, cap, cur, h1, Nat.le_trans hb h2, h3, h4⟩
/-- behind the append -/
def Wre (d : D) (a : Int) (s : B) (dl : Int) (dd : Bool) (g gc : Nat) (w W : World) : Prop := ∃ la lc, Bx (.slice (some ⟨g, 0, none⟩) d.secs.length gc) (.slice la (d.pend.length + 1) lc) dl dd w.heap.size W ∧
  Bx (.slice none 0 0) (.slice none 0 0) 0 false (w.heap.size + 1) W ∧ Row W g (strs d.secs) ∧ W.ownsRow (g + 1) 66 2 (.slice la (d.pend.length + 1) lc) (d.pend.length + 1) (wC (d.pend ++ [(a, pad s)])) ∧ Below w.heap.size w W

set_option maxHeartbeats 6400000 in
set_option maxRecDepth 100000 in
theorem pWrite_x (v : Value) (d : D) (at_ : Int) (s : B) (w : World) (h : DAt w v d) (hf : Fit d) (hat : I64 at_) (hs : s.size ≤ 9223372036854775807) :
    Calls Tryd.prog 58 #[v, .int .i64 at_, .string s] w fun r w' => ∃ x, r = .returned (.tuple #[x, .int .i64 (wrV d at_ s).2]) ∧ DAt w' x (wrV d at_ s).1 ∧ Below w.heap.size w w' := by
  have hat1 := hat.1
  have hat2 := hat.2
  have fb1 := hf.secs
  have fb2 := hf.pend
  obtain ⟨rj, hj, hy0, hy1, hy2⟩ := info_parts infoW
  have Hj := Lib.hid hj
  have Hy0 := Lib.hid hy0
  have Hy1 := Lib.hid hy1
  have Hy2 := Lib.hid hy2
  clear hj hy0 hy1 hy2
  obtain ⟨a, c, b, c2, rfl, -, -, HS, HP⟩ := h.form
  obtain ⟨dl, hdl⟩ : ∃ x, d.left = x := ⟨_, rfl⟩
  obtain ⟨dd, hdd⟩ : ∃ x, d.down = x := ⟨_, rfl⟩
  rw [hdl, hdd] at h
  have HD := Lib.hid h
  obtain ⟨X1, Y1, BW⟩ := two_new w (.slice a d.secs.length c) (.slice b d.pend.length c2) dl dd
  have HX := Lib.hid X1
  have HY := Lib.hid Y1
  have HBW := Lib.hid BW
  have HU := Lib.hid (pUp_x _ d _ (h.next BW) hf)
  rw [hdl, hdd]
  have HDL := Lib.hid hdl
  have HDN := Lib.hid hdd
  have HF := Lib.hid hf
  obtain ⟨ue, hue⟩ : ∃ x, upE d = x := ⟨_, rfl⟩
  have HUE := Lib.hid hue
  clear h hf hdl hdd hue X1 Y1 BW
  go_enter Tryd.func58, Tryd.ntmps58
  go_wp2_with fail
  refine HU.out.mono ?_
  rintro r w1 ⟨rfl, b1⟩
  have BX := Lib.hid (HX.out.next b1)
  have BY := Lib.hid (HY.out.next b1)
  have x0 := BX.out.c0
  have x1 := BX.out.c1
  have x2 := BX.out.c2
  have x3 := BX.out.c3
  have xl := BX.out.lt
  have xf := BX.out.fz
  have y0 := BY.out.c0
  have y1 := BY.out.c1
  have y2 := BY.out.c2
  have y3 := BY.out.c3
  have yl := BY.out.lt
  have yf := BY.out.fz
  have BE := Lib.hid (chain HBW.out b1)
  have DE := Lib.hid (HD.out.next (chain HBW.out b1))
  rw [HUE.out]
  clear b1 HU HX HY HBW
  by_cases u : ue = 0
  case neg =>
    have u0 : (ue != 0) = true := by simpa using u
    have hv : Hid (wrV d at_ s = (D0, ue)) := by show _ = _; unfold wrV; rw [HUE.out, if_neg u]
    clear u
    go_wp2_with fail
    exact bodyPost_ret (v := .tuple #[.agg #[.slice none 0 0, .slice none 0 0, .int .i64 0, .bool false], .int .i64 ue]) (by simp [results, Tryd.results58, go_sem, y0, y1, y2, y3]) rfl ⟨_, by rw [hv.out]; try rfl, by rw [hv.out]; exact DAt.zero _, (by repeat (first | exact BE.out | refine Below.setCell ?_ (Nat.le_succ _) _ | refine Below.setCell ?_ (by simp) _))⟩
  case pos =>
    subst u
    have HCK := Lib.hid (upE_zero.1 HUE.out).1
    have hp5 := (check_iff.1 HCK.out).1.2.2.1
    obtain ⟨hs1, hhs⟩ : ∃ x, hasB d at_ = x := ⟨_, rfl⟩
    have HHS := Lib.hid hhs
    have HH := Lib.hid (hasSector_x _ d at_ w1 DE.out)
    rw [hhs] at HH
    clear hhs
    go_wp2_with fail
    refine HH.out.mono ?_
    rintro r w2 ⟨rfl, b2⟩
    have BX' := Lib.hid (BX.out.next b2)
    have BY' := Lib.hid (BY.out.next b2)
    have BE' := Lib.hid (chain BE.out b2)
    have DE' := Lib.hid (DE.out.next b2)
    clear BX BY BE DE x0 x1 x2 x3 xl xf y0 y1 y2 y3 yl yf
    have BX := BX'
    have BY := BY'
    have BE := BE'
    have DE := DE'
    clear BX' BY' BE' DE' b2
    have x0 := BX.out.c0
    have x1 := BX.out.c1
    have x2 := BX.out.c2
    have x3 := BX.out.c3
    have xl := BX.out.lt
    have xf := BX.out.fz
    have y0 := BY.out.c0
    have y1 := BY.out.c1
    have y2 := BY.out.c2
    have y3 := BY.out.c3
    have yl := BY.out.lt
    have yf := BY.out.fz
    clear HH
    cases hs1 with
    | false =>
      have hv : Hid (wrV d at_ s = (D0, 1)) := by show _ = _; unfold wrV; rw [HUE.out, if_pos rfl, if_neg (fun q => of_decide_eq_false HHS.out ⟨q.1, q.2.1⟩)]
      go_wp2_with fail
      exact bodyPost_ret (v := .tuple #[.agg #[.slice none 0 0, .slice none 0 0, .int .i64 0, .bool false], .int .i64 1]) (by simp [results, Tryd.results58, go_sem, y0, y1, y2, y3]) rfl ⟨_, by rw [hv.out]; try rfl, by rw [hv.out]; exact DAt.zero _, (by repeat (first | exact BE.out | refine Below.setCell ?_ (Nat.le_succ _) _ | refine Below.setCell ?_ (by simp) _))⟩
    | true =>
      obtain ⟨h0, h1⟩ := of_decide_eq_true HHS.out
      by_cases t3 : 16 < s.size
      · have hv : Hid (wrV d at_ s = (D0, 1)) := by show _ = _; unfold wrV; rw [HUE.out, if_pos rfl, if_neg (by omega)]
        have t3' : 16 < (s.size : Int) := by omega
        go_wp2_with fail
        exact bodyPost_ret (v := .tuple #[.agg #[.slice none 0 0, .slice none 0 0, .int .i64 0, .bool false], .int .i64 1]) (by simp [results, Tryd.results58, go_sem, y0, y1, y2, y3]) rfl ⟨_, by rw [hv.out]; try rfl, by rw [hv.out]; exact DAt.zero _, (by repeat (first | exact BE.out | refine Below.setCell ?_ (Nat.le_succ _) _ | refine Below.setCell ?_ (by simp) _))⟩
      have t3' : ¬ 16 < (s.size : Int) := by omega
      have t3n : s.size ≤ 16 := by omega
      by_cases t4 : d.pend.length = 512
      · have hv : Hid (wrV d at_ s = (D0, 6)) := by show _ = _; unfold wrV; rw [HUE.out, if_pos rfl, if_pos ⟨h0, h1, t3n⟩, if_neg (by omega)]
        have t4' : ((d.pend.length : Int) == 512) = true := by simp; omega
        clear t4
        go_wp2_with fail
        exact bodyPost_ret (v := .tuple #[.agg #[.slice none 0 0, .slice none 0 0, .int .i64 0, .bool false], .int .i64 6]) (by simp [results, Tryd.results58, go_sem, y0, y1, y2, y3]) rfl ⟨_, by rw [hv.out]; try rfl, by rw [hv.out]; exact DAt.zero _, (by repeat (first | exact BE.out | refine Below.setCell ?_ (Nat.le_succ _) _ | refine Below.setCell ?_ (by simp) _))⟩
      have t4' : ((d.pend.length : Int) == 512) = false := by simp; omega
      have hp6 : d.pend.length < 512 := by omega
      have hv : Hid (wrV d at_ s = (⟨d.secs, d.pend ++ [(at_, pad s)], dl, dd⟩, 0)) := by show _ = _; unfold wrV; rw [HUE.out, if_pos rfl, if_pos ⟨h0, h1, t3n⟩, if_pos hp6, HDL.out, HDN.out]
      go_upto_region 8 with fail
      go_cut [] (fun wx => Fre d dl dd w wx)
      case first =>
        go_wp2_with fail
        refine (fresh_x _ d _ DE.out HCK.out).mono ?_
        rintro r w3 ⟨g, gc, pa, pc, n', hr, hgc, hg, hgn, hrow, hown, bb⟩
        rw [HDL.out, HDN.out] at hr
        subst hr
        have s1 := BX.out.lt
        have s2 := BY.out.lt
        have k1 : w.heap.size ≠ g := by omega
        have k3 : w.heap.size < n' := by omega
        have FR : Hid (Fre d dl dd w (put4 w3 w.heap.size (.slice (some ⟨g, 0, none⟩) d.secs.length gc) (.slice pa d.pend.length pc) dl dd)) :=
          ⟨g, gc, pa, pc, n', hgc, by omega, hgn, (BX.out.next bb).put _ _ _ _, (BY.out.next bb).putO (by omega) _ _ _ _,
            Row.other (Row.other (Row.other (Row.other hrow k1 _) k1 _) k1 _) k1 _, own_set (own_set (own_set (own_set hown k3 _) k3 _) k3 _) k3 _, below_put (chain BE.out bb) (Nat.le_refl _) _ _ _ _⟩
        have BX' := Lib.hid (BX.out.next bb)
        clear hrow hown bb x0 x1 x2 x3 xl xf y0 y1 y2 y3 yl yf BX BY BE DE
        have BX := BX'
        have x0 := BX.out.c0
        have x1 := BX.out.c1
        have x2 := BX.out.c2
        have x3 := BX.out.c3
        have xl := BX.out.lt
        have xf := BX.out.fz
        clear BX BX'
        go_wp2_with fail
        go_meet
        exact FR.out
      case rest =>
        clear x0 x1 x2 x3 xl xf y0 y1 y2 y3 yl yf BX BY BE DE
        obtain ⟨g, gc, pa, pc, n', hgc, hg, hgn, hbx, hby, hrow, hown, hbel⟩ := hcut
        have k1 : w.heap.size ≠ g := by omega
        have k2 : w.heap.size + 1 ≠ g := by omega
        have k3 : w.heap.size < n' := by omega
        have k4 : w.heap.size + 1 < n' := by omega
        have kg : w.heap.size ≤ g := by omega
        have RW := Lib.hid hrow
        have ON := Lib.hid hown
        have BX := Lib.hid hbx
        have BY := Lib.hid hby
        have BE := Lib.hid hbel
        clear hrow hown hbx hby hbel
        have x0 := BX.out.c0
        have x1 := BX.out.c1
        have x2 := BX.out.c2
        have x3 := BX.out.c3
        have xl := BX.out.lt
        have xf := BX.out.fz
        have y0 := BY.out.c0
        have y1 := BY.out.c1
        have y2 := BY.out.c2
        have y3 := BY.out.c3
        have yl := BY.out.lt
        have yf := BY.out.fz
        have k5 : w.heap.size < g + 1 := by omega
        have k6 : w.heap.size + 1 < g + 1 := by omega
        have ON' := Lib.hid (own_base ON.out (show g + 1 ≤ n' by omega))
        clear ON
        have ON := ON'
        clear ON'
        go_upto_region 9 with fail
        go_cut [] (fun wx => Wre d at_ s dl dd g gc w wx)
        case first =>
          refine wp_region_held_drew (S := fun _ => True) (by kernel_rfl) ?_ (fun hHeld => ?_)
          · trivial
          refine takeN0 (v := ?_) (by kernel_rfl) (by kernel_rfl) (by kernel_rfl) (fun _ _ _ h => h) (by rfl) ?_ (by assumption) ?_
          rotate_left
          · intro wz hSw
            try dsimp only at hSw
            go_simp
            try with_reducible rfl
          try simp only [Act.put, List.setIfInBounds_toArray, List.set_cons_zero, List.set_cons_succ]
          refine takeN2 (v := ?_) (by kernel_rfl) (by kernel_rfl) (by kernel_rfl) (fun _ _ _ h => h) (by rfl) ?_ (by assumption) ?_
          rotate_left
          · intro wz hSw
            try dsimp only at hSw
            go_simp
            try with_reducible rfl
          try simp only [Act.put, List.setIfInBounds_toArray, List.set_cons_zero, List.set_cons_succ]
          refine takeN3 (v := ?_) (by kernel_rfl) (by kernel_rfl) (by kernel_rfl) (fun _ _ _ h => h) (by rfl) ?_ (by assumption) ?_
          rotate_left
          · intro wz hSw
            try dsimp only at hSw
            go_simp
            try with_reducible rfl
          try simp only [Act.put, List.setIfInBounds_toArray, List.set_cons_zero, List.set_cons_succ]
          refine wpAnyH_ready (rs := [1, 4]) (by kernel_rfl) (by simp) (AllReadyH.cons rfl (fun K hK => ?_) (AllReadyH.cons rfl (fun K hK => ?_) AllReadyH.nil))
          · rw [if_pos (by rfl)]
            go_simp
            refine hK.out _ _ ?_ (fun hHeld => ?_)
            · trivial
            clear hK K
            try simp only [Act.put, List.setIfInBounds_toArray, List.set_cons_zero, List.set_cons_succ]
            refine comeN4 (by kernel_rfl) (by rfl) (fun K hK => ?_)
            go_simp
            go_at_call 76
            refine (filled_x s _ t3n).mono ?_
            rintro r w6 ⟨rfl, b6⟩
            have BX6 := Lib.hid ((BX.out.next (Below.refl _ _).drew).next b6)
            have BY6 := Lib.hid ((BY.out.next (Below.refl _ _).drew).next b6)
            have BE6 := Lib.hid (chain (BE.out.drew) b6)
            have RW6 := Lib.hid ((RW.out.next (Below.refl _ _).drew).next b6)
            have ON6 := Lib.hid (own_next (own_next ON.out (Below.refl _ _).drew) b6)
            have v1 := BX6.out.c1
            have vl := BX6.out.lt
            clear b6
            try go_wp2_with fail
            refine hK.out _ _ ?_ (fun hHeld => ?_)
            · trivial
            clear hK K
            try simp only [Act.put, List.setIfInBounds_toArray, List.set_cons_zero, List.set_cons_succ]
            refine takeN5 (v := ?_) (by kernel_rfl) (by kernel_rfl) (by kernel_rfl) (fun _ _ _ h => h) (by rfl) ?_ (by assumption) ?_
            rotate_left
            · intro wz hSw
              try dsimp only at hSw
              go_simp
              try with_reducible rfl
            try simp only [Act.put, List.setIfInBounds_toArray, List.set_cons_zero, List.set_cons_succ]
            refine comeN6 (by kernel_rfl) (by rfl) (fun K hK => ?_)
            go_simp
            refine hK.out _ _ ?_ (fun hHeld => ?_)
            · trivial
            clear hK K
            try simp only [Act.put, List.setIfInBounds_toArray, List.set_cons_zero, List.set_cons_succ]
            refine comeN7 (by kernel_rfl) (by rfl) (fun K hK => ?_)
            refine step_app (.tmp 33) (.tmp 38) 25 rfl (g + 1) 66 rj (.agg #[.int .i64 0, .string ⟨#[]⟩]) 2 24 Tryd.underlying25 Hj.out Hy0.out Hy1.out Hy2.out rfl (by decide) _ d.pend.length (wC d.pend) rfl (ON6.out.alloc _) ⟨w6.heap.size, 0, none⟩ 1 1 [.int .i64 at_, .string (pad s)] rfl rfl ?f1 ?f2 ?f3 ?f4 ?f5 ?_
            case f1 => exact cell_new2 _ _ _ _ _ rfl
            case f2 => intro u hu; simp at hu; rcases hu with rfl | rfl <;> rfl
            case f3 => unfold maxLen; omega
            case f4 => omega
            case f5 => have := RW6.out.lt; simp; omega
            intro v7 w7 hown7 hgrow7
            have B7 : Hid (Below (g + 1) w6 w7) := ((Below.refl (g + 1) w6).alloc (by have := RW6.out.lt; omega) _).grown hgrow7 (by have := RW6.out.lt; simp; omega) (fun j hj => (ON6.out.lt j hj).1)
            obtain ⟨la, lc, e7⟩ : ∃ la lc, v7 = .slice la (d.pend.length + 1) lc := by
              rcases hown7.2 with ⟨_, h0⟩ | ⟨g, cap, cur, rfl, -⟩
              · omega
              · exact ⟨_, _, rfl⟩
            subst e7
            have ON7 := Lib.hid hown7
            have BX7 := Lib.hid (BX6.out.nextB B7.out (by omega))
            have BY7 := Lib.hid (BY6.out.nextB B7.out (by omega))
            have RW7 := Lib.hid (RW6.out.below B7.out (by omega))
            have BE7 := Lib.hid (BE6.out.trans (B7.out.mono (by omega)))
            clear hown7 hgrow7
            have q1 := BX7.out.c1
            have ql := BX7.out.lt
            have qf := BX7.out.fz
            refine hK.out _ _ ?_ (fun hHeld => ?_)
            · trivial
            clear hK K
            try simp only [Act.put, List.setIfInBounds_toArray, List.set_cons_zero, List.set_cons_succ]
            refine takeN8 (v := ?_) (by kernel_rfl) (by kernel_rfl) (by kernel_rfl) (fun _ _ _ h => h) (by rfl) ?_ (by assumption) ?_
            rotate_left
            · intro wz hSw
              try dsimp only at hSw
              go_simp
              try with_reducible rfl
            try simp only [Act.put, List.setIfInBounds_toArray, List.set_cons_zero, List.set_cons_succ]
            refine comeN9 (by kernel_rfl) (by rfl) (fun K hK => ?_)
            go_simp
            refine hK.out _ _ ?_ (fun hHeld => ?_)
            · trivial
            clear hK K
            try simp only [Act.put, List.setIfInBounds_toArray, List.set_cons_zero, List.set_cons_succ]
            refine wpAnyH_done (by kernel_rfl) ?_ _
            have WR : Hid (Wre d at_ s dl dd g gc w (w7.setCell ⟨w.heap.size, 1, none⟩ (.slice la (d.pend.length + 1) lc))) :=
              ⟨la, lc, BX7.out.set1 _, BY7.out.othr (p := ⟨w.heap.size, 1, none⟩) (by show w.heap.size ≠ w.heap.size + 1; omega) _, RW7.out.other (p := ⟨w.heap.size, 1, none⟩) k1 _, own_set (by rw [wC_app]; exact ON7.out) (p := ⟨w.heap.size, 1, none⟩) (by show w.heap.size < g + 1; omega) _, BE7.out.setCell (Nat.le_refl _) _⟩
            clear q1 ql qf v1 vl
            go_wp2_with fail
            go_meet
            exact WR.out
          · rw [if_pos (by rfl)]
            go_simp
            go_at_call 76
            refine (filled_x s _ t3n).mono ?_
            rintro r w6 ⟨rfl, b6⟩
            have BX6 := Lib.hid ((BX.out.next (Below.refl _ _).drew).next b6)
            have BY6 := Lib.hid ((BY.out.next (Below.refl _ _).drew).next b6)
            have BE6 := Lib.hid (chain (BE.out.drew) b6)
            have RW6 := Lib.hid ((RW.out.next (Below.refl _ _).drew).next b6)
            have ON6 := Lib.hid (own_next (own_next ON.out (Below.refl _ _).drew) b6)
            have v1 := BX6.out.c1
            have vl := BX6.out.lt
            clear b6
            try go_wp2_with fail
            refine hK.out _ _ ?_ (fun hHeld => ?_)
            · trivial
            clear hK K
            try simp only [Act.put, List.setIfInBounds_toArray, List.set_cons_zero, List.set_cons_succ]
            refine takeN5 (v := ?_) (by kernel_rfl) (by kernel_rfl) (by kernel_rfl) (fun _ _ _ h => h) (by rfl) ?_ (by assumption) ?_
            rotate_left
            · intro wz hSw
              try dsimp only at hSw
              go_simp
              try with_reducible rfl
            try simp only [Act.put, List.setIfInBounds_toArray, List.set_cons_zero, List.set_cons_succ]
            refine wpAnyH_ready (rs := [1, 6]) (by kernel_rfl) (by simp) (AllReadyH.cons rfl (fun K hK => ?_) (AllReadyH.cons rfl (fun K hK => ?_) AllReadyH.nil))
            · rw [if_pos (by rfl)]
              go_simp
              refine hK.out _ _ ?_ (fun hHeld => ?_)
              · trivial
              clear hK K
              try simp only [Act.put, List.setIfInBounds_toArray, List.set_cons_zero, List.set_cons_succ]
              refine comeN6 (by kernel_rfl) (by rfl) (fun K hK => ?_)
              go_simp
              refine hK.out _ _ ?_ (fun hHeld => ?_)
              · trivial
              clear hK K
              try simp only [Act.put, List.setIfInBounds_toArray, List.set_cons_zero, List.set_cons_succ]
              refine comeN7 (by kernel_rfl) (by rfl) (fun K hK => ?_)
              refine step_app (.tmp 33) (.tmp 38) 25 rfl (g + 1) 66 rj (.agg #[.int .i64 0, .string ⟨#[]⟩]) 2 24 Tryd.underlying25 Hj.out Hy0.out Hy1.out Hy2.out rfl (by decide) _ d.pend.length (wC d.pend) rfl (ON6.out.alloc _) ⟨w6.heap.size, 0, none⟩ 1 1 [.int .i64 at_, .string (pad s)] rfl rfl ?f1 ?f2 ?f3 ?f4 ?f5 ?_
              case f1 => exact cell_new2 _ _ _ _ _ rfl
              case f2 => intro u hu; simp at hu; rcases hu with rfl | rfl <;> rfl
              case f3 => unfold maxLen; omega
              case f4 => omega
              case f5 => have := RW6.out.lt; simp; omega
              intro v7 w7 hown7 hgrow7
              have B7 : Hid (Below (g + 1) w6 w7) := ((Below.refl (g + 1) w6).alloc (by have := RW6.out.lt; omega) _).grown hgrow7 (by have := RW6.out.lt; simp; omega) (fun j hj => (ON6.out.lt j hj).1)
              obtain ⟨la, lc, e7⟩ : ∃ la lc, v7 = .slice la (d.pend.length + 1) lc := by
                rcases hown7.2 with ⟨_, h0⟩ | ⟨g, cap, cur, rfl, -⟩
                · omega
                · exact ⟨_, _, rfl⟩
              subst e7
              have ON7 := Lib.hid hown7
              have BX7 := Lib.hid (BX6.out.nextB B7.out (by omega))
              have BY7 := Lib.hid (BY6.out.nextB B7.out (by omega))
              have RW7 := Lib.hid (RW6.out.below B7.out (by omega))
              have BE7 := Lib.hid (BE6.out.trans (B7.out.mono (by omega)))
              clear hown7 hgrow7
              have q1 := BX7.out.c1
              have ql := BX7.out.lt
              have qf := BX7.out.fz
              refine hK.out _ _ ?_ (fun hHeld => ?_)
              · trivial
              clear hK K
              try simp only [Act.put, List.setIfInBounds_toArray, List.set_cons_zero, List.set_cons_succ]
              refine takeN8 (v := ?_) (by kernel_rfl) (by kernel_rfl) (by kernel_rfl) (fun _ _ _ h => h) (by rfl) ?_ (by assumption) ?_
              rotate_left
              · intro wz hSw
                try dsimp only at hSw
                go_simp
                try with_reducible rfl
              try simp only [Act.put, List.setIfInBounds_toArray, List.set_cons_zero, List.set_cons_succ]
              refine comeN9 (by kernel_rfl) (by rfl) (fun K hK => ?_)
              go_simp
              refine hK.out _ _ ?_ (fun hHeld => ?_)
              · trivial
              clear hK K
              try simp only [Act.put, List.setIfInBounds_toArray, List.set_cons_zero, List.set_cons_succ]
              refine wpAnyH_done (by kernel_rfl) ?_ _
              have WR : Hid (Wre d at_ s dl dd g gc w (w7.setCell ⟨w.heap.size, 1, none⟩ (.slice la (d.pend.length + 1) lc))) :=
                ⟨la, lc, BX7.out.set1 _, BY7.out.othr (p := ⟨w.heap.size, 1, none⟩) (by show w.heap.size ≠ w.heap.size + 1; omega) _, RW7.out.other (p := ⟨w.heap.size, 1, none⟩) k1 _, own_set (by rw [wC_app]; exact ON7.out) (p := ⟨w.heap.size, 1, none⟩) (by show w.heap.size < g + 1; omega) _, BE7.out.setCell (Nat.le_refl _) _⟩
              clear q1 ql qf v1 vl
              go_wp2_with fail
              go_meet
              exact WR.out
            · rw [if_pos (by rfl)]
              go_simp
              refine hK.out _ _ ?_ (fun hHeld => ?_)
              · trivial
              clear hK K
              try simp only [Act.put, List.setIfInBounds_toArray, List.set_cons_zero, List.set_cons_succ]
              refine comeN1 (by kernel_rfl) (by rfl) (fun K hK => ?_)
              go_simp
              refine hK.out _ _ ?_ (fun hHeld => ?_)
              · trivial
              clear hK K
              try simp only [Act.put, List.setIfInBounds_toArray, List.set_cons_zero, List.set_cons_succ]
              refine comeN7 (by kernel_rfl) (by rfl) (fun K hK => ?_)
              refine step_app (.tmp 33) (.tmp 38) 25 rfl (g + 1) 66 rj (.agg #[.int .i64 0, .string ⟨#[]⟩]) 2 24 Tryd.underlying25 Hj.out Hy0.out Hy1.out Hy2.out rfl (by decide) _ d.pend.length (wC d.pend) rfl (ON6.out.alloc _) ⟨w6.heap.size, 0, none⟩ 1 1 [.int .i64 at_, .string (pad s)] rfl rfl ?f1 ?f2 ?f3 ?f4 ?f5 ?_
              case f1 => exact cell_new2 _ _ _ _ _ rfl
              case f2 => intro u hu; simp at hu; rcases hu with rfl | rfl <;> rfl
              case f3 => unfold maxLen; omega
              case f4 => omega
              case f5 => have := RW6.out.lt; simp; omega
              intro v7 w7 hown7 hgrow7
              have B7 : Hid (Below (g + 1) w6 w7) := ((Below.refl (g + 1) w6).alloc (by have := RW6.out.lt; omega) _).grown hgrow7 (by have := RW6.out.lt; simp; omega) (fun j hj => (ON6.out.lt j hj).1)
              obtain ⟨la, lc, e7⟩ : ∃ la lc, v7 = .slice la (d.pend.length + 1) lc := by
                rcases hown7.2 with ⟨_, h0⟩ | ⟨g, cap, cur, rfl, -⟩
                · omega
                · exact ⟨_, _, rfl⟩
              subst e7
              have ON7 := Lib.hid hown7
              have BX7 := Lib.hid (BX6.out.nextB B7.out (by omega))
              have BY7 := Lib.hid (BY6.out.nextB B7.out (by omega))
              have RW7 := Lib.hid (RW6.out.below B7.out (by omega))
              have BE7 := Lib.hid (BE6.out.trans (B7.out.mono (by omega)))
              clear hown7 hgrow7
              have q1 := BX7.out.c1
              have ql := BX7.out.lt
              have qf := BX7.out.fz
              refine hK.out _ _ ?_ (fun hHeld => ?_)
              · trivial
              clear hK K
              try simp only [Act.put, List.setIfInBounds_toArray, List.set_cons_zero, List.set_cons_succ]
              refine takeN8 (v := ?_) (by kernel_rfl) (by kernel_rfl) (by kernel_rfl) (fun _ _ _ h => h) (by rfl) ?_ (by assumption) ?_
              rotate_left
              · intro wz hSw
                try dsimp only at hSw
                go_simp
                try with_reducible rfl
              try simp only [Act.put, List.setIfInBounds_toArray, List.set_cons_zero, List.set_cons_succ]
              refine comeN9 (by kernel_rfl) (by rfl) (fun K hK => ?_)
              go_simp
              refine hK.out _ _ ?_ (fun hHeld => ?_)
              · trivial
              clear hK K
              try simp only [Act.put, List.setIfInBounds_toArray, List.set_cons_zero, List.set_cons_succ]
              refine wpAnyH_done (by kernel_rfl) ?_ _
              have WR : Hid (Wre d at_ s dl dd g gc w (w7.setCell ⟨w.heap.size, 1, none⟩ (.slice la (d.pend.length + 1) lc))) :=
                ⟨la, lc, BX7.out.set1 _, BY7.out.othr (p := ⟨w.heap.size, 1, none⟩) (by show w.heap.size ≠ w.heap.size + 1; omega) _, RW7.out.other (p := ⟨w.heap.size, 1, none⟩) k1 _, own_set (by rw [wC_app]; exact ON7.out) (p := ⟨w.heap.size, 1, none⟩) (by show w.heap.size < g + 1; omega) _, BE7.out.setCell (Nat.le_refl _) _⟩
              clear q1 ql qf v1 vl
              go_wp2_with fail
              go_meet
              exact WR.out
        case rest =>
          clear x0 x1 x2 x3 xl xf y0 y1 y2 y3 yl yf BX BY BE RW ON
          obtain ⟨la, lc, hbx, hby, hrow, hown, hbel⟩ := hcut
          have RW := Lib.hid hrow
          have ON8 := Lib.hid hown
          have BX := Lib.hid hbx
          have BY := Lib.hid hby
          have BE := Lib.hid hbel
          clear hrow hown hbx hby hbel
          have x0 := BX.out.c0
          have x1 := BX.out.c1
          have x2 := BX.out.c2
          have x3 := BX.out.c3
          have xl := BX.out.lt
          have xf := BX.out.fz
          have y0 := BY.out.c0
          have y1 := BY.out.c1
          have y2 := BY.out.c2
          have y3 := BY.out.c3
          have yl := BY.out.lt
          have yf := BY.out.fz
          go_wp2_with fail
          exact bodyPost_ret (v := .tuple #[.agg #[.slice (some ⟨g, 0, none⟩) d.secs.length gc, .slice la (d.pend.length + 1) lc, .int .i64 dl, .bool dd], .int .i64 0]) (by simp [results, Tryd.results58, go_sem, y0, y1, y2, y3]) rfl ⟨_, by rw [hv.out]; try rfl, by rw [hv.out]; exact DAt.mk2 (n := g + 1) (T := 66) (by repeat (first | with_reducible exact RW.out | refine Row.other ?_ (by first | exact k1 | exact k2) _)) hgc (by repeat (first | with_reducible exact ON8.out | refine own_set ?_ (by first | exact k5 | exact k6) _)) (by simp), (by repeat (first | exact BE.out | refine Below.setCell ?_ (Nat.le_succ _) _ | refine Below.setCell ?_ (by simp) _))⟩

end Go.Proofs.YtemldlhhlneleaaDoor
