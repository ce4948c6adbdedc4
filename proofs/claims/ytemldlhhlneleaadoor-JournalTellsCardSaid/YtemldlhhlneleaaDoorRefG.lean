/-
  The reference's New and Same.
-/
import Derived.Test.YtemldlhhlneleaaDoorRefF
namespace Go.Proofs.YtemldlhhlneleaaDoor
open Go.RowKit Dk

theorem step_app {P : Program} {w : World} {o : Oper} {a : Act} {K : Act → World → Prop} {Q : Exit → Act → World → Prop} (s x : Operand) (t : TypeId)
    (ho : o.op = .call { callee := .builtin .append, args := #[s, x], argTypes := #[t, t] })
    (base : Nat) (e : TypeId) (i : TypeInfo) (z : Value) (size bytes : Nat) (ht : P.underlying t = some (.slice e)) (hi : P.info? e = some i) (hz : i.zero = some z)
    (hsize : i.size = size) (hby : i.bytes = bytes) (hzs : z.cells.size = size) (hsz : 0 < size)
    (v : Value) (n : Nat) (xs : List Value) (hs : a.eval s = v) (hown : w.ownsRow base e size v n xs)
    (ad : Addr) (m c : Nat) (news : List Value) (hx : a.eval x = .slice (some ad) m c) (hl : news.length = m * size) (hnews : ∀ j u, news[j]? = some u → w.cell? (ad.add j) = some u) (h1 : ∀ u ∈ news, u.oneCell' = true)
    (h63 : n + m ≤ maxLen) (hbytes : (n + m) * bytes ≤ 140737488355328) (hbase : base ≤ w.heap.size)
    (h : ∀ v' w', w'.ownsRow base e size v' (n + m) (xs ++ news) → w.grownBy w' v.ownBlock → K (a.put o.dst v') w') : Oper.wp P o a w K Q :=
  wp_append_own w s x t ho base e i z size bytes ht hi hz hsize hby hzs hsz v n xs hs hown ad m c news hx hl hnews h1 h63 hbytes hbase fun v' w' h2 h3 _ => h v' w' h2 h3

def zs (k : Nat) : List Value := strs (List.replicate k (zb 16))
theorem zs_next (k : Nat) : zs (k + 1) = zs k ++ [.string (zb 16)] := by unfold zs strs; rw [List.replicate_succ', List.map_append]; rfl
theorem zs_len (k : Nat) : (zs k).length = k := by unfold zs strs; simp
structure Nw (k : Nat) (sv : Value) (w wr : World) : Prop where
  own : wr.ownsRow (w.heap.size + 2) 9 1 sv k (zs k)
  bo : Bx sv (.slice none 0 0) (-1) false (w.heap.size + 1) wr
  br : Bx (.slice none 0 0) (.slice none 0 0) 0 false w.heap.size wr
  below : Below w.heap.size w wr
def NwRel (n : Nat) (w : World) (i : Value) (wr : World) : Prop := ∃ (k : Nat) (sa : Option Addr) (sc : Nat), i = .int .i64 (k : Int) ∧ k ≤ n ∧ Nw k (.slice sa k sc) w wr

set_option maxHeartbeats 6400000 in
theorem New_x (n : Int) (w : World) (hn : I64 n) :
    Calls Tryd.prog 9 #[.int .i64 n] w fun r w' => ∃ x, r = .returned (.tuple #[x, .int .i64 (newV n).2]) ∧ DAt w' x (newV n).1 ∧ Below w.heap.size w w' := by
  unfold I64 at hn
  by_cases t1 : n < 1
  · have hv : Hid (newV n = (D0, 1)) := by show _ = _; unfold newV; rw [if_neg (by omega)]
    go_enter Tryd.func9, Tryd.ntmps9
    go_wp2_with fail
    exact bodyPost_ret (v := .tuple #[.agg #[.slice none 0 0, .slice none 0 0, .int .i64 0, .bool false], .int .i64 1]) (by simp [results, Tryd.results9, go_sem]) rfl ⟨_, by rw [hv.out]; try rfl, by rw [hv.out]; exact DAt.zero _, Below.new1 _⟩
  by_cases t2 : 512 < n
  · have hv : Hid (newV n = (D0, 1)) := by show _ = _; unfold newV; rw [if_neg (by omega)]
    go_enter Tryd.func9, Tryd.ntmps9
    go_wp2_with fail
    exact bodyPost_ret (v := .tuple #[.agg #[.slice none 0 0, .slice none 0 0, .int .i64 0, .bool false], .int .i64 1]) (by simp [results, Tryd.results9, go_sem]) rfl ⟨_, by rw [hv.out]; try rfl, by rw [hv.out]; exact DAt.zero _, Below.new1 _⟩
  obtain ⟨m, rfl⟩ := Int.eq_ofNat_of_zero_le (show 0 ≤ n by omega)
  have hv : Hid (newV (m : Int) = (⟨List.replicate m (zb 16), [], -1, false⟩, 0)) := by show _ = _; unfold newV; rw [if_pos ⟨by omega, by omega⟩, Int.toNat_natCast]
  obtain ⟨rj, hj, hy0, hy1, hy2⟩ := info_parts infoS
  have Hj := Lib.hid hj
  have Hy0 := Lib.hid hy0
  have Hy1 := Lib.hid hy1
  have Hy2 := Lib.hid hy2
  clear hj hy0 hy1 hy2
  have N0 : Hid (Nw 0 (.slice none 0 0) w ((w.alloc (.cells #[.slice none 0 0, .slice none 0 0, .int .i64 0, .bool false] 27)).alloc (.cells #[.slice none 0 0, .slice none 0 0, .int .i64 (-1), .bool false] 27))) := by
    refine ⟨World.ownsRow_nil _ _ _ _, ?_, (Bx.new _ _ _ _ _ _).next (Below.new1 _), chain (Below.new1 _) (Below.new1 _)⟩
    have hy := Bx.new (w.alloc (.cells #[.slice none 0 0, .slice none 0 0, .int .i64 0, .bool false] 27)) (.slice none 0 0) (.slice none 0 0) (-1) false 27
    rw [show (w.alloc (.cells #[.slice none 0 0, .slice none 0 0, .int .i64 0, .bool false] 27)).heap.size = w.heap.size + 1 by simp] at hy
    exact hy
  go_enter Tryd.func9, Tryd.ntmps9
  go_wp2_with fail
  go_loopw [5] (fun i wr => NwRel m w i wr) (fun i _ => m - (intOf i).toNat)
  case atStart => exact ⟨0, none, 0, rfl, Nat.zero_le _, N0.out⟩
  case round =>
    clear N0
    obtain ⟨k, sa, sc, rfl, hk, hN⟩ := hrel
    have HN := Lib.hid hN
    have k0 : (0 : Int) ≤ (k : Int) := by omega
    have o0 := hN.bo.c0
    have ol := hN.bo.lt
    clear hN
    by_cases c : k < m
    case neg =>
      have c0 : ¬ (k : Int) < (m : Int) := by omega
      obtain rfl : k = m := by omega
      have o1 := HN.out.bo.c1
      have o2 := HN.out.bo.c2
      have o3 := HN.out.bo.c3
      have y0 := HN.out.br.c0
      have y1 := HN.out.br.c1
      have y2 := HN.out.br.c2
      have y3 := HN.out.br.c3
      have yl := HN.out.br.lt
      have yf := HN.out.br.fz
      have OS : Hid (wr.ownsRow (w.heap.size + 2) 9 1 (.slice sa k sc) k (zs k)) := HN.out.own
      go_wp2_with fail
      exact bodyPost_ret (v := .tuple #[.agg #[.slice sa k sc, .slice none 0 0, .int .i64 (-1), .bool false], .int .i64 0]) (by simp [results, Tryd.results9, go_sem, y0, y1, y2, y3]) rfl ⟨_, by rw [hv.out]; try rfl, by rw [hv.out]; exact ⟨_, _, rfl, SAt.own (own_set (own_set (own_set (own_set OS.out (Nat.lt_add_of_pos_right (by decide)) _) (Nat.lt_add_of_pos_right (by decide)) _) (Nat.lt_add_of_pos_right (by decide)) _) (Nat.lt_add_of_pos_right (by decide)) _) (zs_len k).symm, WAt.nil _⟩, (((HN.out.below.setCell (Nat.le_refl _) _).setCell (Nat.le_refl _) _).setCell (Nat.le_refl _) _).setCell (Nat.le_refl _) _⟩
    case pos =>
      have c0 : (k : Int) < (m : Int) := by omega
      have of := HN.out.bo.fz 0
      have kb : k ≤ 512 := by omega
      have NA : Hid (Nw k (.slice sa k sc) w (wr.alloc (.cells #[.string (zb 16)] 9))) := ⟨HN.out.own.alloc _, HN.out.bo.next (Below.new1 _), HN.out.br.next (Below.new1 _), chain HN.out.below (Below.new1 _)⟩
      have oA : (wr.alloc (.cells #[.string (zb 16)] 9)).cell? ⟨w.heap.size + 1, 0, none⟩ = some (.slice sa k sc) := NA.out.bo.c0
      go_wp2_with fail
      refine wp_region_held_drew (S := fun _ => True) (by kernel_rfl) ?_ (fun hHeld => ?_)
      · trivial
      refine takeN0 (v := ?_) (by kernel_rfl) (by kernel_rfl) (by kernel_rfl) (fun _ _ _ h => h) (by rfl) ?_ (by assumption) ?_
      rotate_left
      · intro wz hSw
        try dsimp only at hSw
        go_simp
        try with_reducible rfl
      try simp only [Act.put, List.setIfInBounds_toArray, List.set_cons_zero, List.set_cons_succ]
      refine wpAnyH_ready (rs := [1, 2]) (by kernel_rfl) (by simp) (AllReadyH.cons rfl (fun K hK => ?_) (AllReadyH.cons rfl (fun K hK => ?_) AllReadyH.nil))
      · rw [if_pos (by rfl)]
        go_simp
        refine hK.out _ _ ?_ (fun hHeld => ?_)
        · trivial
        clear hK K
        try simp only [Act.put, List.setIfInBounds_toArray, List.set_cons_zero, List.set_cons_succ]
        refine comeN2 (by kernel_rfl) (by rfl) (fun K hK => ?_)
        go_simp
        (go_at_call 34; refine (zeros_x 16 (by decide) _).mono ?_; rintro r w6 ⟨rfl, rfl⟩)
        try go_wp2_with fail
        refine hK.out _ _ ?_ (fun hHeld => ?_)
        · trivial
        clear hK K
        try simp only [Act.put, List.setIfInBounds_toArray, List.set_cons_zero, List.set_cons_succ]
        refine comeN3 (by kernel_rfl) (by rfl) (fun K hK => ?_)
        go_simp
        refine hK.out _ _ ?_ (fun hHeld => ?_)
        · trivial
        clear hK K
        try simp only [Act.put, List.setIfInBounds_toArray, List.set_cons_zero, List.set_cons_succ]
        refine comeN4 (by kernel_rfl) (by rfl) (fun K hK => ?_)
        refine step_app (.tmp 20) (.tmp 22) 24 rfl (w.heap.size + 2) 9 rj (.string ⟨#[]⟩) 1 16 Tryd.underlying24 Hj.out Hy0.out Hy1.out Hy2.out rfl (by decide) _ k (zs k) rfl NA.out.own ⟨wr.heap.size, 0, none⟩ 1 1 [.string (zb 16)] rfl rfl ?f1 ?f2 ?f3 ?f4 ?f5 ?_
        case f1 => exact cell_new1 _ _ _ _ rfl
        case f2 => intro u hu; simp at hu; subst hu; rfl
        case f3 => unfold maxLen; omega
        case f4 => omega
        case f5 => simp; omega
        intro v5 w5 hown5 hgrow5
        obtain ⟨la', lc', e5, -, -⟩ := SAt.own hown5 (by rw [List.length_append, zs_len]; rfl)
        rw [List.length_append, zs_len, List.length_singleton] at e5
        subst e5
        have B5 : Below (w.heap.size + 2) (wr.alloc (.cells #[.string (zb 16)] 9)) w5 := (Below.refl _ _).drew.grown hgrow5 (by simp; omega) (fun j hj => (NA.out.own.lt j hj).1)
        have q0 := (NA.out.bo.nextB B5 (Nat.lt_succ_self _)).c0
        have qf := (NA.out.bo.nextB B5 (Nat.lt_succ_self _)).fz 0
        have ql := (NA.out.bo.nextB B5 (Nat.lt_succ_self _)).lt
        have N5 : Hid (Nw (k + 1) (.slice la' (k + 1) lc') w (w5.setCell ⟨w.heap.size + 1, 0, none⟩ (.slice la' (k + 1) lc'))) := by
          have hbo := NA.out.bo.nextB B5 (Nat.lt_succ_self _)
          have hne : ∀ o, o ≠ 0 → (w5.setCell ⟨w.heap.size + 1, 0, none⟩ (.slice la' (k + 1) lc')).cell? ⟨w.heap.size + 1, o, none⟩ = w5.cell? ⟨w.heap.size + 1, o, none⟩ := fun o ho => World.cell?_setCell_other _ _ _ _ (by intro e; injection e with _ e _; exact ho e.symm)
          refine ⟨?_, ⟨by simpa using hbo.lt, World.cell?_setCell_same _ _ _ hbo.c0, by rw [hne 1 (by omega)]; exact hbo.c1, by rw [hne 2 (by omega)]; exact hbo.c2, by rw [hne 3 (by omega)]; exact hbo.c3, fun o => by simpa using hbo.fz o⟩, ?_, ?_⟩
          · rw [zs_next]
            exact own_set hown5 (show w.heap.size + 1 < w.heap.size + 2 by omega) _
          · exact (NA.out.br.nextB B5 (by omega)).nextB ((Below.refl (w.heap.size + 1) w5).setCell (Nat.le_refl _) _) (Nat.lt_succ_self _)
          · exact (NA.out.below.trans (B5.mono (by omega))).setCell (by simp) _
        clear hown5 hgrow5 B5
        refine hK.out _ _ ?_ (fun hHeld => ?_)
        · trivial
        clear hK K
        try simp only [Act.put, List.setIfInBounds_toArray, List.set_cons_zero, List.set_cons_succ]
        refine takeN5 (v := ?_) (by kernel_rfl) (by kernel_rfl) (by kernel_rfl) (fun _ _ _ h => h) (by rfl) ?_ (by assumption) ?_
        rotate_left
        · intro wz hSw
          try dsimp only at hSw
          go_simp
          try with_reducible rfl
        try simp only [Act.put, List.setIfInBounds_toArray, List.set_cons_zero, List.set_cons_succ]
        refine comeN6 (by kernel_rfl) (by rfl) (fun K hK => ?_)
        go_simp
        refine hK.out _ _ ?_ (fun hHeld => ?_)
        · trivial
        clear hK K
        try simp only [Act.put, List.setIfInBounds_toArray, List.set_cons_zero, List.set_cons_succ]
        refine wpAnyH_done (by kernel_rfl) ?_ _
        clear q0 qf ql
        go_wp2_with fail
        go_roundw
        case rel => exact ⟨k + 1, la', lc', by congr 1, by omega, N5.out⟩
        case measure => simp [intOf]; omega
      · rw [if_pos (by rfl)]
        go_simp
        (go_at_call 34; refine (zeros_x 16 (by decide) _).mono ?_; rintro r w6 ⟨rfl, rfl⟩)
        try go_wp2_with fail
        refine hK.out _ _ ?_ (fun hHeld => ?_)
        · trivial
        clear hK K
        try simp only [Act.put, List.setIfInBounds_toArray, List.set_cons_zero, List.set_cons_succ]
        refine wpAnyH_ready (rs := [1, 3]) (by kernel_rfl) (by simp) (AllReadyH.cons rfl (fun K hK => ?_) (AllReadyH.cons rfl (fun K hK => ?_) AllReadyH.nil))
        · rw [if_pos (by rfl)]
          go_simp
          refine hK.out _ _ ?_ (fun hHeld => ?_)
          · trivial
          clear hK K
          try simp only [Act.put, List.setIfInBounds_toArray, List.set_cons_zero, List.set_cons_succ]
          refine comeN3 (by kernel_rfl) (by rfl) (fun K hK => ?_)
          go_simp
          refine hK.out _ _ ?_ (fun hHeld => ?_)
          · trivial
          clear hK K
          try simp only [Act.put, List.setIfInBounds_toArray, List.set_cons_zero, List.set_cons_succ]
          refine comeN4 (by kernel_rfl) (by rfl) (fun K hK => ?_)
          refine step_app (.tmp 20) (.tmp 22) 24 rfl (w.heap.size + 2) 9 rj (.string ⟨#[]⟩) 1 16 Tryd.underlying24 Hj.out Hy0.out Hy1.out Hy2.out rfl (by decide) _ k (zs k) rfl NA.out.own ⟨wr.heap.size, 0, none⟩ 1 1 [.string (zb 16)] rfl rfl ?f1 ?f2 ?f3 ?f4 ?f5 ?_
          case f1 => exact cell_new1 _ _ _ _ rfl
          case f2 => intro u hu; simp at hu; subst hu; rfl
          case f3 => unfold maxLen; omega
          case f4 => omega
          case f5 => simp; omega
          intro v5 w5 hown5 hgrow5
          obtain ⟨la', lc', e5, -, -⟩ := SAt.own hown5 (by rw [List.length_append, zs_len]; rfl)
          rw [List.length_append, zs_len, List.length_singleton] at e5
          subst e5
          have B5 : Below (w.heap.size + 2) (wr.alloc (.cells #[.string (zb 16)] 9)) w5 := (Below.refl _ _).drew.grown hgrow5 (by simp; omega) (fun j hj => (NA.out.own.lt j hj).1)
          have q0 := (NA.out.bo.nextB B5 (Nat.lt_succ_self _)).c0
          have qf := (NA.out.bo.nextB B5 (Nat.lt_succ_self _)).fz 0
          have ql := (NA.out.bo.nextB B5 (Nat.lt_succ_self _)).lt
          have N5 : Hid (Nw (k + 1) (.slice la' (k + 1) lc') w (w5.setCell ⟨w.heap.size + 1, 0, none⟩ (.slice la' (k + 1) lc'))) := by
            have hbo := NA.out.bo.nextB B5 (Nat.lt_succ_self _)
            have hne : ∀ o, o ≠ 0 → (w5.setCell ⟨w.heap.size + 1, 0, none⟩ (.slice la' (k + 1) lc')).cell? ⟨w.heap.size + 1, o, none⟩ = w5.cell? ⟨w.heap.size + 1, o, none⟩ := fun o ho => World.cell?_setCell_other _ _ _ _ (by intro e; injection e with _ e _; exact ho e.symm)
            refine ⟨?_, ⟨by simpa using hbo.lt, World.cell?_setCell_same _ _ _ hbo.c0, by rw [hne 1 (by omega)]; exact hbo.c1, by rw [hne 2 (by omega)]; exact hbo.c2, by rw [hne 3 (by omega)]; exact hbo.c3, fun o => by simpa using hbo.fz o⟩, ?_, ?_⟩
            · rw [zs_next]
              exact own_set hown5 (show w.heap.size + 1 < w.heap.size + 2 by omega) _
            · exact (NA.out.br.nextB B5 (by omega)).nextB ((Below.refl (w.heap.size + 1) w5).setCell (Nat.le_refl _) _) (Nat.lt_succ_self _)
            · exact (NA.out.below.trans (B5.mono (by omega))).setCell (by simp) _
          clear hown5 hgrow5 B5
          refine hK.out _ _ ?_ (fun hHeld => ?_)
          · trivial
          clear hK K
          try simp only [Act.put, List.setIfInBounds_toArray, List.set_cons_zero, List.set_cons_succ]
          refine takeN5 (v := ?_) (by kernel_rfl) (by kernel_rfl) (by kernel_rfl) (fun _ _ _ h => h) (by rfl) ?_ (by assumption) ?_
          rotate_left
          · intro wz hSw
            try dsimp only at hSw
            go_simp
            try with_reducible rfl
          try simp only [Act.put, List.setIfInBounds_toArray, List.set_cons_zero, List.set_cons_succ]
          refine comeN6 (by kernel_rfl) (by rfl) (fun K hK => ?_)
          go_simp
          refine hK.out _ _ ?_ (fun hHeld => ?_)
          · trivial
          clear hK K
          try simp only [Act.put, List.setIfInBounds_toArray, List.set_cons_zero, List.set_cons_succ]
          refine wpAnyH_done (by kernel_rfl) ?_ _
          clear q0 qf ql
          go_wp2_with fail
          go_roundw
          case rel => exact ⟨k + 1, la', lc', by congr 1, by omega, N5.out⟩
          case measure => simp [intOf]; omega
        · rw [if_pos (by rfl)]
          go_simp
          refine hK.out _ _ ?_ (fun hHeld => ?_)
          · trivial
          clear hK K
          try simp only [Act.put, List.setIfInBounds_toArray, List.set_cons_zero, List.set_cons_succ]
          refine comeN1 (by kernel_rfl) (by rfl) (fun K hK => ?_)
          go_simp
          refine hK.out _ _ ?_ (fun hHeld => ?_)
          · trivial
          clear hK K
          try simp only [Act.put, List.setIfInBounds_toArray, List.set_cons_zero, List.set_cons_succ]
          refine comeN4 (by kernel_rfl) (by rfl) (fun K hK => ?_)
          refine step_app (.tmp 20) (.tmp 22) 24 rfl (w.heap.size + 2) 9 rj (.string ⟨#[]⟩) 1 16 Tryd.underlying24 Hj.out Hy0.out Hy1.out Hy2.out rfl (by decide) _ k (zs k) rfl NA.out.own ⟨wr.heap.size, 0, none⟩ 1 1 [.string (zb 16)] rfl rfl ?f1 ?f2 ?f3 ?f4 ?f5 ?_
          case f1 => exact cell_new1 _ _ _ _ rfl
          case f2 => intro u hu; simp at hu; subst hu; rfl
          case f3 => unfold maxLen; omega
          case f4 => omega
          case f5 => simp; omega
          intro v5 w5 hown5 hgrow5
          obtain ⟨la', lc', e5, -, -⟩ := SAt.own hown5 (by rw [List.length_append, zs_len]; rfl)
          rw [List.length_append, zs_len, List.length_singleton] at e5
          subst e5
          have B5 : Below (w.heap.size + 2) (wr.alloc (.cells #[.string (zb 16)] 9)) w5 := (Below.refl _ _).drew.grown hgrow5 (by simp; omega) (fun j hj => (NA.out.own.lt j hj).1)
          have q0 := (NA.out.bo.nextB B5 (Nat.lt_succ_self _)).c0
          have qf := (NA.out.bo.nextB B5 (Nat.lt_succ_self _)).fz 0
          have ql := (NA.out.bo.nextB B5 (Nat.lt_succ_self _)).lt
          have N5 : Hid (Nw (k + 1) (.slice la' (k + 1) lc') w (w5.setCell ⟨w.heap.size + 1, 0, none⟩ (.slice la' (k + 1) lc'))) := by
            have hbo := NA.out.bo.nextB B5 (Nat.lt_succ_self _)
            have hne : ∀ o, o ≠ 0 → (w5.setCell ⟨w.heap.size + 1, 0, none⟩ (.slice la' (k + 1) lc')).cell? ⟨w.heap.size + 1, o, none⟩ = w5.cell? ⟨w.heap.size + 1, o, none⟩ := fun o ho => World.cell?_setCell_other _ _ _ _ (by intro e; injection e with _ e _; exact ho e.symm)
            refine ⟨?_, ⟨by simpa using hbo.lt, World.cell?_setCell_same _ _ _ hbo.c0, by rw [hne 1 (by omega)]; exact hbo.c1, by rw [hne 2 (by omega)]; exact hbo.c2, by rw [hne 3 (by omega)]; exact hbo.c3, fun o => by simpa using hbo.fz o⟩, ?_, ?_⟩
            · rw [zs_next]
              exact own_set hown5 (show w.heap.size + 1 < w.heap.size + 2 by omega) _
            · exact (NA.out.br.nextB B5 (by omega)).nextB ((Below.refl (w.heap.size + 1) w5).setCell (Nat.le_refl _) _) (Nat.lt_succ_self _)
            · exact (NA.out.below.trans (B5.mono (by omega))).setCell (by simp) _
          clear hown5 hgrow5 B5
          refine hK.out _ _ ?_ (fun hHeld => ?_)
          · trivial
          clear hK K
          try simp only [Act.put, List.setIfInBounds_toArray, List.set_cons_zero, List.set_cons_succ]
          refine takeN5 (v := ?_) (by kernel_rfl) (by kernel_rfl) (by kernel_rfl) (fun _ _ _ h => h) (by rfl) ?_ (by assumption) ?_
          rotate_left
          · intro wz hSw
            try dsimp only at hSw
            go_simp
            try with_reducible rfl
          try simp only [Act.put, List.setIfInBounds_toArray, List.set_cons_zero, List.set_cons_succ]
          refine comeN6 (by kernel_rfl) (by rfl) (fun K hK => ?_)
          go_simp
          refine hK.out _ _ ?_ (fun hHeld => ?_)
          · trivial
          clear hK K
          try simp only [Act.put, List.setIfInBounds_toArray, List.set_cons_zero, List.set_cons_succ]
          refine wpAnyH_done (by kernel_rfl) ?_ _
          clear q0 qf ql
          go_wp2_with fail
          go_roundw
          case rel => exact ⟨k + 1, la', lc', by congr 1, by omega, N5.out⟩
          case measure => simp [intOf]; omega

def SaRel (n : Nat) (W : World) (i : Value) (wr : World) : Prop := ∃ k : Nat, k ≤ n ∧ i = .int .i64 (k : Int) ∧ Below W.heap.size W wr

set_option maxHeartbeats 6400000 in
set_option maxRecDepth 100000 in
/-- equal disks -/
theorem Same_x (x y : Value) (d : D) (w : World) (hx : DAt w x d) (hy : DAt w y d) (hf : Fit d) :
    Calls Tryd.prog 14 #[x, y] w fun r w' => r = .returned (.bool true) ∧ Below w.heap.size w w' := by
  obtain ⟨a, c, b, c2, rfl, -, -, HS, HP⟩ := hx.form
  obtain ⟨a', c', b', c2', rfl, -, -, HS', HP'⟩ := hy.form
  have h1 := hf.secs
  have h2 := hf.pend
  obtain ⟨dl, hdl⟩ : ∃ x, d.left = x := ⟨_, rfl⟩
  obtain ⟨dd, hdd⟩ : ∃ x, d.down = x := ⟨_, rfl⟩
  rw [hdl, hdd]
  have f3 : (dl != dl) = false := by simp
  have f4 : (dd != dd) = false := by simp
  have f1 : ((d.secs.length : Int) != (d.secs.length : Int)) = false := by simp
  have f2 : ((d.pend.length : Int) != (d.pend.length : Int)) = false := by simp
  clear hx hy hf hdl hdd
  have X0 : Hid (Bx (.slice a d.secs.length c) (.slice b d.pend.length c2) dl dd w.heap.size ((w.alloc (.cells #[.slice a d.secs.length c, .slice b d.pend.length c2, .int .i64 dl, .bool dd] 27)).alloc (.cells #[.slice a' d.secs.length c', .slice b' d.pend.length c2', .int .i64 dl, .bool dd] 27))) := (Bx.new _ _ _ _ _ _).next (Below.new1 _)
  have Y0 : Hid (Bx (.slice a' d.secs.length c') (.slice b' d.pend.length c2') dl dd (w.heap.size + 1) ((w.alloc (.cells #[.slice a d.secs.length c, .slice b d.pend.length c2, .int .i64 dl, .bool dd] 27)).alloc (.cells #[.slice a' d.secs.length c', .slice b' d.pend.length c2', .int .i64 dl, .bool dd] 27))) := by
    have hy := Bx.new (w.alloc (.cells #[.slice a d.secs.length c, .slice b d.pend.length c2, .int .i64 dl, .bool dd] 27)) (.slice a' d.secs.length c') (.slice b' d.pend.length c2') dl dd 27
    rw [show (w.alloc (.cells #[.slice a d.secs.length c, .slice b d.pend.length c2, .int .i64 dl, .bool dd] 27)).heap.size = w.heap.size + 1 by simp] at hy
    exact hy
  obtain ⟨W0, hW0⟩ : ∃ W0, W0 = ((w.alloc (.cells #[.slice a d.secs.length c, .slice b d.pend.length c2, .int .i64 dl, .bool dd] 27)).alloc (.cells #[.slice a' d.secs.length c', .slice b' d.pend.length c2', .int .i64 dl, .bool dd] 27)) := ⟨_, rfl⟩
  have HW0 := Lib.hid hW0
  have B0 : Hid (Below w.heap.size w W0) := by show Below _ _ _; rw [hW0]; exact chain (Below.new1 _) (Below.new1 _)
  clear hW0
  go_enter Tryd.func14, Tryd.ntmps14
  go_wp2_with fail
  go_loopw [5] (fun i wr => SaRel d.secs.length W0 i wr) (fun i _ => d.secs.length - (intOf i).toNat)
  case atStart => exact ⟨0, Nat.zero_le _, rfl, by rw [HW0.out]; exact Below.refl _ _⟩
  case round =>
    obtain ⟨k, hk, rfl, hb⟩ := hrel
    have HB := Lib.hid hb
    have x0 := ((by rw [HW0.out]; exact X0.out : Bx _ _ _ _ _ W0).next hb).c0
    have xl := ((by rw [HW0.out]; exact X0.out : Bx _ _ _ _ _ W0).next hb).lt
    have y0 := ((by rw [HW0.out]; exact Y0.out : Bx _ _ _ _ _ W0).next hb).c0
    have yl := ((by rw [HW0.out]; exact Y0.out : Bx _ _ _ _ _ W0).next hb).lt
    have k0 : (0 : Int) ≤ (k : Int) := by omega
    clear hb
    by_cases cc : k < d.secs.length
    case pos =>
      have cc0 : (k : Int) < (d.secs.length : Int) := by omega
      obtain ⟨s, hs⟩ : ∃ s, d.secs[k]? = some s := ⟨_, List.getElem?_eq_getElem cc⟩
      obtain ⟨g, off, rfl, g1, g2⟩ := HS.out k s hs
      obtain ⟨g', off', rfl, g1', g2'⟩ := HS'.out k s hs
      have bel := chain B0.out HB.out
      have z1 : wr.cell? ⟨g, off + k, none⟩ = some (.string s) := by rw [bel.cell (p := ⟨g, off + k, none⟩) g1]; exact g2
      have z2 : wr.cell? ⟨g', off' + k, none⟩ = some (.string s) := by rw [bel.cell (p := ⟨g', off' + k, none⟩) g1']; exact g2'
      have z3 : g < wr.heap.size := Nat.lt_of_lt_of_le g1 bel.size
      have z4 : g' < wr.heap.size := Nat.lt_of_lt_of_le g1' bel.size
      have e1 : (s.data.toList != s.data.toList) = false := by simp
      have e2 : (s.data.toList == s.data.toList) = true := by simp
      clear hs g1 g2 g1' g2' bel
      go_wp2_with fail
      go_quiet (fail)
      go_wp2_with fail
      go_roundw
      case rel => exact ⟨k + 1, by omega, by congr 1, below_drewN HB.out _⟩
      case measure => simp [intOf]; omega
    case neg =>
      have cc0 : ¬ (k : Int) < (d.secs.length : Int) := by omega
      go_wp2_with fail
      go_loopw [6] (fun i wr => SaRel d.pend.length W0 i wr) (fun i _ => d.pend.length - (intOf i).toNat)
      case atStart => exact ⟨0, Nat.zero_le _, rfl, HB.out⟩
      case round =>
        clear HB x0 xl y0 yl
        obtain ⟨j, hj, rfl, hb⟩ := hrel
        have HB := Lib.hid hb
        have x1 := ((by rw [HW0.out]; exact X0.out : Bx _ _ _ _ _ W0).next hb).c1
        have xl := ((by rw [HW0.out]; exact X0.out : Bx _ _ _ _ _ W0).next hb).lt
        have y1 := ((by rw [HW0.out]; exact Y0.out : Bx _ _ _ _ _ W0).next hb).c1
        have yl := ((by rw [HW0.out]; exact Y0.out : Bx _ _ _ _ _ W0).next hb).lt
        have j0 : (0 : Int) ≤ (j : Int) := by omega
        clear hb
        by_cases dd1 : j < d.pend.length
        case neg =>
          have dd0 : ¬ (j : Int) < (d.pend.length : Int) := by omega
          go_wp2_with fail
          go_ret
          exact ⟨rfl, chain B0.out HB.out⟩
        case pos =>
          have dd0 : (j : Int) < (d.pend.length : Int) := by omega
          obtain ⟨p, hp⟩ : ∃ p, d.pend[j]? = some p := ⟨_, List.getElem?_eq_getElem dd1⟩
          obtain ⟨g, off, rfl, g1, g2, g3⟩ := HP.out j p hp
          obtain ⟨g', off', rfl, g1', g2', g3'⟩ := HP'.out j p hp
          obtain ⟨pa, pt⟩ := p
          simp only at g2 g3 g2' g3'
          have bel := chain B0.out HB.out
          have z1 : wr.cell? ⟨g, off + j * 2, none⟩ = some (.int .i64 pa) := by rw [bel.cell (p := ⟨g, off + j * 2, none⟩) g1]; exact g2
          have z2 : wr.cell? ⟨g, off + j * 2 + 1, none⟩ = some (.string pt) := by rw [bel.cell (p := ⟨g, off + j * 2 + 1, none⟩) g1]; exact g3
          have z3 : g < wr.heap.size := Nat.lt_of_lt_of_le g1 bel.size
          have z1' : wr.cell? ⟨g', off' + j * 2, none⟩ = some (.int .i64 pa) := by rw [bel.cell (p := ⟨g', off' + j * 2, none⟩) g1']; exact g2'
          have z2' : wr.cell? ⟨g', off' + j * 2 + 1, none⟩ = some (.string pt) := by rw [bel.cell (p := ⟨g', off' + j * 2 + 1, none⟩) g1']; exact g3'
          have z3' : g' < wr.heap.size := Nat.lt_of_lt_of_le g1' bel.size
          have e1 : (pt.data.toList == pt.data.toList) = true := by simp
          have e2 : (pa == pa) = true := by simp
          clear hp g1 g2 g3 g1' g2' g3' bel
          go_wp2_with fail
          go_quiet (fail)
          go_wp2_with fail
          go_roundw
          case rel => exact ⟨j + 1, by omega, by congr 1, below_drewN HB.out _⟩
          case measure => simp [intOf]; omega

end Go.Proofs.YtemldlhhlneleaaDoor
