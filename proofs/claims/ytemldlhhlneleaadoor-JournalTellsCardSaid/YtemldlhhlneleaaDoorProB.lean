/-
  The program: Check, checkUp; the clones, fresh, off.
-/
import Derived.Test.YtemldlhhlneleaaDoorProA
import Derived.Test.YtemldlhhlneleaaDoorDkOk
import Derived.Test.YtemldlhhlneleaaDoorShelf
namespace Go.Proofs.YtemldlhhlneleaaDoor
open Go.RowKit Dk

set_option maxHeartbeats 6400000 in
set_option maxRecDepth 100000 in
theorem pCheck_x (v : Value) (d : D) (w : World) (h : DAt w v d) (hf : Fit d) :
    Calls Tryd.prog 50 #[v] w fun r w' => r = .returned (.int .i64 (chk d)) ∧ Below w.heap.size w w' := by
  obtain ⟨a, c, b, c2, rfl, -, -, -, -⟩ := h.form
  have h2 := hf.pend
  have h3 := hf.left
  unfold I64 at h3
  have HRS := Lib.hid (rightSectors_x _ d.secs _ (h.next (Below.new1 (.cells #[.slice a d.secs.length c, .slice b d.pend.length c2, .int .i64 d.left, .bool d.down] 27))).secs_at hf.secs hf.s1)
  have HRP := Lib.hid (rightPending_x _ d _ (h.next (Below.new1 (.cells #[.slice a d.secs.length c, .slice b d.pend.length c2, .int .i64 d.left, .bool d.down] 27))) hf)
  obtain ⟨dl, hdl⟩ : ∃ x, d.left = x := ⟨_, rfl⟩
  obtain ⟨dd, hdd⟩ : ∃ x, d.down = x := ⟨_, rfl⟩
  obtain ⟨s1, hs1⟩ : ∃ x, secB d.secs = x := ⟨_, rfl⟩
  obtain ⟨p1, hp1⟩ : ∃ x, pndB d = x := ⟨_, rfl⟩
  rw [hdl] at h3
  have HV : Hid (∀ k : Int, k = (if s1 = true ∧ p1 = true ∧ (-1 ≤ dl ∧ dl ≤ 512) ∧ (dd = true → d.pend = [] ∧ dl = -1) then 0 else 1) → chk d = k) := by
    intro k hk
    rw [hk]
    by_cases q : s1 = true ∧ p1 = true ∧ (-1 ≤ dl ∧ dl ≤ 512) ∧ (dd = true → d.pend = [] ∧ dl = -1)
    · rw [if_pos q]; exact chk_zero (by rw [hs1, hp1, hdl, hdd]; exact q)
    · rw [if_neg q]; exact chk_one (by rw [hs1, hp1, hdl, hdd]; exact q)
  rw [hdl, hdd] at HRS HRP
  rw [hs1] at HRS
  rw [hp1] at HRP
  rw [hdl, hdd]
  clear h hf hdl hdd hs1 hp1
  go_enter Tryd.func50, Tryd.ntmps50
  go_wp2_with fail
  refine HRS.out.mono ?_
  rintro r w1 ⟨rfl, rfl⟩
  clear HRS
  cases s1 with
  | false =>
    have hv : Hid (chk d = 1) := HV.out 1 (by rw [if_neg]; intro q; exact absurd q.1 (by decide))
    clear HV
    go_wp2_with fail
    go_ret
    exact ⟨by rw [hv.out]; try rfl, Below.new1 _⟩
  | true =>
    go_wp2_with fail
    refine HRP.out.mono ?_
    rintro r w2 ⟨rfl, b2⟩
    have BXX := (Bx.new w (.slice a d.secs.length c) (.slice b d.pend.length c2) dl dd 27).next b2
    have x0 := BXX.c0
    have x1 := BXX.c1
    have x2 := BXX.c2
    have x3 := BXX.c3
    have xl := BXX.lt
    have Hb := Lib.hid (chain (Below.new1 _) b2)
    clear HRP BXX b2
    cases p1 with
    | false =>
      have hv : Hid (chk d = 1) := HV.out 1 (by rw [if_neg]; intro q; exact absurd q.2.1 (by decide))
      clear HV
      go_wp2_with fail
      go_ret
      exact ⟨by rw [hv.out]; try rfl, Hb.out⟩
    | true =>
      by_cases t4 : dl < -1
      · have hv : Hid (chk d = 1) := HV.out 1 (by rw [if_neg]; intro q; omega)
        clear HV
        go_wp2_with fail
        go_ret
        exact ⟨by rw [hv.out]; try rfl, Hb.out⟩
      by_cases t5 : 512 < dl
      · have hv : Hid (chk d = 1) := HV.out 1 (by rw [if_neg]; intro q; omega)
        clear HV
        go_wp2_with fail
        go_ret
        exact ⟨by rw [hv.out]; try rfl, Hb.out⟩
      cases dd with
      | false =>
        have hv : Hid (chk d = 0) := HV.out 0 (by rw [if_pos]; exact ⟨by first | trivial | rfl, by first | trivial | rfl, by omega, fun e => by cases e⟩)
        clear HV
        go_wp2_with fail
        go_ret
        exact ⟨by rw [hv.out]; try rfl, Hb.out⟩
      | true =>
        by_cases e1 : 0 < d.pend.length
        · have f7 : 0 < (d.pend.length : Int) := by omega
          have hv : Hid (chk d = 1) := HV.out 1 (by rw [if_neg]; intro q; have := (q.2.2.2 rfl).1; rw [this] at e1; simp at e1)
          clear HV
          go_wp2_with fail
          go_ret
          exact ⟨by rw [hv.out]; try rfl, Hb.out⟩
        · have f7 : ¬ 0 < (d.pend.length : Int) := by omega
          have hnil : d.pend = [] := List.eq_nil_of_length_eq_zero (by omega)
          by_cases e2 : dl = -1
          · have f8 : (dl != -1) = false := by simp; omega
            have hv : Hid (chk d = 0) := HV.out 0 (by rw [if_pos]; exact ⟨by first | trivial | rfl, by first | trivial | rfl, by omega, fun _ => ⟨hnil, e2⟩⟩)
            clear e2 hnil HV
            go_wp2_with fail
            go_ret
            exact ⟨by rw [hv.out]; try rfl, Hb.out⟩
          · have f8 : (dl != -1) = true := by simp; omega
            have hv : Hid (chk d = 1) := HV.out 1 (by rw [if_neg]; intro q; exact e2 (q.2.2.2 rfl).2)
            clear e2 hnil HV
            go_wp2_with fail
            go_ret
            exact ⟨by rw [hv.out]; try rfl, Hb.out⟩

theorem pUp_x (v : Value) (d : D) (w : World) (h : DAt w v d) (hf : Fit d) :
    Calls Tryd.prog 48 #[v] w fun r w' => r = .returned (.int .i64 (upE d)) ∧ Below w.heap.size w w' := by
  obtain ⟨a, c, b, c2, rfl, -, -, -, -⟩ := h.form
  obtain ⟨dl, hdl⟩ : ∃ x, d.left = x := ⟨_, rfl⟩
  obtain ⟨dd, hdd⟩ : ∃ x, d.down = x := ⟨_, rfl⟩
  rw [hdl, hdd] at h
  have HC := Lib.hid (pCheck_x _ d _ (h.next (Below.new1 (.cells #[.slice a d.secs.length c, .slice b d.pend.length c2, .int .i64 dl, .bool dd] 27))) hf)
  rw [hdl, hdd]
  have HDN := Lib.hid hdd
  clear h hf hdl hdd
  obtain ⟨cb, hcb⟩ : ∃ x, checkB d = x := ⟨_, rfl⟩
  have HCB := Lib.hid hcb
  clear hcb
  go_enter Tryd.func48, Tryd.ntmps48
  go_wp2_with fail
  refine HC.out.mono ?_
  rintro r w1 ⟨rfl, b1⟩
  have x3 := ((Bx.new w (.slice a d.secs.length c) (.slice b d.pend.length c2) dl dd 27).next b1).c3
  have xl := ((Bx.new w (.slice a d.secs.length c) (.slice b d.pend.length c2) dl dd 27).next b1).lt
  have B1 := Lib.hid (chain (Below.new1 _) b1)
  clear b1 HC
  cases cb with
  | false =>
    have hc : chk d = 1 := chk_no HCB.out
    have hv : Hid (upE d = 1) := by show _ = _; unfold upE; rw [HCB.out]; rfl
    rw [hc]
    clear hc
    go_wp2_with fail
    go_ret
    exact ⟨by rw [hv.out]; try rfl, B1.out⟩
  | true =>
    have hc : chk d = 0 := chk_yes HCB.out
    have hv : Hid (upE d = bif dd then 8 else 0) := by show _ = _; unfold upE; rw [HCB.out, HDN.out]; rfl
    rw [hc]
    clear hc
    cases dd with
    | false =>
      go_wp2_with fail
      go_ret
      exact ⟨by rw [hv.out]; rfl, B1.out⟩
    | true =>
      go_wp2_with fail
      go_ret
      exact ⟨by rw [hv.out]; rfl, B1.out⟩

/-! the clones -/
theorem cloneS_x (v : Value) (l : List B) (w : World) (h : SAt w v (strs l)) (h0 : 0 < l.length) (hl : l.length ≤ 1099511627776) :
    Calls Tryd.prog 68 #[v] w fun r w' => ∃ g gc, r = .returned (.slice (some ⟨g, 0, none⟩) l.length gc) ∧ l.length ≤ gc ∧ w.heap.size ≤ g ∧ Row w' g (strs l) ∧ Below w.heap.size w w' := by
  obtain ⟨a, c, rfl, -, hc⟩ := h
  obtain ⟨b, off, rfl, -, -⟩ := hc 0 _ (strs_get (List.getElem?_eq_getElem h0))
  rw [strs_len]
  refine (Tryd.slices_Clone_string b off l.length c l w (Nat.le_refl _) (by omega) (fun j hj => ?_)).mono ?_
  · obtain ⟨b', off', e, -, h1⟩ := hc j _ (strs_get (List.getElem?_eq_getElem hj))
    simp only [Option.some.injEq, Addr.mk.injEq, and_true] at e
    obtain ⟨rfl, rfl⟩ := e
    rw [h1, List.getD_eq_getElem?_getD, List.getElem?_eq_getElem hj]
    rfl
  · rintro r w' ⟨u, rfl, ho, -, hb⟩
    rw [List.take_of_length_le (Nat.le_refl _)] at ho
    obtain ⟨g, gc, rfl, h1, h2, h3⟩ := own_some ho (by rw [strs_len]) h0
    exact ⟨g, gc, rfl, h2, h1, h3, hb⟩
theorem wC_inv {l : List (Int × B)} {j : Nat} {u : Value} (h : (wC l)[j]? = some u) : ∃ p, l[j / 2]? = some p ∧ ((j % 2 = 0 ∧ u = .int .i64 p.1) ∨ (j % 2 = 1 ∧ u = .string p.2)) := by
  have hj := (List.getElem?_eq_some_iff.1 h).1
  rw [wC_len] at hj
  have hk : j / 2 < l.length := by omega
  have hp := List.getElem?_eq_getElem hk
  obtain ⟨h1, h2⟩ := wC_get hp
  refine ⟨_, hp, ?_⟩
  rcases Nat.mod_two_eq_zero_or_one j with e | e
  · left
    rw [show j / 2 * 2 = j by omega, h] at h1
    exact ⟨e, Option.some.inj h1⟩
  · right
    rw [show j / 2 * 2 + 1 = j by omega, h] at h2
    exact ⟨e, Option.some.inj h2⟩
theorem wC_one : ∀ (l : List (Int × B)), ∀ u ∈ wC l, u.oneCell' = true
  | [], u, h => by simp [wC] at h
  | p :: t, u, h => by
    rcases List.mem_cons.1 h with rfl | h
    · rfl
    · rcases List.mem_cons.1 h with rfl | h
      · rfl
      · exact wC_one t u h
theorem infoW2 : (Tryd.prog.info? 66).map (fun i => (i.zero, i.size, i.bytes)) = some (some (.agg #[.int .i64 0, .string ⟨#[]⟩]), 2, 24) := by kernel_rfl

set_option maxHeartbeats 3200000 in
theorem cloneW_x (v : Value) (l : List (Int × B)) (w : World) (h : WAt w v l) (hl : l.length ≤ 1099511627776) :
    Calls Tryd.prog 69 #[v] w fun r w' => ∃ pa pc, r = .returned (.slice pa l.length pc) ∧ w'.ownsRow w.heap.size 66 2 (.slice pa l.length pc) l.length (wC l) ∧ Below w.heap.size w w' := by
  obtain ⟨a, c, rfl, -, hc⟩ := h
  have HC := Lib.hid hc
  clear hc
  cases a with
  | none =>
    have e : l = [] := by
      cases l with
      | nil => rfl
      | cons p t => obtain ⟨b, off, e, -⟩ := HC.out 0 p rfl; cases e
    subst e
    clear HC hl
    have q22 : ∀ (w : World) (a : Option Addr) (n c n' c' : Nat), (binOp .eql 25 (.slice a n c) (.slice none n' c')).run Tryd.prog w = .ok (.bool a.isNone) w := fun w a n c n' c' => Lib.run_eql_slice_nil w _ _ a n c n' c' Tryd.underlying25
    go_enter Tryd.func69, Tryd.ntmps69
    go_wp2_with fail
    go_ret
    exact ⟨none, 0, rfl, ⟨rfl, .inl ⟨rfl, rfl⟩⟩, Below.refl _ _⟩
  | some p =>
    obtain ⟨rj, hj, hy0, hy1, hy2⟩ := info_parts infoW2
    have HCC : Hid (∀ (j : Nat) (u : Value), (wC l)[j]? = some u → (w.alloc (.cells #[] 66)).cell? (p.add j) = some u) := by
      intro j u hu
      obtain ⟨q, hq, hc⟩ := wC_inv hu
      obtain ⟨b, off, e, hlt, h1, h2⟩ := HC.out (j / 2) q hq
      simp only [Option.some.injEq] at e
      subst e
      rw [add_plain, World.cell?_alloc_lt _ _ _ hlt]
      rcases hc with ⟨e, rfl⟩ | ⟨e, rfl⟩
      · rw [show off + j = off + j / 2 * 2 by omega]; exact h1
      · rw [show off + j = off + j / 2 * 2 + 1 by omega]; exact h2
    clear HC
    have q22 : ∀ (w : World) (a : Option Addr) (n c n' c' : Nat), (binOp .eql 25 (.slice a n c) (.slice none n' c')).run Tryd.prog w = .ok (.bool a.isNone) w := fun w a n c n' c' => Lib.run_eql_slice_nil w _ _ a n c n' c' Tryd.underlying25
    go_enter Tryd.func69, Tryd.ntmps69
    go_wp2_with (at_builtin; refine wpList_append_own _ rfl _ _ 25 rfl w.heap.size 66 rj (.agg #[.int .i64 0, .string ⟨#[]⟩]) 2 24 Tryd.underlying25 hj hy0 hy1 hy2 rfl (by decide) _ _ _ rfl (World.ownsRow_made w #[] 0 (Nat.le_refl _) (Nat.zero_le _) rfl) p l.length c (wC l) rfl ?f1 ?f2 ?f3 ?f4 ?f5 ?f6 ?_)
    case f1 => rw [wC_len]
    case f2 => exact HCC.out
    case f3 => intro u hu; exact wC_one l u hu
    case f4 => unfold maxLen; omega
    case f5 => omega
    case f6 => simp
    intro v' w1 hown hgrow hnil
    go_wp2_with fail
    go_ret
    obtain ⟨pa, pc, rfl⟩ : ∃ pa pc, v' = .slice pa l.length pc := by
      rcases hown.2 with ⟨e, h0⟩ | ⟨g, cap, cur, e, -⟩
      · exact ⟨none, 0, by rw [e, h0]⟩
      · exact ⟨_, _, e⟩
    exact ⟨pa, pc, rfl, hown, ((Below.refl _ w).alloc (Nat.le_refl _) _).grown hgrow (by simp) (by intro k hk; simp [Value.ownBlock] at hk; omega)⟩

theorem DAt.pend_at {W : World} {sv pv : Value} {l : Int} {b : Bool} {d : D} (h : DAt W (.agg #[sv, pv, .int .i64 l, .bool b]) d) : WAt W pv d.pend := by
  obtain ⟨sv', pv', e, -, h2⟩ := h
  simp at e
  obtain ⟨rfl, rfl, -, -⟩ := e
  exact h2
/-! a box in which one cell is written -/
theorem Bx.set0 {sv0 pv : Value} {l : Int} {b : Bool} {g : Nat} {W : World} (h : Bx sv0 pv l b g W) (sv : Value) : Bx sv pv l b g (W.setCell ⟨g, 0, none⟩ sv) :=
  ⟨by simpa using h.lt, World.cell?_setCell_same _ _ _ h.c0, by rw [cell_set_ne _ _ (by omega)]; exact h.c1, by rw [cell_set_ne _ _ (by omega)]; exact h.c2, by rw [cell_set_ne _ _ (by omega)]; exact h.c3, fun o => by simpa using h.fz o⟩
theorem Bx.set1 {sv pv0 : Value} {l : Int} {b : Bool} {g : Nat} {W : World} (h : Bx sv pv0 l b g W) (pv : Value) : Bx sv pv l b g (W.setCell ⟨g, 1, none⟩ pv) :=
  ⟨by simpa using h.lt, by rw [cell_set_ne _ _ (by omega)]; exact h.c0, World.cell?_setCell_same _ _ _ h.c1, by rw [cell_set_ne _ _ (by omega)]; exact h.c2, by rw [cell_set_ne _ _ (by omega)]; exact h.c3, fun o => by simpa using h.fz o⟩
theorem Bx.set2 {sv pv : Value} {l0 : Int} {b : Bool} {g : Nat} {W : World} (h : Bx sv pv l0 b g W) (l : Int) : Bx sv pv l b g (W.setCell ⟨g, 2, none⟩ (.int .i64 l)) :=
  ⟨by simpa using h.lt, by rw [cell_set_ne _ _ (by omega)]; exact h.c0, by rw [cell_set_ne _ _ (by omega)]; exact h.c1, World.cell?_setCell_same _ _ _ h.c2, by rw [cell_set_ne _ _ (by omega)]; exact h.c3, fun o => by simpa using h.fz o⟩
theorem Bx.othr {sv pv : Value} {l : Int} {b : Bool} {g : Nat} {W : World} (h : Bx sv pv l b g W) {p : Addr} (hp : p.block ≠ g) (u : Value) : Bx sv pv l b g (W.setCell p u) := by
  have hc : ∀ o, (W.setCell p u).cell? ⟨g, o, none⟩ = W.cell? ⟨g, o, none⟩ := fun o => World.cell?_setCell_other _ _ _ _ (by intro e; exact hp (by rw [e]))
  exact ⟨by simpa using h.lt, by rw [hc]; exact h.c0, by rw [hc]; exact h.c1, by rw [hc]; exact h.c2, by rw [hc]; exact h.c3, fun o => by simpa using h.fz o⟩
theorem two_new (w : World) (sv pv : Value) (dl : Int) (dd : Bool) : Bx sv pv dl dd w.heap.size ((w.alloc (.cells #[sv, pv, .int .i64 dl, .bool dd] 27)).alloc (.cells #[.slice none 0 0, .slice none 0 0, .int .i64 0, .bool false] 27)) ∧
    Bx (.slice none 0 0) (.slice none 0 0) 0 false (w.heap.size + 1) ((w.alloc (.cells #[sv, pv, .int .i64 dl, .bool dd] 27)).alloc (.cells #[.slice none 0 0, .slice none 0 0, .int .i64 0, .bool false] 27)) ∧
    Below w.heap.size w ((w.alloc (.cells #[sv, pv, .int .i64 dl, .bool dd] 27)).alloc (.cells #[.slice none 0 0, .slice none 0 0, .int .i64 0, .bool false] 27)) := by
  refine ⟨(Bx.new _ _ _ _ _ _).next (Below.new1 _), ?_, chain (Below.new1 _) (Below.new1 _)⟩
  have hy := Bx.new (w.alloc (.cells #[sv, pv, .int .i64 dl, .bool dd] 27)) (.slice none 0 0) (.slice none 0 0) 0 false 27
  rw [show (w.alloc (.cells #[sv, pv, .int .i64 dl, .bool dd] 27)).heap.size = w.heap.size + 1 by simp] at hy
  exact hy

set_option maxHeartbeats 6400000 in
set_option maxRecDepth 100000 in
theorem off_x (a b : Option Addr) (n c m c2 : Nat) (dl : Int) (dd : Bool) (w : World) :
    Calls Tryd.prog 51 #[.agg #[.slice a n c, .slice b m c2, .int .i64 dl, .bool dd]] w fun r w' => r = .returned (.agg #[.slice a n c, .slice none 0 0, .int .i64 (-1), .bool true]) ∧ Below w.heap.size w w' := by
  go_enter Tryd.func51, Tryd.ntmps51
  go_wp2_with fail
  exact bodyPost_ret (v := .agg #[.slice a n c, .slice none 0 0, .int .i64 (-1), .bool true]) (by simp [results, Tryd.results51, go_sem]) rfl ⟨rfl, chain (Below.new1 _) (Below.new1 _)⟩

set_option maxHeartbeats 6400000 in
set_option maxRecDepth 100000 in
theorem fresh_x (v : Value) (d : D) (w : World) (h : DAt w v d) (hr : checkB d = true) :
    Calls Tryd.prog 49 #[v] w fun r w' => ∃ g gc pa pc n, r = .returned (.agg #[.slice (some ⟨g, 0, none⟩) d.secs.length gc, .slice pa d.pend.length pc, .int .i64 d.left, .bool d.down]) ∧ d.secs.length ≤ gc ∧ w.heap.size ≤ g ∧ g < n ∧ Row w' g (strs d.secs) ∧ w'.ownsRow n 66 2 (.slice pa d.pend.length pc) d.pend.length (wC d.pend) ∧ Below w.heap.size w w' := by
  obtain ⟨⟨c1, c2, c3, -, -⟩, -, -, -⟩ := check_iff.1 hr
  obtain ⟨a, c, b, k2, rfl, -, -, HS, HP⟩ := h.form
  have HD := Lib.hid h
  obtain ⟨dl, hdl⟩ : ∃ x, d.left = x := ⟨_, rfl⟩
  obtain ⟨dd, hdd⟩ : ∃ x, d.down = x := ⟨_, rfl⟩
  rw [hdl, hdd] at HD
  rw [hdl, hdd]
  obtain ⟨X1, Y1, BW⟩ := two_new w (.slice a d.secs.length c) (.slice b d.pend.length k2) dl dd
  have HX := Lib.hid X1
  have HY := Lib.hid Y1
  have HBW := Lib.hid BW
  have HCS := Lib.hid (cloneS_x _ d.secs _ (HD.out.next BW).secs_at (by omega) (by omega))
  clear h hr hdl hdd X1 Y1 BW
  go_enter Tryd.func49, Tryd.ntmps49
  go_wp2_with fail
  refine HCS.out.mono ?_
  rintro r w1 ⟨g, gc, rfl, hgc, hg, hrow, b1⟩
  have RW := Lib.hid hrow
  have BX1 := Lib.hid (HX.out.next b1)
  have BY1 := Lib.hid (HY.out.next b1)
  have B1 := Lib.hid (chain HBW.out b1)
  have gl := hrow.lt
  have g0 : w.heap.size < g := by have := HY.out.lt; omega
  have g1 : w.heap.size + 1 < g := by have := HY.out.lt; omega
  have x0 := BX1.out.c0
  have x1 := BX1.out.c1
  have xl := BX1.out.lt
  have xf := BX1.out.fz
  have BX2 := Lib.hid (BX1.out.set0 (.slice (some ⟨g, 0, none⟩) d.secs.length gc))
  have BY2 := Lib.hid (BY1.out.othr (p := ⟨w.heap.size, 0, none⟩) (by show w.heap.size ≠ w.heap.size + 1; omega) (.slice (some ⟨g, 0, none⟩) d.secs.length gc))
  have B2 : Hid (Below w.heap.size w (w1.setCell ⟨w.heap.size, 0, none⟩ (.slice (some ⟨g, 0, none⟩) d.secs.length gc))) := B1.out.setCell (Nat.le_refl _) _
  have RW2 := Lib.hid (RW.out.other (p := ⟨w.heap.size, 0, none⟩) (by show w.heap.size ≠ g; omega) (.slice (some ⟨g, 0, none⟩) d.secs.length gc))
  have HCW := Lib.hid (cloneW_x _ d.pend _ (HD.out.next B2.out).pend_at (by omega))
  clear hrow b1 HCS HX HY
  go_wp2_with fail
  refine HCW.out.mono ?_
  rintro r w3 ⟨pa, pc, rfl, hown, b3⟩
  have BX3 := Lib.hid (BX2.out.next b3)
  have BY3 := Lib.hid (BY2.out.next b3)
  have B3 := Lib.hid (chain B2.out b3)
  have RW3 := Lib.hid (RW2.out.next b3)
  have ON := Lib.hid hown
  have b3s : w1.heap.size ≤ w3.heap.size := by simpa using b3.size
  clear hown b3 HCW x0 x1 xl xf
  have z0 := BX3.out.c0
  have z1 := BX3.out.c1
  have z2 := BX3.out.c2
  have z3 := BX3.out.c3
  have zl := BX3.out.lt
  have zf := BX3.out.fz
  have y0 := BY3.out.c0
  have y1 := BY3.out.c1
  have y2 := BY3.out.c2
  have y3 := BY3.out.c3
  have yl := BY3.out.lt
  have yf := BY3.out.fz
  go_wp2_with fail
  have m1 : w.heap.size < (w1.setCell ⟨w.heap.size, 0, none⟩ (.slice (some ⟨g, 0, none⟩) d.secs.length gc)).heap.size := by simp; omega
  have m2 : w.heap.size + 1 < (w1.setCell ⟨w.heap.size, 0, none⟩ (.slice (some ⟨g, 0, none⟩) d.secs.length gc)).heap.size := by simp; omega
  have n1 : w.heap.size ≠ g := by omega
  have n2 : w.heap.size + 1 ≠ g := by omega
  exact bodyPost_ret (v := .agg #[.slice (some ⟨g, 0, none⟩) d.secs.length gc, .slice pa d.pend.length pc, .int .i64 dl, .bool dd]) (by simp [results, Tryd.results49, go_sem, y0, y1, y2, y3]) rfl
    ⟨g, gc, pa, pc, (w1.setCell ⟨w.heap.size, 0, none⟩ (.slice (some ⟨g, 0, none⟩) d.secs.length gc)).heap.size, rfl, hgc, by omega, by simpa using gl,
      Row.other (Row.other (Row.other (Row.other (Row.other RW3.out n1 _) n2 _) n2 _) n2 _) n2 _,
      own_set (own_set (own_set (own_set (own_set ON.out m1 _) m2 _) m2 _) m2 _) m2 _,
      ((((B3.out.setCell (Nat.le_refl _) _).setCell (Nat.le_succ _) _).setCell (Nat.le_succ _) _).setCell (Nat.le_succ _) _).setCell (Nat.le_succ _) _⟩

end Go.Proofs.YtemldlhhlneleaaDoor
