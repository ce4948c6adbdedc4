/-
  The program's journal: All, Len, Get.
-/
import Derived.Test.YtemldlhhlneleaaDoorJpC
import Derived.Test.YtemldlhhlneleaaDoorJlB
namespace Go.Proofs.YtemldlhhlneleaaDoor.Jn
open Go.RowKit Dk Wi

theorem lat_form {w : World} {v : Value} {l : List S} (h : LAt w v l) : ∃ a c, v = .slice a l.length c ∧ Hid (∀ (j : Nat) (x : S), l[j]? = some x → ∃ g off, a = some ⟨g, off, none⟩ ∧ g < w.heap.size ∧ w.cell? ⟨g, off + j, none⟩ = some (.string (mkB x))) := by
  obtain ⟨a, c, rfl, -, hg⟩ := h
  refine ⟨a, c, by rw [show (strs (l.map mkB)).length = l.length by simp], fun j x hx => hg j _ (strs_get (by rw [List.getElem?_map, hx]; rfl))⟩
/-- reading, with the list's length in the value -/
theorem read_l (ok : DiskOk) (v : Value) (d : D) (l : List S) (e : Int) (w : World) (h : DAt w v d) (hf : Fit d) (hv : allV d = (l, e)) :
    Calls Tryd.prog 40 #[v] w fun r w' => ∃ a c, r = .returned (.tuple #[.agg #[.int .i64 (rdC d), .string (mkB (rdL d)), .int .i64 (rdU d), .slice a l.length c], .int .i64 e]) ∧ LAt w' (.slice a l.length c) l ∧ Below w.heap.size w w' := by
  refine (read_x ok v d w h hf).mono ?_
  rintro r w' ⟨x, rfl, hx, hb⟩
  rw [hv] at hx ⊢
  obtain ⟨a, c, rfl, -⟩ := lat_form hx
  exact ⟨a, c, rfl, hx, hb⟩
set_option maxRecDepth 100000 in
theorem pAll_x (ok : DiskOk) (v : Value) (d : D) (w : World) (h : DAt w v d) (hf : Fit d) :
    Calls Tryd.prog 21 #[v] w fun r w' => ∃ x, r = .returned (.tuple #[x, .int .i64 (allV d).2]) ∧ LAt w' x (allV d).1 ∧ Below w.heap.size w w' := by
  obtain ⟨⟨l, e⟩, hl⟩ : ∃ p, allV d = p := ⟨_, rfl⟩
  obtain ⟨a, c, b, c2, rfl, -, -, -, -⟩ := h.form
  obtain ⟨dl, hdl⟩ : ∃ x, d.left = x := ⟨_, rfl⟩
  obtain ⟨dd, hdd⟩ : ∃ x, d.down = x := ⟨_, rfl⟩
  rw [hdl, hdd] at h
  have HR := Lib.hid (read_l ok _ d l e _ (h.next (Below.new1 (.cells #[.slice a d.secs.length c, .slice b d.pend.length c2, .int .i64 dl, .bool dd] 27))) hf hl)
  rw [hdl, hdd, hl]
  obtain ⟨q0, hq0⟩ : ∃ x, rdC d = x := ⟨_, rfl⟩
  obtain ⟨q1, hq1⟩ : ∃ x, mkB (rdL d) = x := ⟨_, rfl⟩
  obtain ⟨q2, hq2⟩ : ∃ x, rdU d = x := ⟨_, rfl⟩
  rw [hq0, hq1, hq2] at HR
  clear h hdl hdd hl hq0 hq1 hq2
  go_enter Tryd.func21, Tryd.ntmps21
  go_wp2_with fail
  refine HR.out.mono ?_
  rintro r w1 ⟨la, lc, rfl, h1, b1⟩
  have B1 := Lib.hid (chain (chain (Below.new1 _) b1) (Below.new1 (.cells #[.int .i64 q0, .string q1, .int .i64 q2, .slice la l.length lc] 62)))
  have H1 := Lib.hid (h1.next (Below.new1 (.cells #[.int .i64 q0, .string q1, .int .i64 q2, .slice la l.length lc] 62)))
  clear h1 b1 HR
  go_wp2_with fail
  go_ret2
  exact ⟨_, rfl, H1.out, B1.out⟩
set_option maxRecDepth 100000 in
theorem pLen_x (ok : DiskOk) (v : Value) (d : D) (w : World) (h : DAt w v d) (hf : Fit d) :
    Calls Tryd.prog 22 #[v] w fun r w' => r = .returned (.tuple #[.int .i64 ((allV d).1.length : Int), .int .i64 (allV d).2]) ∧ Below w.heap.size w w' := by
  obtain ⟨⟨l, e⟩, hl⟩ : ∃ p, allV d = p := ⟨_, rfl⟩
  obtain ⟨a, c, b, c2, rfl, -, -, -, -⟩ := h.form
  obtain ⟨dl, hdl⟩ : ∃ x, d.left = x := ⟨_, rfl⟩
  obtain ⟨dd, hdd⟩ : ∃ x, d.down = x := ⟨_, rfl⟩
  rw [hdl, hdd] at h
  have HR := Lib.hid (read_l ok _ d l e _ (h.next (Below.new1 (.cells #[.slice a d.secs.length c, .slice b d.pend.length c2, .int .i64 dl, .bool dd] 27))) hf hl)
  rw [hdl, hdd, hl]
  obtain ⟨q0, hq0⟩ : ∃ x, rdC d = x := ⟨_, rfl⟩
  obtain ⟨q1, hq1⟩ : ∃ x, mkB (rdL d) = x := ⟨_, rfl⟩
  obtain ⟨q2, hq2⟩ : ∃ x, rdU d = x := ⟨_, rfl⟩
  rw [hq0, hq1, hq2] at HR
  clear h hdl hdd hl hq0 hq1 hq2
  go_enter Tryd.func22, Tryd.ntmps22
  go_wp2_with fail
  refine HR.out.mono ?_
  rintro r w1 ⟨la, lc, rfl, h1, b1⟩
  have B1 := Lib.hid (chain (chain (Below.new1 _) b1) (Below.new1 (.cells #[.int .i64 q0, .string q1, .int .i64 q2, .slice la l.length lc] 62)))
  clear h1 b1 HR
  go_wp2_with fail
  go_ret2
  exact ⟨rfl, B1.out⟩
theorem get_no {d : D} {l : List S} {e i : Int} (h : allV d = (l, e)) (he : e ≠ 0) : getV d i = (⟨#[]⟩, e) := by unfold getV; rw [h]; exact if_neg he
theorem get_out {d : D} {l : List S} {i : Int} (h : allV d = (l, 0)) (hi : ¬ (0 ≤ i ∧ i < (l.length : Int))) : getV d i = (⟨#[]⟩, 4) := by unfold getV; rw [h, if_pos rfl]; exact if_neg hi
theorem get_in {d : D} {l : List S} {k : Nat} {x : S} (h : allV d = (l, 0)) (hx : l[k]? = some x) : getV d (k : Int) = (mkB x, 0) := by
  have hk := (List.getElem?_eq_some_iff.1 hx).1
  unfold getV
  rw [h, if_pos rfl]
  show (if 0 ≤ (k : Int) ∧ (k : Int) < (l.length : Int) then _ else _) = _
  rw [if_pos ⟨by omega, by omega⟩, Int.toNat_natCast]
  show (mkB ((l[k]?).getD []), (0 : Int)) = _
  rw [hx]
  rfl
set_option maxHeartbeats 1600000 in
set_option maxRecDepth 100000 in
theorem pGet_x (ok : DiskOk) (v : Value) (d : D) (i : Int) (w : World) (h : DAt w v d) (hf : Fit d) (_hi : I64 i) :
    Calls Tryd.prog 23 #[v, .int .i64 i] w fun r w' => r = .returned (.tuple #[.string (getV d i).1, .int .i64 (getV d i).2]) ∧ Below w.heap.size w w' := by
  obtain ⟨⟨l, e⟩, hl⟩ : ∃ p, allV d = p := ⟨_, rfl⟩
  obtain ⟨a, c, b, c2, rfl, -, -, -, -⟩ := h.form
  obtain ⟨dl, hdl⟩ : ∃ x, d.left = x := ⟨_, rfl⟩
  obtain ⟨dd, hdd⟩ : ∃ x, d.down = x := ⟨_, rfl⟩
  rw [hdl, hdd] at h
  have HR := Lib.hid (read_l ok _ d l e _ (h.next (Below.new1 (.cells #[.slice a d.secs.length c, .slice b d.pend.length c2, .int .i64 dl, .bool dd] 27))) hf hl)
  rw [hdl, hdd]
  obtain ⟨q0, hq0⟩ : ∃ x, rdC d = x := ⟨_, rfl⟩
  obtain ⟨q1, hq1⟩ : ∃ x, mkB (rdL d) = x := ⟨_, rfl⟩
  obtain ⟨q2, hq2⟩ : ∃ x, rdU d = x := ⟨_, rfl⟩
  rw [hq0, hq1, hq2] at HR
  have HL := Lib.hid hl
  clear h hdl hdd hl hq0 hq1 hq2
  go_enter Tryd.func23, Tryd.ntmps23
  go_wp2_with fail
  refine HR.out.mono ?_
  rintro r w1 ⟨la, lc, rfl, h1, b1⟩
  have B1 := Lib.hid (chain (chain (Below.new1 _) b1) (Below.new1 (.cells #[.int .i64 q0, .string q1, .int .i64 q2, .slice la l.length lc] 62)))
  have H1 := Lib.hid h1
  clear h1 b1 HR
  by_cases e0 : e = 0
  case neg =>
    have e1 : (e != 0) = true := by simpa using e0
    have hv := Lib.hid (get_no (i := i) HL.out e0)
    clear e0
    go_wp2_with fail
    go_ret2
    exact ⟨by rw [hv.out]; try rfl, B1.out⟩
  case pos =>
  subst e0
  by_cases hi0 : i < 0
  · have hv := Lib.hid (get_out (i := i) HL.out (by omega))
    go_wp2_with fail
    go_ret2
    exact ⟨by rw [hv.out]; try rfl, B1.out⟩
  by_cases hi1 : (l.length : Int) ≤ i
  · have hv := Lib.hid (get_out (i := i) HL.out (by omega))
    go_wp2_with fail
    go_ret2
    exact ⟨by rw [hv.out]; try rfl, B1.out⟩
  obtain ⟨k, rfl⟩ := Int.eq_ofNat_of_zero_le (show 0 ≤ i by omega)
  obtain ⟨x, hx⟩ : ∃ x, l[k]? = some x := ⟨_, List.getElem?_eq_getElem (by omega)⟩
  have hv := Lib.hid (get_in HL.out hx)
  obtain ⟨a', c', e', hg⟩ := lat_form H1.out
  injection e' with e1 _ e3
  subst e1
  subst e3
  obtain ⟨g, off, rfl, g1, g2⟩ := hg.out k x hx
  have k1 : (k : Int) < (l.length : Int) := by omega
  clear hx hg hi1
  go_wp2_with fail
  go_ret2
  exact ⟨by rw [hv.out]; try rfl, B1.out⟩

end Go.Proofs.YtemldlhhlneleaaDoor.Jn
