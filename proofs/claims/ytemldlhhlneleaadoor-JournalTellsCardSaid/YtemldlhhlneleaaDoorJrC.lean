/-
  The reference of journal: All.
-/
import Derived.Test.YtemldlhhlneleaaDoorJrB
namespace Go.Proofs.YtemldlhhlneleaaDoor.Jn
open Go.RowKit Dk Wi

theorem own_nx {W W' : World} {base n s : Nat} {T : TypeId} {v : Value} {xs : List Value} (h : W.ownsRow base T s v n xs) (hb : Below W.heap.size W W') : W'.ownsRow base T s v n xs := by
  refine ⟨h.1, ?_⟩
  rcases h.2 with ⟨h1, h2⟩ | ⟨g, cap, cur, h1, h2, h3, h4⟩
  · exact .inl ⟨h1, h2⟩
  · exact .inr ⟨g, cap, cur, h1, h2, by rw [hb.block g (Array.getElem?_eq_some_iff.1 h3).1]; exact h3, h4⟩
theorem mk_mkB (l : S) : mk l = mkB l := rfl
theorem cur_cases (l : List B) : curI l = -1 ∨ ∃ c : Nat, curI l = (c : Int) ∧ c < 2 ∧ hn l c = curN l ∧ 0 ≤ curN l := by
  have h0 := hn_ge l 0
  have h1 := hn_ge l 1
  unfold curI curN
  split
  · exact .inl rfl
  · next h =>
    right
    split
    · next q => exact ⟨1, rfl, by decide, rfl, by omega⟩
    · next q => exact ⟨0, rfl, by decide, rfl, by omega⟩
theorem all_not {d : D} (h : rdy d ≠ 0) : allV d = ([], rdy d) := by unfold allV; rw [if_neg h]
theorem all_none {d : D} (h : rdy d = 0) (hr : readL d.secs = none) : allV d = ([], 22) := by unfold allV; rw [if_pos h, hr]
theorem all_some {d : D} {l : List S} (h : rdy d = 0) (hr : readL d.secs = some l) : allV d = (l, 0) := by unfold allV; rw [if_pos h, hr]
theorem read_few {l : List B} (h : l.length < 3) : readL l = none := by unfold readL; rw [if_pos (.inl h)]
theorem read_off {l : List B} (h : curI l < 0) : readL l = none := by unfold readL; rw [if_pos (.inr h)]
theorem read_long {l : List B} (h : (lg l).length < (curN l).toNat) : readL l = none := by unfold readL; rw [if_pos h]; split <;> rfl
theorem read_dec {l : List B} (h3 : ¬ l.length < 3) (hc : ¬ curI l < 0) (hl : ¬ (lg l).length < (curN l).toNat) : readL l = (decF (curN l).toNat ((lg l).take (curN l).toNat)).bind fun s => if s.length ≤ 500 then some s else none := by
  unfold readL
  rw [if_neg (by intro h; rcases h with h | h; exact h3 h; exact hc h), if_neg hl]
abbrev lst (xs : List B) : List S := xs.map fun b => b.data.toList
/-- what has been read so far -/
structure Gd (T : S) (n : Nat) (xs : List B) (r : S) : Prop where
  f : ∃ f, r.length ≤ f ∧ decF n T = (decF f r).map (lst xs ++ ·)
  few : xs.length + r.length ≤ n
  small : ∀ x ∈ xs, x.size ≤ 2000
theorem Gd.start {T : S} {n : Nat} (h : T.length ≤ n) : Gd T n [] T := ⟨⟨n, h, by cases decF n T <;> rfl⟩, by simpa using h, fun x hx => absurd hx List.not_mem_nil⟩
theorem Gd.stop {T : S} {n : Nat} {xs : List B} {r : S} (h : Gd T n xs r) (hr : r ≠ []) (hn : Wm.rdS r = none) : decF n T = none := by
  obtain ⟨f, h1, h2⟩ := h.f
  rw [h2]
  cases f with
  | zero => exact absurd (List.eq_nil_of_length_eq_zero (by omega)) hr
  | succ g => simp only [decF]; rw [if_neg hr, hn]; rfl
theorem Gd.big {T : S} {n : Nat} {xs : List B} {r x r' : S} (h : Gd T n xs r) (hr : r ≠ []) (hn : Wm.rdS r = some (x, r')) (hx : 2000 < x.length) : decF n T = none := by
  obtain ⟨f, h1, h2⟩ := h.f
  rw [h2]
  cases f with
  | zero => exact absurd (List.eq_nil_of_length_eq_zero (by omega)) hr
  | succ g => simp only [decF]; rw [if_neg hr, hn, Option.bind_some]; simp only; rw [if_neg (by omega)]; rfl
theorem Gd.more {T : S} {n : Nat} {xs : List B} {r x r' : S} (h : Gd T n xs r) (hr : r ≠ []) (hn : Wm.rdS r = some (x, r')) (hx : x.length ≤ 2000) : Gd T n (xs ++ [mkB x]) r' ∧ r'.length < r.length := by
  obtain ⟨f, h1, h2⟩ := h.f
  obtain ⟨e, -⟩ := Wm.rdS_only r x r' hn
  have h4 := encS_two x
  have h5 : r.length = (Wm.encS x).length + r'.length := by rw [e, List.length_append]
  have hfew := h.few
  refine ⟨⟨?_, by rw [List.length_append, List.length_singleton]; omega, fun y hy => ?_⟩, by omega⟩
  · cases f with
    | zero => exact absurd (List.eq_nil_of_length_eq_zero (by omega)) hr
    | succ g =>
      refine ⟨g, by omega, ?_⟩
      rw [h2]
      simp only [decF]
      rw [if_neg hr, hn, Option.bind_some]
      simp only
      rw [if_pos hx]
      cases decF g r' with
      | none => rfl
      | some q => simp [lst, mkB_list]
  · rcases List.mem_append.1 hy with k | k
    · exact h.small y k
    · rw [List.mem_singleton.1 k]; exact hx
theorem Gd.done {T : S} {n : Nat} {xs : List B} (h : Gd T n xs []) : decF n T = some (lst xs) := by
  obtain ⟨f, -, h2⟩ := h.f
  rw [h2, decF_nil]
  simp
/-- a list of strings in memory -/
abbrev LAt (w : World) (v : Value) (l : List S) : Prop := SAt w v (strs (l.map mkB))
theorem lst_mk (l : List S) : lst (l.map mkB) = l := by
  unfold lst
  rw [List.map_map]
  conv => rhs; rw [← List.map_id l]
  rfl
theorem mk_lst (l : List B) : (lst l).map mkB = l := by
  unfold lst
  rw [List.map_map]
  conv => rhs; rw [← List.map_id l]
  rfl
def AlRel (T : S) (n : Nat) (w : World) (r v : Value) (wr : World) : Prop := ∃ (xs : List B) (t : S) (la : Option Addr) (lc : Nat), r = .string (mkB t) ∧ v = .slice la xs.length lc ∧ Gd T n xs t ∧ wr.ownsRow w.heap.size 9 1 (.slice la xs.length lc) xs.length (strs xs) ∧ Below w.heap.size w wr

set_option maxHeartbeats 6400000 in
set_option maxRecDepth 100000 in
theorem All_x (v : Value) (d : D) (w : World) (h : DAt w v d) (hf : Fit d) :
    Calls Tryd.prog 20 #[v] w fun r w' => ∃ x, r = .returned (.tuple #[x, .int .i64 (allV d).2]) ∧ LAt w' x (allV d).1 ∧ Below w.heap.size w w' := by
  obtain ⟨a, c, b, c2, rfl, -, -, HS, -⟩ := h.form
  obtain ⟨dl, hdl⟩ : ∃ x, d.left = x := ⟨_, rfl⟩
  obtain ⟨dd, hdd⟩ : ∃ x, d.down = x := ⟨_, rfl⟩
  rw [hdl, hdd] at h
  have HD := Lib.hid h
  have HF := Lib.hid hf
  have BW : Hid (Below w.heap.size w (w.alloc (.cells #[.slice a d.secs.length c, .slice b d.pend.length c2, .int .i64 dl, .bool dd] 27))) := Below.new1 _
  have X0 : Hid (Bx (.slice a d.secs.length c) (.slice b d.pend.length c2) dl dd w.heap.size (w.alloc (.cells #[.slice a d.secs.length c, .slice b d.pend.length c2, .int .i64 dl, .bool dd] 27))) := Bx.new _ _ _ _ _ _
  rw [hdl, hdd]
  have hle := hf.secs
  clear h hf hdl hdd
  obtain ⟨e, he⟩ : ∃ e, rdy d = e := ⟨_, rfl⟩
  have HR : Hid (∀ W, Below w.heap.size w W → Calls Tryd.prog 35 #[.agg #[.slice a d.secs.length c, .slice b d.pend.length c2, .int .i64 dl, .bool dd]] W fun r w' => r = .returned (.int .i64 e) ∧ Below W.heap.size W w') := by
    show ∀ W, _
    intro W hW
    rw [← he]
    exact ready_x _ d W (HD.out.next hW) HF.out
  by_cases e0 : e = 0
  case neg =>
    have e1 : (e != 0) = true := by simp; omega
    have hv : Hid (allV d = ([], e)) := by show _ = _; rw [all_not (by rw [he]; exact e0), he]
    clear he e0
    go_enter Tryd.func20, Tryd.ntmps20
    go_wp2_with fail
    refine (HR.out _ BW.out).mono ?_
    rintro r w1 ⟨rfl, b1⟩
    have B1 := Lib.hid (chain BW.out b1)
    clear b1
    go_wp2_with fail
    go_ret2
    exact ⟨_, by rw [hv.out]; try rfl, by rw [hv.out]; exact SAt.nil _, B1.out⟩
  case pos =>
  have HE : Hid (rdy d = 0) := by show _ = _; rw [he, e0]
  clear he
  subst e0
  obtain ⟨hck, -, -⟩ := rdy_zero.1 HE.out
  have HCK := Lib.hid hck
  obtain ⟨⟨n1, n2, -⟩, hs16, -⟩ := check_iff.1 hck
  have H16 := Lib.hid hs16
  clear hck hs16
  by_cases t3 : d.secs.length < 3
  · have f3 : (d.secs.length : Int) < 3 := by omega
    have hv : Hid (allV d = ([], 22)) := all_none HE.out (read_few t3)
    clear t3
    go_enter Tryd.func20, Tryd.ntmps20
    go_wp2_with fail
    refine (HR.out _ BW.out).mono ?_
    rintro r w1 ⟨rfl, b1⟩
    have BX := X0.out.next b1
    have x0 := BX.c0
    have xl := BX.lt
    have B1 := Lib.hid (chain BW.out b1)
    clear b1 BX
    go_wp2_with fail
    go_ret2
    exact ⟨_, by rw [hv.out]; try rfl, by rw [hv.out]; exact SAt.nil _, B1.out⟩
  have f3 : ¬ (d.secs.length : Int) < 3 := by omega
  obtain ⟨cu, hcu⟩ : ∃ x, curI d.secs = x := ⟨_, rfl⟩
  have HC : Hid (∀ W, Below w.heap.size w W → Calls Tryd.prog 39 #[.agg #[.slice a d.secs.length c, .slice b d.pend.length c2, .int .i64 dl, .bool dd]] W fun r w' => r = .returned (.int .i64 cu) ∧ Below W.heap.size W w') := by
    show ∀ W, _
    intro W hW
    rw [← hcu]
    exact Current_x _ d W (HD.out.next hW) HCK.out (by omega)
  rcases cur_cases d.secs with hc | ⟨cn, hc, hc2, hcn, hcn0⟩
  · obtain rfl : cu = -1 := by rw [← hcu]; exact hc
    have hv : Hid (allV d = ([], 22)) := all_none HE.out (read_off (by rw [hc]; decide))
    clear hc hcu
    go_enter Tryd.func20, Tryd.ntmps20
    go_wp2_with fail
    refine (HR.out _ BW.out).mono ?_
    rintro r w1 ⟨rfl, b1⟩
    have BX := X0.out.next b1
    have x0 := BX.c0
    have x1 := BX.c1
    have x2 := BX.c2
    have x3 := BX.c3
    have xl := BX.lt
    have B1 := Lib.hid (chain BW.out b1)
    clear b1 BX
    go_wp2_with fail
    refine (HC.out _ B1.out).mono ?_
    rintro r w2 ⟨rfl, b2⟩
    have B2 := Lib.hid (chain B1.out b2)
    clear b2
    go_wp2_with fail
    go_ret2
    exact ⟨_, by rw [hv.out]; try rfl, by rw [hv.out]; exact SAt.nil _, B2.out⟩
  obtain rfl : cu = (cn : Int) := by rw [← hcu]; exact hc
  have HCU := Lib.hid hcu
  obtain ⟨n, hn⟩ := Int.eq_ofNat_of_zero_le hcn0
  have HN := Lib.hid hn
  obtain ⟨s, hs⟩ : ∃ s, d.secs[cn]? = some s := ⟨_, List.getElem?_eq_getElem (by omega)⟩
  obtain ⟨g, off, rfl, g1, g2⟩ := HS.out cn s hs
  have hsn : num s = (n : Int) := by rw [← hn, ← hcn]; unfold Jn.hn; rw [hs]; rfl
  have HNU : Hid (∀ W, Calls Tryd.prog 33 #[.string s] W fun e w' => e = .returned (.int .i64 (n : Int)) ∧ Below W.heap.size W w') := by
    show ∀ W, _
    intro W
    rw [← hsn]
    exact Number_x s W (by rw [H16.out s (List.mem_of_getElem? hs)]; decide)
  have n8 : n < 100000000 := (num_only hsn).2
  have HLG : Hid (∀ W, Below w.heap.size w W → Calls Tryd.prog 31 #[.agg #[.slice (some ⟨g, off, none⟩) d.secs.length c, .slice b d.pend.length c2, .int .i64 dl, .bool dd]] W fun r w' => r = .returned (.string (mkB (lg d.secs))) ∧ Below W.heap.size W w') := by
    show ∀ W, _
    intro W hW
    exact Log_x _ d W (HD.out.next hW) HCK.out
  obtain ⟨L, hL⟩ : ∃ L, lg d.secs = L := ⟨_, rfl⟩
  have HLL := Lib.hid hL
  have l8 : L.length ≤ 8192 := by
    rw [← hL, lg_len H16.out]
    omega
  rw [hL] at HLG
  have cn0 : (0 : Int) ≤ (cn : Int) := by omega
  have cnl : (cn : Int) < (d.secs.length : Int) := by omega
  have cm : ¬ (cn : Int) < 0 := by omega
  have HC3 : Hid (¬ d.secs.length < 3) := t3
  clear hc hcu hn hs hsn hcn hcn0 hL
  go_enter Tryd.func20, Tryd.ntmps20
  go_wp2_with fail
  refine (HR.out _ BW.out).mono ?_
  rintro r w1 ⟨rfl, b1⟩
  have BX1 := Lib.hid (X0.out.next b1)
  have x0 := BX1.out.c0
  have x1 := BX1.out.c1
  have x2 := BX1.out.c2
  have x3 := BX1.out.c3
  have xl := BX1.out.lt
  have B1 := Lib.hid (chain BW.out b1)
  clear b1 HR
  go_wp2_with fail
  refine (HC.out _ B1.out).mono ?_
  rintro r w2 ⟨rfl, b2⟩
  have BX2 := Lib.hid (BX1.out.next b2)
  have B2 := Lib.hid (chain B1.out b2)
  clear b2 x0 x1 x2 x3 xl BX1
  have x0 := BX2.out.c0
  have x1 := BX2.out.c1
  have x2 := BX2.out.c2
  have x3 := BX2.out.c3
  have xl := BX2.out.lt
  go_wp2_with fail
  refine (HLG.out _ B2.out).mono ?_
  rintro r w3 ⟨rfl, b3⟩
  have BX3 := Lib.hid (BX2.out.next b3)
  have B3 := Lib.hid (chain B2.out b3)
  clear b3 x0 x1 x2 x3 xl BX2
  have x0 := BX3.out.c0
  have x1 := BX3.out.c1
  have x2 := BX3.out.c2
  have x3 := BX3.out.c3
  have xl := BX3.out.lt
  have y0 : w3.cell? ⟨g, off + cn, none⟩ = some (.string s) := by rw [B3.out.cell (p := ⟨g, off + cn, none⟩) g1]; exact g2
  have yl : g < w3.heap.size := Nat.lt_of_lt_of_le g1 B3.out.size
  go_wp2_with fail
  refine wp_region_held_drew (S := fun w' => w'.cell? ⟨w.heap.size, 0, none⟩ = some (.slice (some ⟨g, off, none⟩) d.secs.length c) ∧ w'.cell? ⟨w.heap.size, 1, none⟩ = some (.slice b d.pend.length c2) ∧ w'.cell? ⟨w.heap.size, 2, none⟩ = some (.int .i64 dl) ∧ w'.cell? ⟨w.heap.size, 3, none⟩ = some (.bool dd) ∧ w'.cell? ⟨g, off + cn, none⟩ = some (.string s)) (by kernel_rfl) ?_ (fun hHeld => ?_)
  · exact ⟨x0, x1, x2, x3, y0⟩
  refine takeN0 (v := ?_) (by kernel_rfl) (by kernel_rfl) (by kernel_rfl) (fun _ _ _ h => h) (by rfl) ?_ (by assumption) ?_
  rotate_left
  · intro wz hSw
    try dsimp only at hSw
    go_simp
    try with_reducible rfl
  try simp only [Act.put, List.setIfInBounds_toArray, List.set_cons_zero, List.set_cons_succ]
  refine takeN1 (v := ?_) (by kernel_rfl) (by kernel_rfl) (by kernel_rfl) (fun _ _ _ h => h) (by rfl) ?_ (by assumption) ?_
  rotate_left
  · intro wz hSw
    try dsimp only at hSw
    go_simp
    try with_reducible rfl
  try simp only [Act.put, List.setIfInBounds_toArray, List.set_cons_zero, List.set_cons_succ]
  refine takeN2 (v := ?_) (by kernel_rfl) (by kernel_rfl) (by kernel_rfl) (fun _ _ _ h => h) (by rfl) ?_ (by assumption) ?_
  rotate_left
  · intro wz hSw
    try dsimp only at hSw
    go_simp
    try with_reducible rfl
  try simp only [Act.put, List.setIfInBounds_toArray, List.set_cons_zero, List.set_cons_succ]
  refine comeN3 (by kernel_rfl) (by rfl) (fun K hK => ?_)
  go_simp
  (go_at_call 39; refine (HC.out _ (chain B3.out (Below.refl _ _).drew)).mono ?_; rintro r w4 ⟨rfl, b4⟩)
  try go_wp2_with fail
  have B4 := Lib.hid (chain (chain B3.out (Below.refl _ _).drew) b4)
  have BX4 := Lib.hid ((BX3.out.next (Below.refl _ _).drew).next b4)
  refine hK.out _ _ ?_ (fun hHeld => ?_)
  · exact ⟨BX4.out.c0, BX4.out.c1, BX4.out.c2, BX4.out.c3, by rw [B4.out.cell (p := ⟨g, off + cn, none⟩) g1]; exact g2⟩
  clear hK K
  try simp only [Act.put, List.setIfInBounds_toArray, List.set_cons_zero, List.set_cons_succ]
  refine takeN4 (v := ?_) (by kernel_rfl) (by kernel_rfl) (by kernel_rfl) (fun _ _ _ h => h) (by rfl) ?_ (by assumption) ?_
  rotate_left
  · intro wz hSw
    try dsimp only at hSw
    go_simp
    try with_reducible rfl
  try simp only [Act.put, List.setIfInBounds_toArray, List.set_cons_zero, List.set_cons_succ]
  refine takeN5 (v := ?_) (by kernel_rfl) (by kernel_rfl) (by kernel_rfl) (fun _ _ _ h => h) (by rfl) ?_ (by assumption) ?_
  rotate_left
  · intro wz hSw
    try dsimp only at hSw
    go_simp
    try with_reducible rfl
  try simp only [Act.put, List.setIfInBounds_toArray, List.set_cons_zero, List.set_cons_succ]
  refine comeN6 (by kernel_rfl) (by rfl) (fun K hK => ?_)
  go_simp
  (go_at_call 33; refine (HNU.out _).mono ?_; rintro r w5 ⟨rfl, b5⟩)
  try go_wp2_with fail
  have B5 := Lib.hid (chain B4.out b5)
  have BX5 := Lib.hid (BX4.out.next b5)
  refine hK.out _ _ ?_ (fun hHeld => ?_)
  · exact ⟨BX5.out.c0, BX5.out.c1, BX5.out.c2, BX5.out.c3, by rw [B5.out.cell (p := ⟨g, off + cn, none⟩) g1]; exact g2⟩
  clear hK K
  try simp only [Act.put, List.setIfInBounds_toArray, List.set_cons_zero, List.set_cons_succ]
  refine takeN7 (v := ?_) (by kernel_rfl) (by kernel_rfl) (by kernel_rfl) (fun _ _ _ h => h) (by rfl) ?_ (by assumption) ?_
  rotate_left
  · intro wz hSw
    try dsimp only at hSw
    go_simp
    try with_reducible rfl
  try simp only [Act.put, List.setIfInBounds_toArray, List.set_cons_zero, List.set_cons_succ]
  refine wpAnyH_done (by kernel_rfl) ?_ _
  clear hHeld b4 b5 x0 x1 x2 x3 xl y0 yl BX3 BX4 BX5 HNU HLG HC
  by_cases tn : L.length < n
  · have tn1 : ((mkB L).size : Int) < (n : Int) := by rw [mkB_size]; omega
    have hv : Hid (allV d = ([], 22)) := all_none HE.out (read_long (by rw [HLL.out, HN.out]; omega))
    clear tn
    go_wp2_with fail
    go_ret2
    exact ⟨_, by rw [hv.out]; try rfl, by rw [hv.out]; exact SAt.nil _, B5.out⟩
  have tn1 : ¬ ((mkB L).size : Int) < (n : Int) := by rw [mkB_size]; omega
  have tn2 : (n : Int) ≤ ((mkB L).size : Int) := by rw [mkB_size]; omega
  have HRD : Hid (readL d.secs = (decF n (L.take n)).bind fun s => if s.length ≤ 500 then some s else none) := by
    show _ = _
    rw [read_dec HC3.out (by rw [HCU.out]; omega) (by rw [HLL.out, HN.out]; omega), HLL.out, HN.out]
    rfl
  obtain ⟨T, hT⟩ : ∃ T, L.take n = T := ⟨_, rfl⟩
  have lT : T.length ≤ n := by rw [← hT, List.length_take]; omega
  have lT8 : T.length ≤ 8192 := by rw [← hT, List.length_take]; omega
  have G0 : Hid (Gd T n [] T) := Gd.start lT
  have HEX : Hid ((mkB L).extract 0 n = mkB T) := by show _ = _; rw [← hT]; exact extract_to _ _
  rw [hT] at HRD
  clear tn hT lT
  obtain ⟨rj, hj, hy0, hy1, hy2⟩ := info_parts infoS
  have Hj := Lib.hid hj
  have Hy0 := Lib.hid hy0
  have Hy1 := Lib.hid hy1
  have Hy2 := Lib.hid hy2
  clear hj hy0 hy1 hy2
  go_wp2_with fail
  go_loopw [7, 8] (fun r v wr => AlRel T n w r v wr) (fun r _ _ => match r with | .string t => t.size | _ => 0)
  case atStart => exact ⟨[], T, none, 0, by first | exact congrArg Value.string HEX.out | rfl, rfl, G0.out, World.ownsRow_nil _ _ _ _, chain B5.out (by first | exact Below.refl _ _ | exact (Below.refl _ _).drew)⟩
  case round =>
    clear G0
    obtain ⟨xs, t, la, lc, rfl, rfl, hG, hO, hB⟩ := hrel
    have HG := Lib.hid hG
    have HO := Lib.hid hO
    have HB := Lib.hid hB
    have few := hG.few
    have tz : (mkB t).size = t.length := rfl
    clear hG hO hB
    by_cases c0 : t = []
    · subst c0
      have c1 : ¬ 0 < ((mkB []).size : Int) := by rw [mkB_size]; decide
      have hd : Hid (decF n T = some (lst xs)) := HG.out.done
      have hl5 : Hid ((lst xs).length = xs.length) := List.length_map _
      by_cases t5 : xs.length ≤ 500
      · have t6 : ¬ 500 < (xs.length : Int) := by omega
        have hv : Hid (allV d = (lst xs, 0)) := all_some HE.out (by rw [HRD.out, hd.out, Option.bind_some, if_pos (by rw [hl5.out]; exact t5)])
        clear t5 tz few
        go_wp2_with fail
        go_ret2
        exact ⟨_, by rw [hv.out]; try rfl, by rw [hv.out]; show SAt _ _ (strs ((lst xs).map mkB)); rw [mk_lst]; exact SAt.own HO.out (strs_len _).symm, HB.out⟩
      · have t6 : 500 < (xs.length : Int) := by omega
        have hv : Hid (allV d = ([], 22)) := all_none HE.out (by rw [HRD.out, hd.out, Option.bind_some, if_neg (by rw [hl5.out]; exact t5)])
        clear t5 tz few
        go_wp2_with fail
        go_ret2
        exact ⟨_, by rw [hv.out]; try rfl, by rw [hv.out]; exact SAt.nil _, HB.out⟩
    · have c1 : 0 < ((mkB t).size : Int) := by
        rw [mkB_size]
        have : t.length ≠ 0 := fun e => c0 (List.eq_nil_of_length_eq_zero e)
        omega
      have C0 := Lib.hid c0
      have HS5 := Lib.hid (RReadString_x (mkB t) wr (by rw [mkB_size]; omega))
      clear c0
      obtain ⟨q, hq⟩ : ∃ q, Wm.rdS t = q := ⟨_, rfl⟩
      have HQ := Lib.hid hq
      clear hq
      go_wp2_with fail
      refine HS5.out.mono ?_
      rintro r w6 ⟨rfl, b6⟩
      rw [show Wm.rdS (mkB t).data.toList = q from HQ.out]
      have HB6 := Lib.hid (chain HB.out b6)
      have HO6 := Lib.hid (own_nx HO.out b6)
      clear HS5 b6
      cases q with
      | none =>
        have hv : Hid (allV d = ([], 22)) := all_none HE.out (by rw [HRD.out, HG.out.stop C0.out HQ.out]; rfl)
        simp only [tS]
        go_wp2_with fail
        go_ret2
        exact ⟨_, by rw [hv.out]; try rfl, by rw [hv.out]; exact SAt.nil _, HB6.out⟩
      | some p =>
        obtain ⟨x, t'⟩ := p
        simp only [tS, mk_mkB]
        by_cases hx : x.length ≤ 2000
        · have hx1 : ¬ 2000 < ((mkB x).size : Int) := by rw [mkB_size]; omega
          obtain ⟨G2, G3⟩ := HG.out.more C0.out HQ.out hx
          have HG2 := Lib.hid G2
          have HG3 := Lib.hid G3
          have BN : Hid (Below w6.heap.size w6 (w6.alloc (.cells #[.string (mkB x)] 9))) := Below.new1 _
          clear G2 G3 hx
          go_wp2_with (at_builtin; refine wpList_append_own _ rfl (.tmp 58) (.tmp 60) 24 rfl w.heap.size 9 rj (.string ⟨#[]⟩) 1 16 Tryd.underlying24 Hj.out Hy0.out Hy1.out Hy2.out rfl (by decide) _ xs.length (strs xs) rfl (HO6.out.alloc _) ⟨w6.heap.size, 0, none⟩ 1 1 [.string (mkB x)] rfl rfl ?f1 ?f2 ?f3 ?f4 ?f5 ?_)
          case f2 => rfl
          case f3 => unfold maxLen; omega
          case f4 => omega
          case f5 => have := HB6.out.size; omega
          intro v7 w7 hown7 hgrow7 _
          have hrow : ∀ j, (Value.slice la xs.length lc).ownBlock = some j → w.heap.size ≤ j := fun j hj => (HO6.out.lt j hj).1
          have B7 : Hid (Below w.heap.size w w7) := HB6.out.trans (((Below.refl w.heap.size w6).alloc HB6.out.size _).grown hgrow7 (by have := HB6.out.size; simp; omega) hrow)
          obtain ⟨la', lc', e7, -, -⟩ := SAt.own hown7 (by rw [List.length_append, strs_len]; rfl)
          rw [List.length_append, strs_len, List.length_singleton] at e7
          subst e7
          have HO7 : Hid (w7.ownsRow w.heap.size 9 1 (.slice la' (xs.length + 1) lc') (xs.length + 1) (strs (xs ++ [mkB x]))) := by
            show w7.ownsRow _ _ _ _ _ _
            rw [show strs (xs ++ [mkB x]) = strs xs ++ [.string (mkB x)] by simp [strs]]
            exact hown7
          clear hown7 hgrow7 hrow
          go_wp2_with fail
          go_roundw
          case rel => exact ⟨xs ++ [mkB x], t', la', lc', rfl, by congr 1; rw [List.length_append]; rfl, HG2.out, by rw [List.length_append]; exact HO7.out, B7.out⟩
          case measure => exact HG3.out
        · have hx1 : 2000 < ((mkB x).size : Int) := by rw [mkB_size]; omega
          have hv : Hid (allV d = ([], 22)) := all_none HE.out (by rw [HRD.out, HG.out.big C0.out HQ.out (by omega)]; rfl)
          clear hx
          go_wp2_with fail
          go_ret2
          exact ⟨_, by rw [hv.out]; try rfl, by rw [hv.out]; exact SAt.nil _, HB6.out⟩

end Go.Proofs.YtemldlhhlneleaaDoor.Jn
