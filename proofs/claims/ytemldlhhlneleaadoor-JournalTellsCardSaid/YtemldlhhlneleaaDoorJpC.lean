/-
  The program's journal: read.
-/
import Derived.Test.YtemldlhhlneleaaDoorJpB
import Derived.Test.YtemldlhhlneleaaDoorShelf
namespace Go.Proofs.YtemldlhhlneleaaDoor.Jn
open Go.RowKit Dk Wi

/-- four cells of a block -/
structure B4 (v0 v1 v2 v3 : Value) (g : Nat) (W : World) : Prop where
  lt : g < W.heap.size
  c0 : W.cell? ⟨g, 0, none⟩ = some v0
  c1 : W.cell? ⟨g, 1, none⟩ = some v1
  c2 : W.cell? ⟨g, 2, none⟩ = some v2
  c3 : W.cell? ⟨g, 3, none⟩ = some v3
  fz : ∀ o, W.frozen? ⟨g, o, none⟩ = false
theorem B4.next {v0 v1 v2 v3 : Value} {g : Nat} {W W' : World} (h : B4 v0 v1 v2 v3 g W) (hb : Below W.heap.size W W') : B4 v0 v1 v2 v3 g W' := by
  have hc : ∀ o, W'.cell? ⟨g, o, none⟩ = W.cell? ⟨g, o, none⟩ := fun o => hb.cell (p := ⟨g, o, none⟩) h.lt
  exact ⟨Nat.lt_of_lt_of_le h.lt hb.size, by rw [hc]; exact h.c0, by rw [hc]; exact h.c1, by rw [hc]; exact h.c2, by rw [hc]; exact h.c3, fun o => by rw [hb.frozen (p := ⟨g, o, none⟩) h.lt]; exact h.fz o⟩
theorem B4.new (W : World) (v0 v1 v2 v3 : Value) (T : TypeId) : B4 v0 v1 v2 v3 W.heap.size (W.alloc (.cells #[v0, v1, v2, v3] T)) := by
  refine ⟨by simp, ?_, ?_, ?_, ?_, fun o => ?_⟩ <;> first | (rw [World.cell?_alloc_new]; rfl) | skip
  have h := Bx.new W (.slice none 0 0) (.slice none 0 0) 0 false T
  have : (W.alloc (.cells #[v0, v1, v2, v3] T)).heap[W.heap.size]? = some (.cells #[v0, v1, v2, v3] T) := by
    show (W.heap.push (.cells #[v0, v1, v2, v3] T))[W.heap.size]? = _
    simp
  unfold World.frozen?
  rw [this]
  simp
/-- a list whose cells lie in younger blocks outlives a store -/
theorem lat_set {W : World} {a : Option Addr} {n c : Nat} {l : List S} {g o : Nat} {v : Value} (h : LAt W (.slice a n c) l) (hg : ∀ p, a = some p → g < p.block) : LAt (W.setCell ⟨g, o, none⟩ v) (.slice a n c) l := by
  obtain ⟨a', c', e, h1, h2⟩ := h
  refine ⟨a', c', e, h1, fun j x hx => ?_⟩
  obtain ⟨b, off, e2, hlt, hc⟩ := h2 j x hx
  injection e with e3 _ _
  subst e3
  have hb := hg _ e2
  exact ⟨b, off, e2, by simpa using hlt, by rw [cell_set_ne _ _ (.inl (by have : g < b := hb; omega))]; exact hc⟩
theorem flat_join : ∀ (l : List (List UInt8)), Lib.join l [] = l.flatten := by
  intro l
  unfold Lib.join
  induction l with
  | nil => rfl
  | cons a t ih =>
    cases t with
    | nil => simp [List.intercalate]
    | cons b u =>
      simp only [List.intercalate, List.intersperse, List.flatten_cons] at ih ⊢
      rw [ih]
      simp
/-- the parts of what read returns -/
def rdC (d : D) : Int := if (allV d).2 = 0 then curI d.secs else 0
def rdL (d : D) : S := if (allV d).2 = 0 then lg d.secs else []
def rdU (d : D) : Int := if (allV d).2 = 0 then curN d.secs else 0
theorem rd_no {d : D} {e : Int} (h : allV d = ([], e)) (he : e ≠ 0) : rdC d = 0 ∧ rdL d = [] ∧ rdU d = 0 := by
  unfold rdC rdL rdU
  rw [h, if_neg he, if_neg he, if_neg he]
  exact ⟨rfl, rfl, rfl⟩
theorem rd_yes {d : D} {l : List S} (h : allV d = (l, 0)) : rdC d = curI d.secs ∧ rdL d = lg d.secs ∧ rdU d = curN d.secs := by
  unfold rdC rdL rdU
  rw [h, if_pos rfl, if_pos rfl, if_pos rfl]
  exact ⟨rfl, rfl, rfl⟩

set_option maxHeartbeats 6400000 in
set_option maxRecDepth 100000 in
theorem read_x (ok : DiskOk) (v : Value) (d : D) (w : World) (h : DAt w v d) (hf : Fit d) :
    Calls Tryd.prog 40 #[v] w fun r w' => ∃ x, r = .returned (.tuple #[.agg #[.int .i64 (rdC d), .string (mkB (rdL d)), .int .i64 (rdU d), x], .int .i64 (allV d).2]) ∧ LAt w' x (allV d).1 ∧ Below w.heap.size w w' := by
  obtain ⟨a, c, b, c2, rfl, hsc, -, HS, -⟩ := h.form
  obtain ⟨dl, hdl⟩ : ∃ x, d.left = x := ⟨_, rfl⟩
  obtain ⟨dd, hdd⟩ : ∃ x, d.down = x := ⟨_, rfl⟩
  rw [hdl, hdd] at h
  have HD := Lib.hid h
  have HF := Lib.hid hf
  have BW : Hid (Below w.heap.size w ((w.alloc (.cells #[.slice a d.secs.length c, .slice b d.pend.length c2, .int .i64 dl, .bool dd] 27)).alloc (.cells #[.int .i64 0, .string ⟨#[]⟩, .int .i64 0, .slice none 0 0] 62))) := chain (Below.new1 _) (Below.new1 _)
  have X0 : Hid (Bx (.slice a d.secs.length c) (.slice b d.pend.length c2) dl dd w.heap.size ((w.alloc (.cells #[.slice a d.secs.length c, .slice b d.pend.length c2, .int .i64 dl, .bool dd] 27)).alloc (.cells #[.int .i64 0, .string ⟨#[]⟩, .int .i64 0, .slice none 0 0] 62))) := (Bx.new _ _ _ _ _ _).next (Below.new1 _)
  have Y0 : Hid (B4 (.int .i64 0) (.string ⟨#[]⟩) (.int .i64 0) (.slice none 0 0) (w.heap.size + 1) ((w.alloc (.cells #[.slice a d.secs.length c, .slice b d.pend.length c2, .int .i64 dl, .bool dd] 27)).alloc (.cells #[.int .i64 0, .string ⟨#[]⟩, .int .i64 0, .slice none 0 0] 62))) := by
    have hy := B4.new (w.alloc (.cells #[.slice a d.secs.length c, .slice b d.pend.length c2, .int .i64 dl, .bool dd] 27)) (.int .i64 0) (.string ⟨#[]⟩) (.int .i64 0) (.slice none 0 0) 62
    rw [show (w.alloc (.cells #[.slice a d.secs.length c, .slice b d.pend.length c2, .int .i64 dl, .bool dd] 27)).heap.size = w.heap.size + 1 by simp] at hy
    exact hy
  rw [hdl, hdd]
  have hle := hf.secs
  clear h hf hdl hdd
  obtain ⟨e, he⟩ : ∃ e, rdy d = e := ⟨_, rfl⟩
  have HR : Hid (∀ W, Below w.heap.size w W → Calls Tryd.prog 45 #[.agg #[.slice a d.secs.length c, .slice b d.pend.length c2, .int .i64 dl, .bool dd]] W fun r w' => r = .returned (.int .i64 e) ∧ Below W.heap.size W w') := by
    show ∀ W, _
    intro W hW
    rw [← he]
    exact checkReady_x ok _ d W (HD.out.next hW) HF.out
  by_cases e0 : e = 0
  case neg =>
    have e1 : (e != 0) = true := by simp; omega
    have hv : Hid (allV d = ([], e)) := by show _ = _; rw [all_not (by rw [he]; exact e0), he]
    have hr := Lib.hid (rd_no hv.out e0)
    clear he e0
    go_enter Tryd.func40, Tryd.ntmps40
    go_wp2_with fail
    refine (HR.out _ BW.out).mono ?_
    rintro r w1 ⟨rfl, b1⟩
    have B1 := Lib.hid (chain BW.out b1)
    have BY := Lib.hid (Y0.out.next b1)
    have y0 := BY.out.c0
    have y1 := BY.out.c1
    have y2 := BY.out.c2
    have y3 := BY.out.c3
    have yl := BY.out.lt
    have yf := BY.out.fz
    clear b1
    go_wp2_with fail
    exact bodyPost_ret (v := .tuple #[.agg #[.int .i64 0, .string ⟨#[]⟩, .int .i64 0, .slice none 0 0], .int .i64 e]) (by simp [results, Tryd.results40, go_sem, y0, y1, y2, y3]) rfl ⟨.slice none 0 0, by rw [hv.out, hr.out.1, hr.out.2.1, hr.out.2.2]; try rfl, by rw [hv.out]; exact SAt.nil _, (by repeat (first | exact B1.out | refine Below.setCell ?_ (Nat.le_succ _) _ | refine Below.setCell ?_ (by simp) _))⟩
  case pos =>
  have HE : Hid (rdy d = 0) := by show _ = _; rw [he, e0]
  clear he
  subst e0
  obtain ⟨hck, -, -⟩ := rdy_zero.1 HE.out
  have HCK := Lib.hid hck
  obtain ⟨⟨n1, n2, -⟩, hs16, -⟩ := check_iff.1 hck
  have H16 := Lib.hid hs16
  clear hck hs16
  by_cases t3 : d.secs.length < 3
  · have f3 : (d.secs.length : Int) < 3 := by omega
    have hv : Hid (allV d = ([], 22)) := all_none HE.out (read_few t3)
    have hr := Lib.hid (rd_no hv.out (by decide))
    clear t3
    go_enter Tryd.func40, Tryd.ntmps40
    go_wp2_with fail
    refine (HR.out _ BW.out).mono ?_
    rintro r w1 ⟨rfl, b1⟩
    have BX := X0.out.next b1
    have x0 := BX.c0
    have xl := BX.lt
    have B1 := Lib.hid (chain BW.out b1)
    have BY := Lib.hid (Y0.out.next b1)
    have y0 := BY.out.c0
    have y1 := BY.out.c1
    have y2 := BY.out.c2
    have y3 := BY.out.c3
    have yl := BY.out.lt
    have yf := BY.out.fz
    clear b1 BX
    go_wp2_with fail
    exact bodyPost_ret (v := .tuple #[.agg #[.int .i64 0, .string ⟨#[]⟩, .int .i64 0, .slice none 0 0], .int .i64 22]) (by simp [results, Tryd.results40, go_sem, y0, y1, y2, y3]) rfl ⟨.slice none 0 0, by rw [hv.out, hr.out.1, hr.out.2.1, hr.out.2.2]; try rfl, by rw [hv.out]; exact SAt.nil _, (by repeat (first | exact B1.out | refine Below.setCell ?_ (Nat.le_succ _) _ | refine Below.setCell ?_ (by simp) _))⟩
  have f3 : ¬ (d.secs.length : Int) < 3 := by omega
  obtain ⟨s0, q0⟩ : ∃ s, d.secs[0]? = some s := ⟨_, List.getElem?_eq_getElem (by omega)⟩
  obtain ⟨s1, q1⟩ : ∃ s, d.secs[1]? = some s := ⟨_, List.getElem?_eq_getElem (by omega)⟩
  obtain ⟨g, off, rfl, g1, g2⟩ := HS.out 0 s0 q0
  obtain ⟨g', off', e', -, g3⟩ := HS.out 1 s1 q1
  injection e' with e'
  injection e' with e1 e2 _
  subst e1
  subst e2
  have hcs := chS_all q0 q1
  have HCH : Hid (∀ (W : World) (p : Int × Int × Bool), chS s0 s1 2 = p → Below w.heap.size w W → Calls Tryd.prog 55 #[.slice (some ⟨g, off, none⟩) 2 c] W fun r w' => r = .returned (.tuple #[.int .i64 p.1, .int .i64 p.2.1, .bool p.2.2]) ∧ Below W.heap.size W w') := by
    show ∀ (W : World) (p : Int × Int × Bool), _
    intro W p hp hW
    subst hp
    exact currentHeader_x g off c s0 s1 W (by rw [hW.cell (p := ⟨g, off, none⟩) g1]; exact g2) (by rw [hW.cell (p := ⟨g, off + 1, none⟩) g1]; exact g3) (Nat.lt_of_lt_of_le g1 hW.size) (H16.out s0 (List.mem_of_getElem? q0)) (H16.out s1 (List.mem_of_getElem? q1))
  have HJN : Hid (∀ W, Below w.heap.size w W → Calls Tryd.prog 56 #[.slice (some ⟨g, off + 2, none⟩) (d.secs.length - 2) (c - 2), .string ⟨#[]⟩] W fun r w' => r = .returned (.string (mkB (lg d.secs))) ∧ Below W.heap.size W w') := by
    show ∀ W, _
    intro W hW
    have el : (d.secs.drop 2).length = d.secs.length - 2 := List.length_drop
    have ej : Lib.join ((d.secs.drop 2).map (·.data.toList)) (⟨#[]⟩ : ByteArray).data.toList = lg d.secs := flat_join _
    have hl := lg_len H16.out
    have hj := Tryd.strings_Join g (off + 2) (c - 2) (d.secs.drop 2) ⟨#[]⟩ W (fun j x hx => by
      rw [List.getElem?_drop] at hx
      obtain ⟨g', off', e', -, hc⟩ := HS.out (2 + j) x hx
      injection e' with e'
      injection e' with e1 e2 _
      subst e1
      subst e2
      rw [Nat.add_assoc, hW.cell (p := ⟨g, off + (2 + j), none⟩) g1]
      exact hc) (Nat.lt_of_lt_of_le g1 hW.size) (by rw [el]; omega) (by rw [el]; omega) (by rw [ej, hl]; omega)
    rw [ej, el] at hj
    exact hj
  have g1' : g < w.heap.size := g1
  clear q0 q1 g1 g2 g3
  have T3 := Lib.hid t3
  clear t3
  rcases cur_cases d.secs with hc | ⟨cn, hc, hc2, hcn, hcn0⟩
  · rw [hc, if_pos (by decide)] at hcs
    have HCS := Lib.hid hcs
    have hv : Hid (allV d = ([], 22)) := all_none HE.out (read_off (by rw [hc]; decide))
    have hr := Lib.hid (rd_no hv.out (by decide))
    clear hc hcs
    go_enter Tryd.func40, Tryd.ntmps40
    go_wp2_with fail
    refine (HR.out _ BW.out).mono ?_
    rintro r w1 ⟨rfl, b1⟩
    have BX1 := Lib.hid (X0.out.next b1)
    have BY1 := Lib.hid (Y0.out.next b1)
    have x0 := BX1.out.c0
    have x1 := BX1.out.c1
    have x2 := BX1.out.c2
    have x3 := BX1.out.c3
    have xl := BX1.out.lt
    have B1 := Lib.hid (chain BW.out b1)
    clear b1 HR X0 Y0
    have kc2 : (2 : Int) ≤ (c : Int) := by omega
    go_wp2_with fail
    refine (HCH.out _ _ HCS.out B1.out).mono ?_
    rintro r w2 ⟨rfl, b2⟩
    have BX2 := Lib.hid (BX1.out.next b2)
    have BY2 := Lib.hid (BY1.out.next b2)
    clear x0 x1 x2 x3 xl
    have x0 := BX2.out.c0
    have x1 := BX2.out.c1
    have x2 := BX2.out.c2
    have x3 := BX2.out.c3
    have xl := BX2.out.lt
    have B2 := Lib.hid (chain B1.out b2)
    clear b2 BX1 BY1
    go_wp2_with fail
    refine (HJN.out _ B2.out).mono ?_
    rintro r w3 ⟨rfl, b3⟩
    have B3 := Lib.hid (chain B2.out b3)
    have BY3 := Lib.hid (BY2.out.next b3)
    clear x0 x1 x2 x3 xl b3 BX2 BY2
    have y0 := BY3.out.c0
    have y1 := BY3.out.c1
    have y2 := BY3.out.c2
    have y3 := BY3.out.c3
    have yl := BY3.out.lt
    have yf := BY3.out.fz
    go_wp2_with fail
    exact bodyPost_ret (v := .tuple #[.agg #[.int .i64 0, .string ⟨#[]⟩, .int .i64 0, .slice none 0 0], .int .i64 22]) (by simp [results, Tryd.results40, go_sem, y0, y1, y2, y3]) rfl ⟨.slice none 0 0, by rw [hv.out, hr.out.1, hr.out.2.1, hr.out.2.2]; try rfl, by rw [hv.out]; exact SAt.nil _, (by repeat (first | exact B3.out | refine Below.setCell ?_ (Nat.le_succ _) _ | refine Below.setCell ?_ (by simp) _))⟩
  rw [hc, if_neg (by omega)] at hcs
  obtain ⟨n, hn⟩ := Int.eq_ofNat_of_zero_le hcn0
  rw [hn] at hcs
  have HCS := Lib.hid hcs
  have HN := Lib.hid hn
  have HCU := Lib.hid hc
  obtain ⟨L, hL⟩ : ∃ L, lg d.secs = L := ⟨_, rfl⟩
  have HLL := Lib.hid hL
  have l8 : L.length ≤ 8192 := by
    rw [← hL, lg_len H16.out]
    omega
  rw [hL] at HJN
  clear hcs hc hcn hcn0 hn hL
  go_enter Tryd.func40, Tryd.ntmps40
  go_wp2_with fail
  refine (HR.out _ BW.out).mono ?_
  rintro r w1 ⟨rfl, b1⟩
  have BX1 := Lib.hid (X0.out.next b1)
  have BY1 := Lib.hid (Y0.out.next b1)
  have x0 := BX1.out.c0
  have x1 := BX1.out.c1
  have x2 := BX1.out.c2
  have x3 := BX1.out.c3
  have xl := BX1.out.lt
  have B1 := Lib.hid (chain BW.out b1)
  clear b1 HR X0 Y0
  have kc2 : (2 : Int) ≤ (c : Int) := by omega
  go_wp2_with fail
  refine (HCH.out _ _ HCS.out B1.out).mono ?_
  rintro r w2 ⟨rfl, b2⟩
  have BX2 := Lib.hid (BX1.out.next b2)
  have BY2 := Lib.hid (BY1.out.next b2)
  clear x0 x1 x2 x3 xl
  have x0 := BX2.out.c0
  have x1 := BX2.out.c1
  have x2 := BX2.out.c2
  have x3 := BX2.out.c3
  have xl := BX2.out.lt
  have B2 := Lib.hid (chain B1.out b2)
  clear b2 BX1 BY1
  go_wp2_with fail
  refine (HJN.out _ B2.out).mono ?_
  rintro r w3 ⟨rfl, b3⟩
  have B3 := Lib.hid (chain B2.out b3)
  have BY3 := Lib.hid (BY2.out.next b3)
  clear x0 x1 x2 x3 xl b3 BX2 BY2
  by_cases tn : L.length < n
  · have tn1 : ((mkB L).size : Int) < (n : Int) := by rw [mkB_size]; omega
    have hv : Hid (allV d = ([], 22)) := all_none HE.out (read_long (by rw [HLL.out, HN.out]; omega))
    have hr := Lib.hid (rd_no hv.out (by decide))
    clear tn
    have y0 := BY3.out.c0
    have y1 := BY3.out.c1
    have y2 := BY3.out.c2
    have y3 := BY3.out.c3
    have yl := BY3.out.lt
    have yf := BY3.out.fz
    go_wp2_with fail
    exact bodyPost_ret (v := .tuple #[.agg #[.int .i64 0, .string ⟨#[]⟩, .int .i64 0, .slice none 0 0], .int .i64 22]) (by simp [results, Tryd.results40, go_sem, y0, y1, y2, y3]) rfl ⟨.slice none 0 0, by rw [hv.out, hr.out.1, hr.out.2.1, hr.out.2.2]; try rfl, by rw [hv.out]; exact SAt.nil _, (by repeat (first | exact B3.out | refine Below.setCell ?_ (Nat.le_succ _) _ | refine Below.setCell ?_ (by simp) _))⟩
  have tn1 : ¬ ((mkB L).size : Int) < (n : Int) := by rw [mkB_size]; omega
  have tn2 : (n : Int) ≤ ((mkB L).size : Int) := by rw [mkB_size]; omega
  obtain ⟨T, hT⟩ : ∃ T, L.take n = T := ⟨_, rfl⟩
  have lTn : T.length = n := by rw [← hT, List.length_take]; omega
  have HRD : Hid (readL d.secs = (decF T.length T).bind fun s => if s.length ≤ 500 then some s else none) := by
    show _ = _
    rw [read_dec T3.out (by rw [HCU.out]; omega) (by rw [HLL.out, HN.out]; omega), HLL.out, HN.out, lTn, ← hT]
    rfl
  have HEX : (mkB L).extract 0 n = mkB T := by rw [← hT]; exact extract_to _ _
  have HRL : Hid (∀ W, Calls Tryd.prog 57 #[.string (mkB T)] W fun r w' => ∃ a n c, r = .returned (.tuple #[.slice a n c, .bool (rlV T).2]) ∧ LAt w' (.slice a n c) (rlV T).1 ∧ (∀ p, a = some p → W.heap.size ≤ p.block) ∧ Below W.heap.size W w') := fun W => readList_x T W (by rw [← hT, List.length_take]; omega)
  have n0 : (0 : Int) ≤ (n : Int) := by omega
  clear tn hT lTn
  go_wp2_with fail
  refine (HRL.out _).mono ?_
  rintro r w4 ⟨la, ln, lc, rfl, h4, q4, b4⟩
  have B4' := Lib.hid (chain B3.out b4)
  have BY4 := Lib.hid (BY3.out.next b4)
  have Q4 : Hid (∀ p, la = some p → w.heap.size + 1 < p.block) := by
    show ∀ p, _
    intro p hp
    have := q4 p hp
    have := BY3.out.lt
    omega
  have H4 := Lib.hid h4
  clear b4 h4 q4 BY3 HRL HJN
  have y0 := BY4.out.c0
  have y1 := BY4.out.c1
  have y2 := BY4.out.c2
  have y3 := BY4.out.c3
  have yl := BY4.out.lt
  have yf := BY4.out.fz
  cases hq : (decF T.length T).bind fun s => if s.length ≤ 500 then some s else none with
  | none =>
    have hv : Hid (allV d = ([], 22)) := all_none HE.out (by rw [HRD.out, hq])
    have hr := Lib.hid (rd_no hv.out (by decide))
    have hl := rl_none hq
    have hl2 : (rlV T).2 = false := by rw [hl]
    rw [hl2]
    clear hq hl hl2
    go_wp2_with fail
    exact bodyPost_ret (v := .tuple #[.agg #[.int .i64 0, .string ⟨#[]⟩, .int .i64 0, .slice none 0 0], .int .i64 22]) (by simp [results, Tryd.results40, go_sem, y0, y1, y2, y3]) rfl ⟨.slice none 0 0, by rw [hv.out, hr.out.1, hr.out.2.1, hr.out.2.2]; try rfl, by rw [hv.out]; exact SAt.nil _, (by repeat (first | exact B4'.out | refine Below.setCell ?_ (Nat.le_succ _) _ | refine Below.setCell ?_ (by simp) _))⟩
  | some l =>
    have hv : Hid (allV d = (l, 0)) := all_some HE.out (by rw [HRD.out, hq])
    have hr := Lib.hid (rd_yes hv.out)
    have hl := rl_some hq
    have hl2 : (rlV T).2 = true := by rw [hl]
    have H5 : Hid (LAt w4 (.slice la ln lc) l) := by have := H4.out; rw [hl] at this; exact this
    rw [hl2]
    clear hq hl hl2 H4
    go_wp2_with fail
    exact bodyPost_ret (v := .tuple #[.agg #[.int .i64 (cn : Int), .string (mkB L), .int .i64 (n : Int), .slice la ln lc], .int .i64 0]) (by simp [results, Tryd.results40, go_sem, y0, y1, y2, y3]) rfl ⟨.slice la ln lc, by rw [hv.out, hr.out.1, hr.out.2.1, hr.out.2.2, HCU.out, HLL.out, HN.out]; try rfl, by rw [hv.out]; exact lat_set (lat_set (lat_set (lat_set H5.out Q4.out) Q4.out) Q4.out) Q4.out, (by repeat (first | exact B4'.out | refine Below.setCell ?_ (Nat.le_succ _) _ | refine Below.setCell ?_ (by simp) _))⟩

end Go.Proofs.YtemldlhhlneleaaDoor.Jn
