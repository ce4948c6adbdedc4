/-
  The reference's Write.
-/
import Derived.Test.YtemldlhhlneleaaDoorRefD
namespace Go.Proofs.YtemldlhhlneleaaDoor
open Go.RowKit Dk

theorem infoW : (Tryd.prog.info? 66).map (fun i => (i.zero, i.size, i.bytes)) = some (some (.agg #[.int .i64 0, .string ⟨#[]⟩]), 2, 24) := by kernel_rfl
/-- the cells of a list of writes -/
def wC : List (Int × B) → List Value
  | [] => []
  | p :: t => .int .i64 p.1 :: .string p.2 :: wC t
theorem wC_len : ∀ l : List (Int × B), (wC l).length = l.length * 2
  | [] => rfl
  | _ :: t => by simp only [wC, List.length_cons, wC_len t]; omega
theorem wC_app : ∀ l m : List (Int × B), wC (l ++ m) = wC l ++ wC m
  | [], _ => rfl
  | p :: t, m => by simp only [List.cons_append, wC, wC_app t m]
theorem wC_get : ∀ {l : List (Int × B)} {j : Nat} {p : Int × B}, l[j]? = some p → (wC l)[j * 2]? = some (.int .i64 p.1) ∧ (wC l)[j * 2 + 1]? = some (.string p.2)
  | [], j, p, h => by simp at h
  | q :: t, 0, p, h => by
    simp at h
    subst h
    exact ⟨rfl, rfl⟩
  | q :: t, j + 1, p, h => by
    obtain ⟨h1, h2⟩ := wC_get (l := t) (j := j) (p := p) (by simpa using h)
    rw [show (j + 1) * 2 = j * 2 + 1 + 1 by omega]
    exact ⟨h1, h2⟩
/-- what the call owns reads as writes -/
theorem WAt.own {w : World} {base n : Nat} {T : TypeId} {v : Value} {l : List (Int × B)} (h : w.ownsRow base T 2 v n (wC l)) (hn : n = l.length) : WAt w v l := by
  subst hn
  rcases h.2 with ⟨rfl, h0⟩ | ⟨g, cap, cur, rfl, hg, hh, h1, h2, h3, h4⟩
  · refine ⟨none, 0, by rw [h0], by omega, fun j r hj => ?_⟩
    have := (List.getElem?_eq_some_iff.1 hj).1
    omega
  · have hlt : g < w.heap.size := (Array.getElem?_eq_some_iff.1 hh).1
    refine ⟨some ⟨g, 0, none⟩, cap, rfl, h1, fun j p hj => ⟨g, 0, rfl, hlt, ?_, ?_⟩⟩
    · have h5 := h.cells rfl (j * 2) _ (wC_get hj).1
      rw [add_plain] at h5
      exact h5
    · have h5 := h.cells rfl (j * 2 + 1) _ (wC_get hj).2
      rw [add_plain] at h5
      exact h5
theorem own_nilW (W : World) (T : TypeId) (base n : Nat) (hn : n = W.heap.size) (hb : base ≤ n) : (W.alloc (.cells #[] T)).ownsRow base T 2 (.slice (some ⟨n, 0, none⟩) 0 0) 0 [] := by
  subst hn
  exact World.ownsRow_lit W #[] 0 hb (by decide) rfl
theorem cell_new2 (w : World) (x y : Value) (T : TypeId) (n : Nat) (hn : n = w.heap.size) : ∀ j u, [x, y][j]? = some u → (w.alloc (.cells #[x, y] T)).cell? ((⟨n, 0, none⟩ : Addr).add j) = some u := by
  subst hn
  intro j u hu
  rw [add_plain, Nat.zero_add, World.cell?_alloc_new]
  simpa using hu
theorem own_set {W : World} {base n s : Nat} {T : TypeId} {v : Value} {xs : List Value} (h : W.ownsRow base T s v n xs) {p : Addr} (hp : p.block < base) (u : Value) : (W.setCell p u).ownsRow base T s v n xs := by
  refine ⟨h.1, ?_⟩
  rcases h.2 with ⟨h1, h2⟩ | ⟨g, cap, cur, h1, h2, h3, h4⟩
  · exact .inl ⟨h1, h2⟩
  · exact .inr ⟨g, cap, cur, h1, h2, by rw [Below.heap_setCell _ _ _ _ (show g ≠ p.block by omega)]; exact h3, h4⟩
def wtk (l : List (Int × B)) (k : Nat) : List Value := wC (l.take k)
theorem wtk_next {l : List (Int × B)} {k : Nat} {p : Int × B} (h : l[k]? = some p) : wtk l (k + 1) = wtk l k ++ [.int .i64 p.1, .string p.2] := by
  unfold wtk
  rw [List.take_add_one, h, wC_app]
  rfl
structure Wc (l : List (Int × B)) (k g : Nat) (sv pv : Value) (dl : Int) (dd : Bool) (w1 : World) (v : Value) (wr : World) : Prop where
  own : wr.ownsRow w1.heap.size 66 2 v k (wtk l k)
  bx : Bx sv pv dl dd g wr
  by_ : Bx (.slice none 0 0) (.slice none 0 0) 0 false (g + 1) wr
  below : Below w1.heap.size w1 wr
def WcRel (l : List (Int × B)) (g : Nat) (sv pv : Value) (dl : Int) (dd : Bool) (w1 : World) (v i : Value) (wr : World) : Prop := ∃ (k : Nat) (la : Option Addr) (lc : Nat), k ≤ l.length ∧ i = .int .i64 (k : Int) ∧ v = .slice la k lc ∧ Wc l k g sv pv dl dd w1 (.slice la k lc) wr
theorem DAt.write {W : World} {sv pv pv' : Value} {l : Int} {b : Bool} {d : D} {m : List (Int × B)} (h : DAt W (.agg #[sv, pv, .int .i64 l, .bool b]) d) (hp : WAt W pv' m) : DAt W (.agg #[sv, pv', .int .i64 l, .bool b]) ⟨d.secs, m, d.left, d.down⟩ := by
  obtain ⟨sv', pv'', e, h1, h2⟩ := h
  simp at e
  obtain ⟨rfl, rfl, rfl, rfl⟩ := e
  exact ⟨_, _, rfl, h1, hp⟩

set_option maxHeartbeats 6400000 in
set_option maxRecDepth 100000 in
theorem Write_x (v : Value) (d : D) (at_ : Int) (s : B) (w : World) (h : DAt w v d) (hf : Fit d) (hat : I64 at_) (hs : s.size ≤ 9223372036854775807) :
    Calls Tryd.prog 19 #[v, .int .i64 at_, .string s] w fun r w' => ∃ x, r = .returned (.tuple #[x, .int .i64 (wrV d at_ s).2]) ∧ DAt w' x (wrV d at_ s).1 ∧ Below w.heap.size w w' := by
  unfold I64 at hat
  have fb1 := hf.secs
  have fb2 := hf.pend
  obtain ⟨a, c, b, c2, rfl, -, -, HS, HP⟩ := h.form
  obtain ⟨dl, hdl⟩ : ∃ x, d.left = x := ⟨_, rfl⟩
  obtain ⟨dd, hdd⟩ : ∃ x, d.down = x := ⟨_, rfl⟩
  rw [hdl, hdd] at h
  have HD := Lib.hid h
  have BW : Hid (Below w.heap.size w ((w.alloc (.cells #[.slice a d.secs.length c, .slice b d.pend.length c2, .int .i64 dl, .bool dd] 27)).alloc (.cells #[.slice none 0 0, .slice none 0 0, .int .i64 0, .bool false] 27))) := chain (Below.new1 _) (Below.new1 _)
  have HU := Lib.hid (up_x _ d _ (h.next BW.out) hf)
  have X1 : Hid (Bx (.slice a d.secs.length c) (.slice b d.pend.length c2) dl dd w.heap.size ((w.alloc (.cells #[.slice a d.secs.length c, .slice b d.pend.length c2, .int .i64 dl, .bool dd] 27)).alloc (.cells #[.slice none 0 0, .slice none 0 0, .int .i64 0, .bool false] 27))) := (Bx.new _ _ _ _ _ _).next (Below.new1 _)
  have Y1 : Hid (Bx (.slice none 0 0) (.slice none 0 0) 0 false (w.heap.size + 1) ((w.alloc (.cells #[.slice a d.secs.length c, .slice b d.pend.length c2, .int .i64 dl, .bool dd] 27)).alloc (.cells #[.slice none 0 0, .slice none 0 0, .int .i64 0, .bool false] 27))) := by
    have hy := Bx.new (w.alloc (.cells #[.slice a d.secs.length c, .slice b d.pend.length c2, .int .i64 dl, .bool dd] 27)) (.slice none 0 0) (.slice none 0 0) 0 false 27
    rw [show (w.alloc (.cells #[.slice a d.secs.length c, .slice b d.pend.length c2, .int .i64 dl, .bool dd] 27)).heap.size = w.heap.size + 1 by simp] at hy
    exact hy
  rw [hdl, hdd]
  have HDL := Lib.hid hdl
  have HDN := Lib.hid hdd
  have HF := Lib.hid hf
  obtain ⟨ue, hue⟩ : ∃ x, upE d = x := ⟨_, rfl⟩
  have HUE := Lib.hid hue
  clear h hf hdl hdd hue
  obtain ⟨rj, hj, hy0, hy1, hy2⟩ := info_parts infoW
  have Hj := Lib.hid hj
  have Hy0 := Lib.hid hy0
  have Hy1 := Lib.hid hy1
  have Hy2 := Lib.hid hy2
  clear hj hy0 hy1 hy2
  go_enter Tryd.func19, Tryd.ntmps19
  go_wp2_with fail
  refine HU.out.mono ?_
  rintro r w1 ⟨rfl, b1⟩
  have BX := Lib.hid (X1.out.next b1)
  have BY := Lib.hid (Y1.out.next b1)
  have x0 := BX.out.c0
  have x1 := BX.out.c1
  have x2 := BX.out.c2
  have x3 := BX.out.c3
  have xl := BX.out.lt
  have xf := BX.out.fz
  have y0 := BY.out.c0
  have y1 := BY.out.c1
  have y2 := BY.out.c2
  have y3 := BY.out.c3
  have yl := BY.out.lt
  have yf := BY.out.fz
  have B1 := Lib.hid (chain BW.out b1)
  have D1 := Lib.hid (HD.out.next (chain BW.out b1))
  rw [HUE.out]
  clear b1 HU X1 Y1
  by_cases u : ue = 0
  case neg =>
    have u0 : (ue != 0) = true := by simpa using u
    have hv : Hid (wrV d at_ s = (D0, ue)) := by show _ = _; unfold wrV; rw [HUE.out, if_neg u]
    clear u
    go_wp2_with fail
    exact bodyPost_ret (v := .tuple #[.agg #[.slice none 0 0, .slice none 0 0, .int .i64 0, .bool false], .int .i64 ue]) (by simp [results, Tryd.results19, go_sem, y0, y1, y2, y3]) rfl ⟨_, by rw [hv.out]; try rfl, by rw [hv.out]; exact DAt.zero _, (by repeat (first | exact B1.out | refine Below.setCell ?_ (Nat.le_succ _) _ | refine Below.setCell ?_ (by simp) _))⟩
  case pos =>
    subst u
    by_cases t1 : at_ < 0
    · have hv : Hid (wrV d at_ s = (D0, 1)) := by show _ = _; unfold wrV; rw [HUE.out, if_pos rfl, if_neg (by omega)]
      go_wp2_with fail
      exact bodyPost_ret (v := .tuple #[.agg #[.slice none 0 0, .slice none 0 0, .int .i64 0, .bool false], .int .i64 1]) (by simp [results, Tryd.results19, go_sem, y0, y1, y2, y3]) rfl ⟨_, by rw [hv.out]; try rfl, by rw [hv.out]; exact DAt.zero _, (by repeat (first | exact B1.out | refine Below.setCell ?_ (Nat.le_succ _) _ | refine Below.setCell ?_ (by simp) _))⟩
    by_cases t2 : (d.secs.length : Int) ≤ at_
    · have hv : Hid (wrV d at_ s = (D0, 1)) := by show _ = _; unfold wrV; rw [HUE.out, if_pos rfl, if_neg (by omega)]
      go_wp2_with fail
      exact bodyPost_ret (v := .tuple #[.agg #[.slice none 0 0, .slice none 0 0, .int .i64 0, .bool false], .int .i64 1]) (by simp [results, Tryd.results19, go_sem, y0, y1, y2, y3]) rfl ⟨_, by rw [hv.out]; try rfl, by rw [hv.out]; exact DAt.zero _, (by repeat (first | exact B1.out | refine Below.setCell ?_ (Nat.le_succ _) _ | refine Below.setCell ?_ (by simp) _))⟩
    by_cases t3 : 16 < s.size
    · have hv : Hid (wrV d at_ s = (D0, 1)) := by show _ = _; unfold wrV; rw [HUE.out, if_pos rfl, if_neg (by omega)]
      have t3' : 16 < (s.size : Int) := by omega
      go_wp2_with fail
      exact bodyPost_ret (v := .tuple #[.agg #[.slice none 0 0, .slice none 0 0, .int .i64 0, .bool false], .int .i64 1]) (by simp [results, Tryd.results19, go_sem, y0, y1, y2, y3]) rfl ⟨_, by rw [hv.out]; try rfl, by rw [hv.out]; exact DAt.zero _, (by repeat (first | exact B1.out | refine Below.setCell ?_ (Nat.le_succ _) _ | refine Below.setCell ?_ (by simp) _))⟩
    have t3' : ¬ 16 < (s.size : Int) := by omega
    by_cases t4 : 512 ≤ d.pend.length
    · have hv : Hid (wrV d at_ s = (D0, 6)) := by show _ = _; unfold wrV; rw [HUE.out, if_pos rfl, if_pos ⟨by omega, by omega, by omega⟩, if_neg (by omega)]
      have t4' : 512 ≤ (d.pend.length : Int) := by omega
      go_wp2_with fail
      exact bodyPost_ret (v := .tuple #[.agg #[.slice none 0 0, .slice none 0 0, .int .i64 0, .bool false], .int .i64 6]) (by simp [results, Tryd.results19, go_sem, y0, y1, y2, y3]) rfl ⟨_, by rw [hv.out]; try rfl, by rw [hv.out]; exact DAt.zero _, (by repeat (first | exact B1.out | refine Below.setCell ?_ (Nat.le_succ _) _ | refine Below.setCell ?_ (by simp) _))⟩
    have t4' : ¬ 512 ≤ (d.pend.length : Int) := by omega
    have hv : Hid (wrV d at_ s = (⟨d.secs, d.pend ++ [(at_, pad s)], d.left, d.down⟩, 0)) := by show _ = _; unfold wrV; rw [HUE.out, if_pos rfl, if_pos ⟨by omega, by omega, by omega⟩, if_pos (by omega)]
    have C0 : Hid (Wc d.pend 0 w.heap.size (.slice a d.secs.length c) (.slice b d.pend.length c2) dl dd w1 (.slice (some ⟨w1.heap.size, 0, none⟩) 0 0) (w1.alloc (.cells #[] 66))) :=
      ⟨own_nilW _ _ _ _ rfl (Nat.le_refl _), BX.out.next (Below.new1 _), BY.out.next (Below.new1 _), Below.new1 _⟩
    go_wp2_with fail
    go_loopw [9, 10] (fun v i wr => WcRel d.pend w.heap.size (.slice a d.secs.length c) (.slice b d.pend.length c2) dl dd w1 v i wr) (fun _ i _ => d.pend.length - (intOf i).toNat)
    case atStart => exact ⟨0, _, _, Nat.zero_le _, rfl, rfl, C0.out⟩
    case round =>
      clear C0 x0 x1 x2 x3 xl xf y0 y1 y2 y3 yl yf
      obtain ⟨k, la, lc, hk, rfl, rfl, hC⟩ := hrel
      have HC := Lib.hid hC
      have x1 := hC.bx.c1
      have xl := hC.bx.lt
      have k0 : (0 : Int) ≤ (k : Int) := by omega
      clear hC
      by_cases cc : k < d.pend.length
      case pos =>
        have cc0 : (k : Int) < (d.pend.length : Int) := by omega
        obtain ⟨p, hp⟩ : ∃ p, d.pend[k]? = some p := ⟨_, List.getElem?_eq_getElem cc⟩
        obtain ⟨q, off, rfl, g1, g2, g3⟩ := HP.out k p hp
        have bel := B1.out.trans (HC.out.below.mono B1.out.size)
        have z1 : wr.cell? ⟨q, off + k * 2, none⟩ = some (.int .i64 p.1) := by rw [bel.cell (p := ⟨q, off + k * 2, none⟩) g1]; exact g2
        have z2 : wr.cell? ⟨q, off + k * 2 + 1, none⟩ = some (.string p.2) := by rw [bel.cell (p := ⟨q, off + k * 2 + 1, none⟩) g1]; exact g3
        have z3 : q < wr.heap.size := Nat.lt_of_lt_of_le g1 bel.size
        have HPP := Lib.hid hp
        clear hp g1 g2 g3 bel
        go_wp2_with (at_builtin; refine wpList_append_own _ rfl (.tmp 45) (.tmp 51) 25 rfl w1.heap.size 66 rj (.agg #[.int .i64 0, .string ⟨#[]⟩]) 2 24 Tryd.underlying25 Hj.out Hy0.out Hy1.out Hy2.out rfl (by decide) _ k (wtk d.pend k) rfl (HC.out.own.alloc _) ⟨wr.heap.size, 0, none⟩ 1 1 [.int .i64 p.1, .string p.2] rfl rfl ?f1 ?f2 ?f3 ?f4 ?f5 ?_)
        case f1 => exact cell_new2 _ _ _ _ _ rfl
        case f2 => intro u hu; simp at hu; rcases hu with rfl | rfl <;> rfl
        case f3 => unfold maxLen; omega
        case f4 => omega
        case f5 => have := HC.out.below.size; simp; omega
        intro v5 w5 hown5 hgrow5 _
        have C5 : Hid (Wc d.pend (k + 1) w.heap.size (.slice a d.secs.length c) (.slice (some ⟨q, off, none⟩) d.pend.length c2) dl dd w1 v5 w5) := by
          have B5 : Below w1.heap.size wr w5 := ((Below.refl w1.heap.size wr).alloc HC.out.below.size _).grown hgrow5 (by have := HC.out.below.size; simp; omega) (fun j hj => (HC.out.own.lt j hj).1)
          refine ⟨by rw [wtk_next HPP.out]; exact hown5, HC.out.bx.nextB B5 BX.out.lt, HC.out.by_.nextB B5 BY.out.lt, HC.out.below.trans B5⟩
        obtain ⟨la', lc', e5⟩ : ∃ la' lc', v5 = .slice la' (k + 1) lc' := by
          rcases hown5.2 with ⟨_, h0⟩ | ⟨g, cap, cur, rfl, -⟩
          · omega
          · exact ⟨_, _, rfl⟩
        subst e5
        clear hown5 hgrow5
        go_wp2_with fail
        go_roundw
        case rel => exact ⟨k + 1, la', lc', by omega, by congr 1, rfl, C5.out⟩
        case measure => simp [intOf]; omega
      case neg =>
        have cc0 : ¬ (k : Int) < (d.pend.length : Int) := by omega
        obtain rfl : k = d.pend.length := by omega
        obtain ⟨m, hm⟩ : ∃ m : Nat, (16 : Int) - (s.size : Int) = (m : Int) := ⟨16 - s.size, by omega⟩
        have HM : Hid (16 - s.size = m) := show _ = _ by omega
        have mb : m ≤ 16 := by omega
        have x0 := HC.out.bx.c0
        have x2 := HC.out.bx.c2
        have x3 := HC.out.bx.c3
        have HPAD : Hid (s ++ zb m = pad s) := by show _ = _; unfold pad; rw [HM.out]
        have zs : (zb m).size ≤ 16 := by rw [zb_size]; exact mb
        go_wp2_with fail
        refine (zeros_x m (by omega) wr).mono ?_
        rintro r w6 ⟨rfl, rfl⟩
        go_wp2_with (at_builtin; refine wpList_append_own _ rfl (.tmp 53) (.tmp 62) 25 rfl w1.heap.size 66 rj (.agg #[.int .i64 0, .string ⟨#[]⟩]) 2 24 Tryd.underlying25 Hj.out Hy0.out Hy1.out Hy2.out rfl (by decide) _ d.pend.length (wtk d.pend d.pend.length) rfl (HC.out.own.alloc _) ⟨wr.heap.size, 0, none⟩ 1 1 [.int .i64 at_, .string (s ++ zb m)] rfl rfl ?f1 ?f2 ?f3 ?f4 ?f5 ?_)
        case f1 => exact cell_new2 _ _ _ _ _ rfl
        case f2 => intro u hu; simp at hu; rcases hu with rfl | rfl <;> rfl
        case f3 => unfold maxLen; omega
        case f4 => omega
        case f5 => have := HC.out.below.size; simp; omega
        intro v7 w7 hown7 hgrow7 _
        have B7 : Hid (Below w1.heap.size wr w7) := ((Below.refl w1.heap.size wr).alloc HC.out.below.size _).grown hgrow7 (by have := HC.out.below.size; simp; omega) (fun j hj => (HC.out.own.lt j hj).1)
        have W7 : Hid (w7.ownsRow w1.heap.size 66 2 v7 (d.pend.length + 1) (wC (d.pend ++ [(at_, pad s)]))) := by
          have e1 : wtk d.pend d.pend.length = wC d.pend := by unfold wtk; rw [List.take_of_length_le (Nat.le_refl _)]
          rw [e1, HPAD.out] at hown7
          rw [wC_app]
          exact hown7
        have wl1 : w.heap.size < w1.heap.size := BX.out.lt
        have wl2 : w.heap.size + 1 < w1.heap.size := BY.out.lt
        obtain ⟨la', lc', e7⟩ : ∃ la' lc', v7 = .slice la' (d.pend.length + 1) lc' := by
          rcases hown7.2 with ⟨_, h0⟩ | ⟨g, cap, cur, rfl, -⟩
          · omega
          · exact ⟨_, _, rfl⟩
        subst e7
        have BX7 := Lib.hid (HC.out.bx.nextB B7.out BX.out.lt)
        have BY7 := Lib.hid (HC.out.by_.nextB B7.out BY.out.lt)
        have BB7 := Lib.hid ((B1.out.trans (HC.out.below.mono B1.out.size)).trans (B7.out.mono B1.out.size))
        clear hown7 hgrow7 x0 x1 x2 x3 xl
        have x0 := BX7.out.c0
        have x1 := BX7.out.c1
        have x2 := BX7.out.c2
        have x3 := BX7.out.c3
        have xl := BX7.out.lt
        have xf := BX7.out.fz
        have y0 := BY7.out.c0
        have y1 := BY7.out.c1
        have y2 := BY7.out.c2
        have y3 := BY7.out.c3
        have yl := BY7.out.lt
        have yf := BY7.out.fz
        go_wp2_with fail
        exact bodyPost_ret (v := .tuple #[.agg #[.slice a d.secs.length c, .slice la' (d.pend.length + 1) lc', .int .i64 dl, .bool dd], .int .i64 0]) (by simp [results, Tryd.results19, go_sem, y0, y1, y2, y3]) rfl ⟨_, by rw [hv.out]; try rfl, by rw [hv.out]; exact DAt.write (HD.out.next (by repeat (first | exact BB7.out | refine Below.setCell ?_ (Nat.le_succ _) _ | refine Below.setCell ?_ (by simp) _))) (WAt.own (base := w1.heap.size) (T := 66) (n := d.pend.length + 1) (by repeat (first | refine own_set ?_ (by first | exact wl1 | exact wl2) _ | with_reducible exact W7.out)) (by simp)), (by repeat (first | exact BB7.out | refine Below.setCell ?_ (Nat.le_succ _) _ | refine Below.setCell ?_ (by simp) _))⟩

end Go.Proofs.YtemldlhhlneleaaDoor
