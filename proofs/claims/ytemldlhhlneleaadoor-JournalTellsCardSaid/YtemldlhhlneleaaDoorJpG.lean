/-
  The program's journal: Append; what the laws ask of the program holds (journalOk).
-/
import Derived.Test.YtemldlhhlneleaaDoorJpF
import Derived.Test.YtemldlhhlneleaaDoorJpE
import Derived.Test.YtemldlhhlneleaaDoorWiEnc
namespace Go.Proofs.YtemldlhhlneleaaDoor.Jn
open Go.RowKit Dk Wi

theorem app1_st {secs : List B} {left : Int} {n : Nat} {c : S} (hn : n ≤ (lg secs).length) : stD secs left (2 + n / 16) ((fullF (dk secs left) n c).drop (16 * (n / 16))) ((((fullF (dk secs left) n c).drop (16 * (n / 16))).length + 15) / 16) = app1 (dk secs left) n c := by
  have h1 : (fullF (dk secs left) n c).length = n + c.length := full_len (d := dk secs left) hn
  unfold stD app1
  rw [cws_wsF, List.length_drop, h1, show (n + c.length - 16 * (n / 16) + 15) / 16 = (n + c.length + 15) / 16 - n / 16 by omega]
theorem app2_st {d : D} {fs : List B} {fl : Int} {p m : Nat} (hp : (p : Int) = othI d.secs) : stD fs fl p (hdT m) 1 = app2 d ⟨fs, [], fl, false⟩ m := by
  unfold stD app2
  rw [cws_succ, ← hp, show txt (hdT m) 0 = Jn.header m by unfold txt; rw [Nat.mul_zero, List.drop_zero, List.take_of_length_le (by rw [hdT_len]; exact Nat.le_refl _)]; rfl, pad_16 (header_size m)]
  show (⟨fs, [((p : Int) + ((0 : Nat) : Int), Jn.header m)], fl, false⟩ : D) = _
  rw [show (p : Int) + ((0 : Nat) : Int) = (p : Int) by omega]
theorem before_text (L : S) (n f : Nat) (hf : 16 * f ≤ n) (hn : n ≤ L.length) (c : S) : (mkB L).extract (f * 16) n ++ mkB c = mkB ((L.take n ++ c).drop (16 * f)) := by
  rw [List.drop_append_of_le_length (by rw [List.length_take]; omega)]
  have e : (mkB L).extract (f * 16) n = mkB ((L.take n).drop (16 * f)) := by
    apply ByteArray.ext
    rw [ByteArray.data_extract]
    apply Array.ext'
    rw [Array.toList_extract, List.extract_eq_take_drop, List.drop_take, Nat.mul_comm f 16]
    rfl
  rw [e, mkB_app]
  rfl
def ApRel (w : World) (G : Nat) (fd : D) (fe cu used : Int) (lg_ : B) (lv : Value) (x : Value) (wx : World) : Prop := ∃ a c b c2, x = .int .i64 fe ∧ Bx (.slice a fd.secs.length c) (.slice b fd.pend.length c2) fd.left fd.down w.heap.size wx ∧ Bx (.slice none 0 0) (.slice none 0 0) 0 false (w.heap.size + 1) wx ∧
  B4 (.int .i64 cu) (.string lg_) (.int .i64 used) lv G wx ∧ DAt wx (.agg #[.slice a fd.secs.length c, .slice b fd.pend.length c2, .int .i64 fd.left, .bool fd.down]) fd ∧ Below w.heap.size w wx
def RdRel1 (w : World) (n m : Nat) (a : Option Addr) (c : Nat) (b : Option Addr) (c2 : Nat) (dl : Int) (dd : Bool) (e q0 : Int) (q1 : B) (q2 : Int) (ll : Nat) (x y : Value) (wx : World) : Prop := ∃ G la lc, x = .pointer (some ⟨G, 0, none⟩) ∧ y = .int .i64 e ∧ Bx (.slice a n c) (.slice b m c2) dl dd w.heap.size wx ∧ Bx (.slice none 0 0) (.slice none 0 0) 0 false (w.heap.size + 1) wx ∧
  B4 (.int .i64 q0) (.string q1) (.int .i64 q2) (.slice la ll lc) G wx ∧ w.heap.size + 1 < G ∧ Below w.heap.size w wx
theorem cur_nat {l : List B} (h : 0 ≤ hn l 0 ∨ 0 ≤ hn l 1) : ∃ k : Nat, curI l = (k : Int) ∧ k < 2 := by
  unfold curI
  rw [if_neg (by omega)]
  split
  · exact ⟨1, rfl, by decide⟩
  · exact ⟨0, rfl, by decide⟩
theorem fl_quiet {d fd : D} (h : flV d = (fd, 0)) : fd.pend = [] ∧ fd.down = false := by
  unfold flV at h
  split at h
  · split at h
    · simp at h
    · obtain rfl := (congrArg Prod.fst h).symm
      exact ⟨rfl, rfl⟩
  · next q => exact absurd (congrArg Prod.snd h) q
theorem fl_len {d fd : D} (h : flV d = (fd, 0)) : fd.secs.length = d.secs.length := by
  unfold flV at h
  split at h
  · split at h
    · simp at h
    · obtain rfl := (congrArg Prod.fst h).symm
      exact perf_len _ _
  · next q => exact absurd (congrArg Prod.snd h) q
theorem B4.putO {v0 v1 v2 v3 : Value} {g' : Nat} {W : World} (h : B4 v0 v1 v2 v3 g' W) {g : Nat} (hne : g' ≠ g) (sv pv : Value) (l : Int) (b : Bool) : B4 v0 v1 v2 v3 g' (put4 W g sv pv l b) := by
  refine ⟨by simpa using h.lt, ?_, ?_, ?_, ?_, fun o => by simpa using h.fz o⟩
  · rw [put4_other _ _ _ _ _ (.inl hne)]; exact h.c0
  · rw [put4_other _ _ _ _ _ (.inl hne)]; exact h.c1
  · rw [put4_other _ _ _ _ _ (.inl hne)]; exact h.c2
  · rw [put4_other _ _ _ _ _ (.inl hne)]; exact h.c3
theorem app_no {d : D} {l : List S} {e : Int} {s : S} (h : allV d = (l, e)) (he : e ≠ 0) : appV d s = (D0, e) := by unfold appV; rw [h]; exact if_neg he
theorem app_big {d : D} {l : List S} {s : S} (h : allV d = (l, 0)) (hs : ¬ s.length ≤ 2000) : appV d s = (D0, 1) := by unfold appV; rw [h, if_pos rfl, if_neg hs]
theorem app_full {d : D} {l : List S} {s : S} (h : allV d = (l, 0)) (hs : s.length ≤ 2000) (hf : ¬ (l.length < 500 ∧ (encA l).length + (Wm.encS s).length ≤ 16 * (d.secs.length - 2))) : appV d s = (D0, 6) := by unfold appV; rw [h, if_pos rfl, if_pos hs]; exact if_neg hf
theorem app_one {d : D} {l : List S} {s : S} (h : allV d = (l, 0)) (hs : s.length ≤ 2000) (hf : l.length < 500 ∧ (encA l).length + (Wm.encS s).length ≤ 16 * (d.secs.length - 2)) {fd : D} {fe : Int} (h1 : flV (app1 d (encA l).length (Wm.encS s)) = (fd, fe)) : appV d s = if fe = 0 then flV (app2 d fd ((encA l).length + (Wm.encS s).length)) else (fd, fe) := by
  unfold appV
  rw [h, if_pos rfl, if_pos hs, if_pos hf]
  show (if (flV (app1 d (encA l).length (Wm.encS s))).2 = 0 then _ else _) = _
  rw [h1]

set_option maxHeartbeats 6400000 in
set_option maxRecDepth 100000 in
theorem pAppend_x (ok : DiskOk) (v : Value) (d : D) (s : B) (w : World) (h : DAt w v d) (hf : Fit d) (hs : s.size ≤ 9223372036854775807) (ht : Tb w) :
    Calls Tryd.prog 13 #[v, .string s] w fun r w' => ∃ x, r = .returned (.tuple #[x, .int .i64 (appV d s.data.toList).2]) ∧ DAt w' x (appV d s.data.toList).1 ∧ Below w.heap.size w w' := by
  obtain ⟨⟨l, e⟩, hl⟩ : ∃ p, allV d = p := ⟨_, rfl⟩
  have HV := Lib.hid hl
  have HT := Lib.hid ht
  obtain ⟨a, c, b, c2, rfl, -, -, -, -⟩ := h.form
  obtain ⟨dl, hdl⟩ : ∃ x, d.left = x := ⟨_, rfl⟩
  obtain ⟨dd, hdd⟩ : ∃ x, d.down = x := ⟨_, rfl⟩
  obtain ⟨nn, hnn⟩ : ∃ x, d.secs.length = x := ⟨_, rfl⟩
  obtain ⟨pn, hpn⟩ : ∃ x, d.pend.length = x := ⟨_, rfl⟩
  rw [hdl, hdd, hnn, hpn] at h
  rw [hdl, hdd, hnn, hpn]
  have HD := Lib.hid h
  have HF := Lib.hid hf
  have HDL := Lib.hid hdl
  have HDD := Lib.hid hdd
  have HNN := Lib.hid hnn
  have HPN := Lib.hid hpn
  have BW : Hid (Below w.heap.size w ((w.alloc (.cells #[.slice a nn c, .slice b pn c2, .int .i64 dl, .bool dd] 27)).alloc (.cells #[.slice none 0 0, .slice none 0 0, .int .i64 0, .bool false] 27))) := chain (Below.new1 _) (Below.new1 _)
  have X1 : Hid (Bx (.slice a nn c) (.slice b pn c2) dl dd w.heap.size ((w.alloc (.cells #[.slice a nn c, .slice b pn c2, .int .i64 dl, .bool dd] 27)).alloc (.cells #[.slice none 0 0, .slice none 0 0, .int .i64 0, .bool false] 27))) := (Bx.new _ _ _ _ _ _).next (Below.new1 _)
  have Y1 : Hid (Bx (.slice none 0 0) (.slice none 0 0) 0 false (w.heap.size + 1) ((w.alloc (.cells #[.slice a nn c, .slice b pn c2, .int .i64 dl, .bool dd] 27)).alloc (.cells #[.slice none 0 0, .slice none 0 0, .int .i64 0, .bool false] 27))) := by
    have hy := Bx.new (w.alloc (.cells #[.slice a nn c, .slice b pn c2, .int .i64 dl, .bool dd] 27)) (.slice none 0 0) (.slice none 0 0) 0 false 27
    rw [show (w.alloc (.cells #[.slice a nn c, .slice b pn c2, .int .i64 dl, .bool dd] 27)).heap.size = w.heap.size + 1 by simp] at hy
    exact hy
  have HR : Hid (∀ W (q0 : Int) (q1 : B) (q2 : Int), rdC d = q0 → mkB (rdL d) = q1 → rdU d = q2 → Below w.heap.size w W → Calls Tryd.prog 40 #[.agg #[.slice a nn c, .slice b pn c2, .int .i64 dl, .bool dd]] W fun r w' => ∃ a c, r = .returned (.tuple #[.agg #[.int .i64 q0, .string q1, .int .i64 q2, .slice a l.length c], .int .i64 e]) ∧ LAt w' (.slice a l.length c) l ∧ Below W.heap.size W w') := by
    show ∀ W (q0 : Int) (q1 : B) (q2 : Int), _
    intro W q0 q1 q2 h0 h1 h2 hW
    subst h0 h1 h2
    exact read_l ok _ d l e W (HD.out.next hW) HF.out HV.out
  clear h hf hdl hdd hnn hpn hl ht
  obtain ⟨q0, hq0⟩ : ∃ x, rdC d = x := ⟨_, rfl⟩
  obtain ⟨q1, hq1⟩ : ∃ x, mkB (rdL d) = x := ⟨_, rfl⟩
  obtain ⟨q2, hq2⟩ : ∃ x, rdU d = x := ⟨_, rfl⟩
  have HQ : Hid (rdC d = q0 ∧ mkB (rdL d) = q1 ∧ rdU d = q2) := ⟨hq0, hq1, hq2⟩
  clear hq0 hq1 hq2
  go_enter Tryd.func13, Tryd.ntmps13
  go_upto_region 1 with fail
  go_cut [6, 7] (fun x y wx => RdRel1 w nn pn a c b c2 dl dd e q0 q1 q2 l.length x y wx)
  case first =>
    have x0 := X1.out.c0
    have x1 := X1.out.c1
    have x2 := X1.out.c2
    have x3 := X1.out.c3
    have xl := X1.out.lt
    go_wp2_with fail
    refine (HR.out _ _ _ _ HQ.out.1 HQ.out.2.1 HQ.out.2.2 BW.out).mono ?_
    rintro r w1 ⟨la, lc, rfl, h1, b1⟩
    have YW := Lib.hid (Y1.out.next b1)
    have R : Hid (RdRel1 w nn pn a c b c2 dl dd e q0 q1 q2 l.length (.pointer (some ⟨w1.heap.size, 0, none⟩)) (.int .i64 e) (w1.alloc (.cells #[.int .i64 q0, .string q1, .int .i64 q2, .slice la l.length lc] 62))) :=
      ⟨w1.heap.size, la, lc, rfl, rfl, (X1.out.next b1).next (Below.new1 _), YW.out.next (Below.new1 _), B4.new _ _ _ _ _ _, YW.out.lt, chain (chain BW.out b1) (Below.new1 _)⟩
    clear h1 b1 x0 x1 x2 x3 xl
    go_wp2_with fail
    go_meet
    exact R.out
  case rest =>
  clear BW X1 Y1 HR
  obtain ⟨G, la, lc, rfl, rfl, hX, hY, hG, hGG, hB⟩ := hcut
  have HX := Lib.hid hX
  have HY := Lib.hid hY
  have HG := Lib.hid hG
  have HB := Lib.hid hB
  have HGG := Lib.hid hGG
  clear hX hY hG hB hGG
  have y0 := HY.out.c0
  have y1 := HY.out.c1
  have y2 := HY.out.c2
  have y3 := HY.out.c3
  have yl := HY.out.lt
  have yf := HY.out.fz
  by_cases e0 : e = 0
  case neg =>
    have u0 : (e != 0) = true := by simpa using e0
    have hv : Hid (appV d s.data.toList = (D0, e)) := app_no HV.out e0
    clear e0
    go_wp2_with fail
    exact bodyPost_ret (v := .tuple #[.agg #[.slice none 0 0, .slice none 0 0, .int .i64 0, .bool false], .int .i64 e]) (by simp [results, Tryd.results13, go_sem, y0, y1, y2, y3]) rfl ⟨_, by rw [hv.out]; try rfl, by rw [hv.out]; exact DAt.zero _, (by repeat (first | exact HB.out | refine Below.setCell ?_ (Nat.le_succ _) _ | refine Below.setCell ?_ (by simp) _))⟩
  case pos =>
  subst e0
  by_cases t1 : s.size ≤ 2000
  case neg =>
    have t2 : 2000 < (s.size : Int) := by omega
    have hv : Hid (appV d s.data.toList = (D0, 1)) := app_big HV.out (by rw [size_list]; exact t1)
    clear t1
    go_wp2_with fail
    exact bodyPost_ret (v := .tuple #[.agg #[.slice none 0 0, .slice none 0 0, .int .i64 0, .bool false], .int .i64 1]) (by simp [results, Tryd.results13, go_sem, y0, y1, y2, y3]) rfl ⟨_, by rw [hv.out]; try rfl, by rw [hv.out]; exact DAt.zero _, (by repeat (first | exact HB.out | refine Below.setCell ?_ (Nat.le_succ _) _ | refine Below.setCell ?_ (by simp) _))⟩
  case pos =>
  have t2 : ¬ 2000 < (s.size : Int) := by omega
  obtain ⟨⟨hck, hdn, hpnd⟩, hj⟩ := allV_ok.1 HV.out
  have hrd := rd_yes HV.out
  have h500 := hj.few
  have h3 := hj.n3
  have htop := hj.top
  have hjle := hj.le
  have hcur := hj.cur
  have h16 := (check_iff.1 hck).2.1
  have n512 : d.secs.length ≤ 512 := (check_iff.1 hck).1.2.1
  have hlg := lg_len h16
  obtain ⟨secs, pend, left, down⟩ := d
  change pend = [] at hpnd
  change down = false at hdn
  subst hpnd
  subst hdn
  obtain rfl : dl = left := HDL.out.symm
  obtain rfl : dd = false := HDD.out.symm
  obtain rfl : nn = secs.length := HNN.out.symm
  obtain rfl : pn = 0 := HPN.out.symm
  change 3 ≤ secs.length at h3
  change secs.length ≤ 512 at n512
  change (lg secs).length = 16 * (secs.length - 2) at hlg
  change (encA l).length ≤ (lg secs).length at hjle
  change curN secs = ((encA l).length : Int) at htop
  obtain ⟨n, hn⟩ : ∃ n, (encA l).length = n := ⟨_, rfl⟩
  obtain ⟨cd, hcd⟩ : ∃ x, Wm.encS s.data.toList = x := ⟨_, rfl⟩
  obtain ⟨L, hL⟩ : ∃ x, lg secs = x := ⟨_, rfl⟩
  obtain ⟨cn, hcn, cn2⟩ : ∃ k : Nat, curI secs = (k : Int) ∧ k < 2 := cur_nat hcur
  have cl : cd.length ≤ 2022 := by
    rw [← hcd]
    have h1 := (Wm.encI_len (s.data.toList.length : Int)).2
    have h2 := size_list s
    unfold Wm.encS
    rw [List.length_append]
    omega
  have cl2 : 2 ≤ cd.length := by rw [← hcd]; exact encS_two _
  have e0 : q0 = (cn : Int) := by rw [← HQ.out.1, hrd.1]; exact hcn
  have e1 : q1 = mkB L := by rw [← HQ.out.2.1, hrd.2.1, ← hL]
  have e2 : q2 = (n : Int) := by rw [← HQ.out.2.2, hrd.2.2, ← hn]; exact htop
  subst e0 e1 e2
  rw [hn, hL] at hjle
  rw [hL] at hlg
  have HN := Lib.hid hn
  have HCD := Lib.hid hcd
  have HL := Lib.hid hL
  have HCN := Lib.hid hcn
  have HCK := Lib.hid hck
  have HST : Hid (∀ W, Calls Tryd.prog 30 #[.string s] W fun r w' => r = .returned (.string (mkB cd)) ∧ Below W.heap.size W w') := by
    show ∀ W, _
    intro W
    rw [← hcd]
    exact String_x s W (by omega)
  have HLZ : Hid ((mkB L).size = L.length) := rfl
  have HLC : Hid ((mkB cd).size = cd.length) := rfl
  obtain ⟨m, hm⟩ : ∃ m, n + cd.length = m := ⟨_, rfl⟩
  have HM := Lib.hid hm
  have m5 : m ≤ 20000 := by omega
  have m1 : (n : Int) + ((mkB cd).size : Int) = (m : Int) := by rw [HLC.out]; omega
  clear hck hcur hrd htop h16 hj hn hcd hL hcn
  have g0 := HG.out.c0
  have g1 := HG.out.c1
  have g2 := HG.out.c2
  have g3 := HG.out.c3
  have gl := HG.out.lt
  by_cases t5 : l.length = 500
  case pos =>
    have t51 : ((l.length : Int) == 500) = true := by simp; omega
    have hv : Hid (appV ⟨secs, [], dl, false⟩ s.data.toList = (D0, 6)) := app_full HV.out (by rw [size_list]; exact t1) (by intro q; have := q.1; omega)
    clear t5
    go_wp2_with fail
    refine (HST.out _).mono ?_
    rintro r w2 ⟨rfl, b2⟩
    have HY2 := Lib.hid (HY.out.next b2)
    have HG2 := Lib.hid (HG.out.next b2)
    have HB2 := Lib.hid (chain HB.out b2)
    clear y0 y1 y2 y3 yl yf g0 g1 g2 g3 gl b2
    have y0 := HY2.out.c0
    have y1 := HY2.out.c1
    have y2 := HY2.out.c2
    have y3 := HY2.out.c3
    have yl := HY2.out.lt
    have yf := HY2.out.fz
    have g0 := HG2.out.c0
    have g1 := HG2.out.c1
    have g2 := HG2.out.c2
    have g3 := HG2.out.c3
    have gl := HG2.out.lt
    go_wp2_with fail
    exact bodyPost_ret (v := .tuple #[.agg #[.slice none 0 0, .slice none 0 0, .int .i64 0, .bool false], .int .i64 6]) (by simp [results, Tryd.results13, go_sem, y0, y1, y2, y3]) rfl ⟨_, by rw [hv.out]; try rfl, by rw [hv.out]; exact DAt.zero _, (by repeat (first | exact HB2.out | refine Below.setCell ?_ (Nat.le_succ _) _ | refine Below.setCell ?_ (by simp) _))⟩
  case neg =>
  have t51 : ((l.length : Int) == 500) = false := by simp; omega
  by_cases t6 : L.length < m
  case pos =>
    have t61 : ((mkB L).size : Int) < (m : Int) := by rw [HLZ.out]; omega
    have hv : Hid (appV ⟨secs, [], dl, false⟩ s.data.toList = (D0, 6)) := app_full HV.out (by rw [size_list]; exact t1) (by intro q; have := q.2; rw [HN.out, HCD.out] at this; change n + cd.length ≤ 16 * (secs.length - 2) at this; omega)
    clear t5 t6
    go_wp2_with fail
    refine (HST.out _).mono ?_
    rintro r w2 ⟨rfl, b2⟩
    have HY2 := Lib.hid (HY.out.next b2)
    have HG2 := Lib.hid (HG.out.next b2)
    have HB2 := Lib.hid (chain HB.out b2)
    clear y0 y1 y2 y3 yl yf g0 g1 g2 g3 gl b2
    have y0 := HY2.out.c0
    have y1 := HY2.out.c1
    have y2 := HY2.out.c2
    have y3 := HY2.out.c3
    have yl := HY2.out.lt
    have yf := HY2.out.fz
    have g0 := HG2.out.c0
    have g1 := HG2.out.c1
    have g2 := HG2.out.c2
    have g3 := HG2.out.c3
    have gl := HG2.out.lt
    go_wp2_with fail
    exact bodyPost_ret (v := .tuple #[.agg #[.slice none 0 0, .slice none 0 0, .int .i64 0, .bool false], .int .i64 6]) (by simp [results, Tryd.results13, go_sem, y0, y1, y2, y3]) rfl ⟨_, by rw [hv.out]; try rfl, by rw [hv.out]; exact DAt.zero _, (by repeat (first | exact HB2.out | refine Below.setCell ?_ (Nat.le_succ _) _ | refine Below.setCell ?_ (by simp) _))⟩
  case neg =>
  have t61 : ¬ ((mkB L).size : Int) < (m : Int) := by rw [HLZ.out]; omega
  obtain ⟨f, hf⟩ : ∃ f, n / 16 = f := ⟨_, rfl⟩
  have f1 : 16 * f ≤ n ∧ n < 16 * f + 16 := by omega
  have f2 : (n : Int) / 16 = (f : Int) := by omega
  obtain ⟨fz, hfz⟩ : ∃ z, f * 16 = z := ⟨_, rfl⟩
  have f3 : (f : Int) * 16 = (fz : Int) := by omega
  have f4 : (fz : Int) ≤ (n : Int) := by omega
  have f6 : fz ≤ 20000 ∧ n ≤ 20000 ∧ f ≤ 20000 := by omega
  have f5 : (n : Int) ≤ ((mkB L).size : Int) := by rw [HLZ.out]; omega
  obtain ⟨⟨fd, fe⟩, hfl⟩ : ∃ p, flV (app1 (dk secs dl) n cd) = p := ⟨_, rfl⟩
  have hv1 := app_one (d := dk secs dl) (fd := fd) (fe := fe) HV.out (by rw [size_list]; exact t1) ⟨by omega, by rw [HN.out, HCD.out]; show n + cd.length ≤ 16 * (secs.length - 2); omega⟩ (by rw [HN.out, HCD.out]; exact hfl)
  rw [HN.out, HCD.out, HM.out] at hv1
  have HV1 := Lib.hid hv1
  obtain ⟨F, hF⟩ : ∃ F, (fullF (dk secs dl) n cd).drop (16 * f) = F := ⟨_, rfl⟩
  have hFl : F.length = m - 16 * f := by
    rw [← hF, List.length_drop, full_len (d := dk secs dl) (c := cd) (by show n ≤ (lg secs).length; rw [HL.out]; exact hjle), hm]
  have hBT : (mkB L).extract fz n ++ mkB cd = mkB F := by
    rw [← hfz, before_text L n f f1.1 hjle, ← hF]
    unfold fullF
    rw [show lg (dk secs dl).secs = L from HL.out]
  have HS1 : Hid (∀ W, Below w.heap.size w W → Calls Tryd.prog 41 #[.agg #[.slice a secs.length c, .slice b 0 c2, .int .i64 dl, .bool false], .int .i64 (2 + (f : Int)), .string (mkB F)] W fun r w' => ∃ a c b c2, r = .returned (.tuple #[.agg #[.slice a fd.secs.length c, .slice b fd.pend.length c2, .int .i64 fd.left, .bool fd.down], .int .i64 fe]) ∧ DAt w' (.agg #[.slice a fd.secs.length c, .slice b fd.pend.length c2, .int .i64 fd.left, .bool fd.down]) fd ∧ Below W.heap.size W w') := by
    show ∀ W, _
    intro W hW
    have := store_x ok secs dl (2 + f) F a c b c2 W (HD.out.next hW) HCK.out (by rw [hFl]; omega) (by rw [hFl]; omega)
    have e := app1_st (secs := secs) (left := dl) (n := n) (c := cd) (by rw [HL.out]; exact hjle)
    rw [hf, hF] at e
    rw [e, show ((2 + f : Nat) : Int) = 2 + (f : Int) by omega] at this
    exact conv_d this hfl
  have HFL := Lib.hid hfl
  have L8 : Hid (L.length ≤ 8192 ∧ m ≤ L.length) := by show _ ∧ _; omega
  clear t5 t6 hf hF hFl hfl hv1 hm hfz
  go_wp2_with fail
  refine (HST.out _).mono ?_
  rintro r w2 ⟨rfl, b2⟩
  have HX2 := Lib.hid (HX.out.next b2)
  have HY2 := Lib.hid (HY.out.next b2)
  have HG2 := Lib.hid (HG.out.next b2)
  have HB2 := Lib.hid (chain HB.out b2)
  clear y0 y1 y2 y3 yl yf g0 g1 g2 g3 gl b2 HX HY HG HB
  have g0 := HG2.out.c0
  have g1 := HG2.out.c1
  have g2 := HG2.out.c2
  have g3 := HG2.out.c3
  have gl := HG2.out.lt
  go_upto_region 12 with fail
  go_cut [7] (fun x wx => ApRel w G fd fe (cn : Int) (n : Int) (mkB L) (.slice la l.length lc) x wx)
  case first =>
    have x0 := HX2.out.c0
    have x1 := HX2.out.c1
    have x2 := HX2.out.c2
    have x3 := HX2.out.c3
    have xl := HX2.out.lt
    clear g0 g1 g2 g3 gl
    go_wp2_with fail
    refine (HS1.out _ HB2.out).mono ?_
    rintro r w5 ⟨a5, c5, b5', e5, rfl, h5, b5⟩
    have X5 := Lib.hid (HX2.out.next b5)
    have Y5 := Lib.hid (HY2.out.next b5)
    have G5 := Lib.hid (HG2.out.next b5)
    have B5 := Lib.hid (chain HB2.out b5)
    have H5 := Lib.hid h5
    clear h5 b5 x0 x1 x2 x3 xl
    have x0 := X5.out.c0
    have x1 := X5.out.c1
    have x2 := X5.out.c2
    have x3 := X5.out.c3
    have xl := X5.out.lt
    have xf := X5.out.fz
    have R : Hid (ApRel w G fd fe (cn : Int) (n : Int) (mkB L) (.slice la l.length lc) (.int .i64 fe) (put4 w5 w.heap.size (.slice a5 fd.secs.length c5) (.slice b5' fd.pend.length e5) fd.left fd.down)) :=
      ⟨a5, c5, b5', e5, rfl, X5.out.put _ _ _ _, Y5.out.putO (by omega) _ _ _ _, G5.out.putO (by have := HGG.out; omega) _ _ _ _, H5.out.put X5.out (fun s => by simp) (fun s => by simp) _ _ _ _, below_put B5.out (Nat.le_refl _) _ _ _ _⟩
    go_wp2_with fail
    go_meet
    exact R.out
  case rest =>
  clear HX2 HY2 HG2 HB2 g0 g1 g2 g3 gl
  obtain ⟨a5, c5, b5', e5, rfl, hX, hY, hG, hH, hB⟩ := hcut
  have HX := Lib.hid hX
  have HY := Lib.hid hY
  have HG := Lib.hid hG
  have HB := Lib.hid hB
  have HH := Lib.hid hH
  clear hX hY hG hB hH
  have x0 := HX.out.c0
  have x1 := HX.out.c1
  have x2 := HX.out.c2
  have x3 := HX.out.c3
  have xl := HX.out.lt
  by_cases u0 : fe = 0
  case neg =>
    have u1 : (fe != 0) = true := by simpa using u0
    have hv : Hid (appV ⟨secs, [], dl, false⟩ s.data.toList = (fd, fe)) := by show _ = _; rw [HV1.out, if_neg u0]
    have y0 := HY.out.c0
    have y1 := HY.out.c1
    have y2 := HY.out.c2
    have y3 := HY.out.c3
    have yl := HY.out.lt
    have yf := HY.out.fz
    have H6 := Lib.hid (HH.out.put HY.out (fun s => by simp) (fun s => by simp) (.slice a5 fd.secs.length c5) (.slice b5' fd.pend.length e5) fd.left fd.down)
    have B6 := Lib.hid (below_put HB.out (g := w.heap.size + 1) (Nat.le_succ _) (.slice a5 fd.secs.length c5) (.slice b5' fd.pend.length e5) fd.left fd.down)
    clear u0
    go_wp2_with fail
    exact bodyPost_ret (v := .tuple #[.agg #[.slice a5 fd.secs.length c5, .slice b5' fd.pend.length e5, .int .i64 fd.left, .bool fd.down], .int .i64 fe]) (by simp [results, Tryd.results13, go_sem, y0, y1, y2, y3]) rfl ⟨_, by rw [hv.out], by rw [hv.out]; exact H6.out, B6.out⟩
  case pos =>
  subst u0
  obtain ⟨a1, a2, a3⟩ := ap_hdr (m := m) HCK.out rfl h3 (by rw [show curI (dk secs dl).secs = (cn : Int) from HCN.out]; omega) HFL.out (app1_check (d := dk secs dl) HCK.out rfl (by show n ≤ (lg secs).length; rw [HL.out]; exact hjle) cl2 (by show n + cd.length ≤ (lg secs).length; rw [HL.out]; have := HM.out; have := L8.out; omega)).1
  obtain ⟨z1, z2⟩ := fl_quiet HFL.out
  obtain ⟨fs, fp, fl, fdn⟩ := fd
  change fp = [] at z1
  change fdn = false at z2
  subst z1
  subst z2
  obtain ⟨⟨gd, ge⟩, hg⟩ : ∃ p, flV (app2 (dk secs dl) ⟨fs, [], fl, false⟩ m) = p := ⟨_, rfl⟩
  have hv : Hid (appV ⟨secs, [], dl, false⟩ s.data.toList = (gd, ge)) := by show _ = _; rw [HV1.out, if_pos rfl]; exact hg
  obtain ⟨p2, hp2⟩ : ∃ p, 1 - cn = p := ⟨_, rfl⟩
  have p21 : (1 : Int) - (cn : Int) = (p2 : Int) := by omega
  have m8 : m < 100000000 := by have := L8.out; omega
  have p22 : p2 ≤ 1 := by omega
  have p23 : IntKind.i64.wrap (p2 : Int) = (p2 : Int) := IntWalk.i64_in _ (by omega)
  have HHD : Hid (∀ W, Below w.heap.size w W → Calls Tryd.prog 42 #[.int .i64 (m : Int)] W fun r w' => r = .returned (.string (mkB (hdT m))) ∧ Below W.heap.size W w') := fun W hW => header_x m W m8 (HT.out.next hW)
  have HS2 : Hid (∀ W, DAt W (.agg #[.slice a5 fs.length c5, .slice b5' 0 e5, .int .i64 fl, .bool false]) (dk fs fl) → Calls Tryd.prog 41 #[.agg #[.slice a5 fs.length c5, .slice b5' 0 e5, .int .i64 fl, .bool false], .int .i64 (p2 : Int), .string (mkB (hdT m))] W fun r w' => ∃ a c b c2, r = .returned (.tuple #[.agg #[.slice a gd.secs.length c, .slice b gd.pend.length c2, .int .i64 gd.left, .bool gd.down], .int .i64 ge]) ∧ DAt w' (.agg #[.slice a gd.secs.length c, .slice b gd.pend.length c2, .int .i64 gd.left, .bool gd.down]) gd ∧ Below W.heap.size W w') := by
    show ∀ W, _
    intro W hW
    have f3 : 3 ≤ fs.length := by
      have := fl_len HFL.out
      change fs.length = secs.length at this
      omega
    have := store_x ok fs fl p2 (hdT m) a5 c5 b5' e5 W hW a2 (by rw [hdT_len]; omega) (by rw [hdT_len]; decide)
    rw [hdT_len, show (16 + 15) / 16 = 1 by decide, app2_st (d := dk secs dl) (by unfold othI; rw [show curI (dk secs dl).secs = (cn : Int) from HCN.out]; omega)] at this
    exact conv_d this hg
  clear a1 a2 a3 hg hp2
  have DS := Lib.hid HH.out
  go_wp2_with fail
  have X2 := Lib.hid (HX.out.next (Below.refl _ _).drew)
  have Y2 := Lib.hid (HY.out.next (Below.refl _ _).drew)
  have G2 := Lib.hid (HG.out.next (Below.refl _ _).drew)
  have D2 := Lib.hid (DS.out.next (Below.refl _ _).drew)
  have B2 := Lib.hid (chain HB.out (Below.refl _ _).drew)
  refine wp_region_held_drew (S := fun w' => w'.cell? ⟨w.heap.size, 0, none⟩ = some (.slice a5 fs.length c5) ∧ w'.cell? ⟨w.heap.size, 1, none⟩ = some (.slice b5' 0 e5) ∧ w'.cell? ⟨w.heap.size, 2, none⟩ = some (.int .i64 fl) ∧ w'.cell? ⟨w.heap.size, 3, none⟩ = some (.bool false) ∧ w'.cell? ⟨G, 0, none⟩ = some (.int .i64 (cn : Int))) (by kernel_rfl) ?_ (fun hHeld => ?_)
  · exact ⟨X2.out.c0, X2.out.c1, X2.out.c2, X2.out.c3, G2.out.c0⟩
  refine takeN0 (v := ?_) (by kernel_rfl) (by kernel_rfl) (by kernel_rfl) (fun _ _ _ h => h) (by rfl) ?_ (by assumption) ?_
  rotate_left
  · intro wz hSw
    try dsimp only at hSw
    go_simp
    try with_reducible rfl
  try simp only [Act.put, List.setIfInBounds_toArray, List.set_cons_zero, List.set_cons_succ]
  refine takeN1 (v := ?_) (by kernel_rfl) (by kernel_rfl) (by kernel_rfl) (fun _ _ _ h => h) (by rfl) ?_ (by assumption) ?_
  rotate_left
  · intro wz hSw
    try dsimp only at hSw
    go_simp
    try with_reducible rfl
  try simp only [Act.put, List.setIfInBounds_toArray, List.set_cons_zero, List.set_cons_succ]
  refine takeN2 (v := ?_) (by kernel_rfl) (by kernel_rfl) (by kernel_rfl) (fun _ _ _ h => h) (by rfl) ?_ (by assumption) ?_
  rotate_left
  · intro wz hSw
    try dsimp only at hSw
    go_simp
    try with_reducible rfl
  try simp only [Act.put, List.setIfInBounds_toArray, List.set_cons_zero, List.set_cons_succ]
  refine takeN3 (v := ?_) (by kernel_rfl) (by kernel_rfl) (by kernel_rfl) (fun _ _ _ h => h) (by rfl) ?_ (by assumption) ?_
  rotate_left
  · intro wz hSw
    try dsimp only at hSw
    go_simp
    try with_reducible rfl
  try simp only [Act.put, List.setIfInBounds_toArray, List.set_cons_zero, List.set_cons_succ]
  refine takeN4 (v := ?_) (by kernel_rfl) (by kernel_rfl) (by kernel_rfl) (fun _ _ _ h => h) (by rfl) ?_ (by assumption) ?_
  rotate_left
  · intro wz hSw
    try dsimp only at hSw
    go_simp
    try with_reducible rfl
  try simp only [Act.put, List.setIfInBounds_toArray, List.set_cons_zero, List.set_cons_succ]
  refine comeN5 (by kernel_rfl) (by rfl) (fun K hK => ?_)
  go_simp
  (go_at_call 42; refine (HHD.out _ B2.out).mono ?_; rintro r w3 ⟨rfl, b3⟩)
  try go_wp2_with fail
  have X3 := Lib.hid (X2.out.next b3)
  have Y3 := Lib.hid (Y2.out.next b3)
  have G3 := Lib.hid (G2.out.next b3)
  have D3 := Lib.hid (D2.out.next b3)
  have B3 := Lib.hid (chain B2.out b3)
  clear b3
  refine hK.out _ _ ?_ (fun hHeld => ?_)
  · exact ⟨X3.out.c0, X3.out.c1, X3.out.c2, X3.out.c3, G3.out.c0⟩
  clear hK K
  try simp only [Act.put, List.setIfInBounds_toArray, List.set_cons_zero, List.set_cons_succ]
  refine comeN6 (by kernel_rfl) (by rfl) (fun K hK => ?_)
  go_simp
  (go_at_call 41; refine (HS2.out _ D3.out).mono ?_; rintro r w4 ⟨a6, c6, b6', e6, rfl, h6, b6⟩)
  try go_wp2_with fail
  have X4 := Lib.hid (X3.out.next b6)
  have Y4 := Lib.hid (Y3.out.next b6)
  have G4 := Lib.hid (G3.out.next b6)
  have D4 := Lib.hid (D3.out.next b6)
  have B4 := Lib.hid (chain B3.out b6)
  have H6 := Lib.hid h6
  clear b6 h6
  refine hK.out _ _ ?_ (fun hHeld => ?_)
  · exact ⟨X4.out.c0, X4.out.c1, X4.out.c2, X4.out.c3, G4.out.c0⟩
  clear hK K
  try simp only [Act.put, List.setIfInBounds_toArray, List.set_cons_zero, List.set_cons_succ]
  refine takeN7 (v := ?_) (by kernel_rfl) (by kernel_rfl) (by kernel_rfl) (fun _ _ _ h => h) (by rfl) ?_ (by assumption) ?_
  rotate_left
  · intro wz hSw
    try dsimp only at hSw
    go_simp
    try with_reducible rfl
  try simp only [Act.put, List.setIfInBounds_toArray, List.set_cons_zero, List.set_cons_succ]
  refine takeN8 (v := ?_) (by kernel_rfl) (by kernel_rfl) (by kernel_rfl) (fun _ _ _ h => h) (by rfl) ?_ (by assumption) ?_
  rotate_left
  · intro wz hSw
    try dsimp only at hSw
    go_simp
    try with_reducible rfl
  try simp only [Act.put, List.setIfInBounds_toArray, List.set_cons_zero, List.set_cons_succ]
  refine comeN9 (by kernel_rfl) (by rfl) (fun K hK => ?_)
  have y0 := Y4.out.c0
  have y1 := Y4.out.c1
  have y2 := Y4.out.c2
  have y3 := Y4.out.c3
  have yl := Y4.out.lt
  have yf := Y4.out.fz
  go_simp
  have X5 := Lib.hid (X4.out.putO (g := w.heap.size + 1) (by omega) (.slice a6 gd.secs.length c6) (.slice b6' gd.pend.length e6) gd.left gd.down)
  have G5 := Lib.hid (G4.out.putO (g := w.heap.size + 1) (by have := HGG.out; omega) (.slice a6 gd.secs.length c6) (.slice b6' gd.pend.length e6) gd.left gd.down)
  have H7 := Lib.hid (H6.out.put Y4.out (fun s => by simp) (fun s => by simp) (.slice a6 gd.secs.length c6) (.slice b6' gd.pend.length e6) gd.left gd.down)
  have B7 := Lib.hid (below_put B4.out (g := w.heap.size + 1) (Nat.le_succ _) (.slice a6 gd.secs.length c6) (.slice b6' gd.pend.length e6) gd.left gd.down)
  refine hK.out _ _ ?_ (fun hHeld => ?_)
  · exact ⟨X5.out.c0, X5.out.c1, X5.out.c2, X5.out.c3, G5.out.c0⟩
  clear hK K
  try simp only [Act.put, List.setIfInBounds_toArray, List.set_cons_zero, List.set_cons_succ]
  refine takeN10 (v := ?_) (by kernel_rfl) (by kernel_rfl) (by kernel_rfl) (fun _ _ _ h => h) (by rfl) ?_ (by assumption) ?_
  rotate_left
  · intro wz hSw
    try dsimp only at hSw
    go_simp
    try with_reducible rfl
  try simp only [Act.put, List.setIfInBounds_toArray, List.set_cons_zero, List.set_cons_succ]
  refine wpAnyH_done (by kernel_rfl) ?_ _
  clear x0 x1 x2 x3 xl
  go_wp2_with fail
  exact bodyPost_ret (v := .tuple #[.agg #[.slice a6 gd.secs.length c6, .slice b6' gd.pend.length e6, .int .i64 gd.left, .bool gd.down], .int .i64 ge]) (by simp [results, Tryd.results13, go_sem, y0, y1, y2, y3]) rfl ⟨_, by rw [hv.out], by rw [hv.out]; exact H7.out, B7.out⟩

theorem journalOk (ok : DiskOk) : JournalOk := ⟨pFormat_x ok, pAll_x ok, pLen_x ok, pGet_x ok, pAppend_x ok⟩

end Go.Proofs.YtemldlhhlneleaaDoor.Jn
