/-
  The reference of journal: Append, where All answers a list.
-/
import Derived.Test.YtemldlhhlneleaaDoorJrE
namespace Go.Proofs.YtemldlhhlneleaaDoor.Jn
open Go.RowKit Dk Wi

/-- the variables behind some of the writes -/
structure Ap (secs : List B) (dl : Int) (sv pv : Value) (F : S) (n0 j g : Nat) (w W : World) : Prop where
  x : Bx sv pv dl false w.heap.size W
  y : Bx (.slice none 0 0) (.slice none 0 0) 0 false (w.heap.size + 1) W
  p : ∃ a c b c2, Bx (.slice a secs.length c) (.slice b j c2) dl false g W ∧ DAt W (.agg #[.slice a secs.length c, .slice b j c2, .int .i64 dl, .bool false]) (apD secs dl F n0 j)
  b : Below w.heap.size w W
def OuRel (secs : List B) (dl : Int) (sv pv : Value) (F : S) (n0 K g : Nat) (w : World) (e i : Value) (W : World) : Prop := ∃ j : Nat, j ≤ K ∧ e = .int .i64 0 ∧ i = .int .i64 ((n0 + j : Nat) : Int) ∧ Ap secs dl sv pv F n0 j g w W
def InRel (F : S) (i tt : Nat) (w : World) (t k : Value) (W : World) : Prop := ∃ m : Nat, 16 * i ≤ m ∧ m ≤ tt ∧ m ≤ 16 * i + 16 ∧ k = .int .i64 (m : Int) ∧ t = .string (mkB (part F i m)) ∧ w = W

theorem secs_form {w : World} {secs : List B} {left : Int} {a b : Option Addr} {c n c2 : Nat} {l : Int} {dn : Bool} (h : DAt w (.agg #[.slice a secs.length c, .slice b n c2, .int .i64 l, .bool dn]) (dk secs left)) (h3 : 0 < secs.length) : ∃ g o, a = some ⟨g, o, none⟩ ∧ g < w.heap.size ∧ ∀ (k : Nat) (x : B), secs[k]? = some x → w.cell? ⟨g, o + k, none⟩ = some (.string x) := by
  obtain ⟨a', c', e, -, h1⟩ := h.secs_at
  simp only [Value.slice.injEq] at e
  obtain ⟨rfl, -, -⟩ := e
  obtain ⟨g, o, rfl, h2, -⟩ := h1 0 _ (strs_get (List.getElem?_eq_getElem h3))
  refine ⟨g, o, rfl, h2, fun k x hx => ?_⟩
  obtain ⟨g', o', e, -, h4⟩ := h1 k _ (strs_get hx)
  injection e with e
  injection e with e1 e2 _
  subst e1
  subst e2
  exact h4
theorem ext_app {t : S} {b : B} {p r q : Nat} {x : UInt8} (hx : b.data.toList[q]? = some x) (hp : p = q) (hr : r = q + 1) : mkB t ++ b.extract p r = mkB (t ++ [x]) := by
  subst hp
  subst hr
  rw [one_byte hx]
  exact ByteArray.mk_append_mk _ _

set_option maxHeartbeats 6400000 in
set_option maxRecDepth 100000 in
theorem AppOk_x (secs : List B) (dl : Int) (l : List S) (s : B) (a : Option Addr) (c : Nat) (b : Option Addr) (c2 : Nat) (w : World) (h : DAt w (.agg #[.slice a secs.length c, .slice b 0 c2, .int .i64 dl, .bool false]) (dk secs dl)) (hl : allV (dk secs dl) = (l, 0)) (hs : s.size ≤ 9223372036854775807) :
    Calls Tryd.prog 12 #[.agg #[.slice a secs.length c, .slice b 0 c2, .int .i64 dl, .bool false], .string s] w fun r w' => ∃ x, r = .returned (.tuple #[x, .int .i64 (appV (dk secs dl) s.data.toList).2]) ∧ DAt w' x (appV (dk secs dl) s.data.toList).1 ∧ Below w.heap.size w w' := by
  have HD := Lib.hid h
  have HLV := Lib.hid hl
  obtain ⟨⟨hck, -, -⟩, hj⟩ := allV_ok.1 hl
  have HF := Lib.hid (fit_right hck)
  have HCK := Lib.hid hck
  have HJ := Lib.hid hj
  have n3 : 3 ≤ secs.length := hj.n3
  obtain ⟨⟨-, n5, -, q1, q2⟩, h16, -, -⟩ := check_iff.1 hck
  have n5 : secs.length ≤ 512 := n5
  have H16 := Lib.hid h16
  have l5 := hj.few
  have BW : Hid (Below w.heap.size w ((w.alloc (.cells #[.slice a secs.length c, .slice b 0 c2, .int .i64 dl, .bool false] 27)).alloc (.cells #[.slice none 0 0, .slice none 0 0, .int .i64 0, .bool false] 27))) := chain (Below.new1 _) (Below.new1 _)
  have X1 : Hid (Bx (.slice a secs.length c) (.slice b 0 c2) dl false w.heap.size ((w.alloc (.cells #[.slice a secs.length c, .slice b 0 c2, .int .i64 dl, .bool false] 27)).alloc (.cells #[.slice none 0 0, .slice none 0 0, .int .i64 0, .bool false] 27))) := (Bx.new _ _ _ _ _ _).next (Below.new1 _)
  have Y1 : Hid (Bx (.slice none 0 0) (.slice none 0 0) 0 false (w.heap.size + 1) ((w.alloc (.cells #[.slice a secs.length c, .slice b 0 c2, .int .i64 dl, .bool false] 27)).alloc (.cells #[.slice none 0 0, .slice none 0 0, .int .i64 0, .bool false] 27))) := by
    have hy := Bx.new (w.alloc (.cells #[.slice a secs.length c, .slice b 0 c2, .int .i64 dl, .bool false] 27)) (.slice none 0 0) (.slice none 0 0) 0 false 27
    rw [show (w.alloc (.cells #[.slice a secs.length c, .slice b 0 c2, .int .i64 dl, .bool false] 27)).heap.size = w.heap.size + 1 by simp] at hy
    exact hy
  have HA : Hid (∀ W, Below w.heap.size w W → Calls Tryd.prog 20 #[.agg #[.slice a secs.length c, .slice b 0 c2, .int .i64 dl, .bool false]] W fun r w' => ∃ x y, r = .returned (.tuple #[.slice x l.length y, .int .i64 0]) ∧ LAt w' (.slice x l.length y) l ∧ Below W.heap.size W w') := by
    show ∀ W, _
    intro W hW
    refine (All_x _ _ W (HD.out.next hW) HF.out).mono ?_
    rintro r w' ⟨x, rfl, hx, hb⟩
    rw [HLV.out] at hx ⊢
    obtain ⟨x1, x2, rfl, x3, x4⟩ := id hx
    have e : (strs (l.map mkB)).length = l.length := by simp
    rw [e] at hx ⊢
    exact ⟨x1, x2, rfl, hx, hb⟩
  obtain ⟨ga, oa, rfl, gl, hcs⟩ := secs_form h (by omega)
  have HCS := Lib.hid hcs
  clear h hl hck hj h16 q1 q2 hcs
  go_enter Tryd.func12, Tryd.ntmps12
  go_wp2_with fail
  refine (HA.out _ BW.out).mono ?_
  rintro r w1 ⟨la, lc, rfl, hla, b1⟩
  have BX := Lib.hid (X1.out.next b1)
  have BY := Lib.hid (Y1.out.next b1)
  have BB := Lib.hid (chain BW.out b1)
  have HL := Lib.hid hla
  clear hla b1 X1 Y1 HA
  have x0 := BX.out.c0
  have x1 := BX.out.c1
  have x2 := BX.out.c2
  have x3 := BX.out.c3
  have xl := BX.out.lt
  have y0 := BY.out.c0
  have y1 := BY.out.c1
  have y2 := BY.out.c2
  have y3 := BY.out.c3
  have yl := BY.out.lt
  have yf := BY.out.fz
  by_cases t1 : s.size ≤ 2000
  case neg =>
    have t2 : 2000 < (s.size : Int) := by omega
    have hv : Hid (appV (dk secs dl) s.data.toList = (D0, 1)) := by show _ = _; unfold appV; rw [HLV.out, if_pos rfl, if_neg (by rw [size_list]; exact t1)]
    clear t1
    go_wp2_with fail
    exact bodyPost_ret (v := .tuple #[.agg #[.slice none 0 0, .slice none 0 0, .int .i64 0, .bool false], .int .i64 1]) (by simp [results, Tryd.results12, go_sem, y0, y1, y2, y3]) rfl ⟨_, by rw [hv.out]; try rfl, by rw [hv.out]; exact DAt.zero _, (by repeat (first | exact BB.out | refine Below.setCell ?_ (Nat.le_succ _) _ | refine Below.setCell ?_ (by simp) _))⟩
  case pos =>
  have t2 : ¬ 2000 < (s.size : Int) := by omega
  obtain ⟨n, hn⟩ : ∃ n, (encA l).length = n := ⟨_, rfl⟩
  have HN := Lib.hid hn
  obtain ⟨cd, hcd⟩ : ∃ x, Wm.encS s.data.toList = x := ⟨_, rfl⟩
  have HCD := Lib.hid hcd
  have cl : cd.length ≤ 2022 := by
    rw [← hcd]
    have h1 := (Wm.encI_len (s.data.toList.length : Int)).2
    have h2 := size_list s
    unfold Wm.encS
    rw [List.length_append]
    omega
  have cl2 : 2 ≤ cd.length := by rw [← hcd]; exact encS_two _
  have lgl : Hid ((lg secs).length = 16 * (secs.length - 2)) := lg_len H16.out
  have nl : n ≤ 8192 := by
    have h1 := HJ.out.le
    have h2 := lgl.out
    rw [hn] at h1
    change n ≤ (lg secs).length at h1
    omega
  have HNL : Hid (n ≤ (lg secs).length) := by show _; rw [← hn]; exact HJ.out.le
  have HSZ : Hid (∀ W, LAt W (.slice la l.length lc) l → Calls Tryd.prog 37 #[.slice la l.length lc] W fun r w' => r = .returned (.int .i64 (n : Int)) ∧ W = w') := by
    show ∀ W, _
    intro W hW
    have h1 := Size_x _ (l.map mkB) W hW (by rw [List.length_map]; omega) (fun x hx => by
      obtain ⟨y, hy, rfl⟩ := List.mem_map.1 hx
      have := HJ.out.small y hy
      rw [mkB_size]
      omega) (by rw [show (l.map mkB).map (fun b => b.data.toList) = l from lst_mk l, hn]; omega)
    rw [show (l.map mkB).map (fun b => b.data.toList) = l from lst_mk l, hn] at h1
    exact h1
  have HST : Hid (∀ W, Calls Tryd.prog 38 #[.string s] W fun r w' => r = .returned (.string (mkB cd)) ∧ W = w') := by
    show ∀ W, _
    intro W
    rw [← hcd]
    exact RString_x s W (by omega)
  have t1' : s.size ≤ 2000 := t1
  clear hn hcd t1
  go_wp2_with fail
  refine (HSZ.out _ HL.out).mono ?_
  rintro r w2 ⟨rfl, rfl⟩
  go_wp2_with fail
  refine (HST.out _).mono ?_
  rintro r w2 ⟨rfl, rfl⟩
  have zc : (mkB cd).size = cd.length := rfl
  obtain ⟨tt, ht⟩ : ∃ x, n + cd.length = x := ⟨_, rfl⟩
  have HT := Lib.hid ht
  have w5 : IntKind.i64.wrap ((n : Int) + ((mkB cd).size : Int)) = (tt : Int) := by
    rw [← ht, zc]
    exact IntWalk.i64_in _ (by omega)
  have tn : n + 2 ≤ tt := by omega
  have ZC := Lib.hid zc
  clear HSZ HST zc ht
  have h500 : Hid (¬ (l.length < 500 ∧ tt ≤ 16 * (secs.length - 2)) → appV (dk secs dl) s.data.toList = (D0, 6)) := by
    show _ → _
    intro hh
    unfold appV
    rw [HLV.out, if_pos rfl, if_pos (by rw [size_list]; exact t1'), HN.out, HCD.out, HT.out]
    exact if_neg hh
  by_cases u1 : 500 ≤ l.length
  · have u2 : 500 ≤ (l.length : Int) := by omega
    have hv : Hid (appV (dk secs dl) s.data.toList = (D0, 6)) := h500.out (by omega)
    clear u1 h500
    go_wp2_with fail
    exact bodyPost_ret (v := .tuple #[.agg #[.slice none 0 0, .slice none 0 0, .int .i64 0, .bool false], .int .i64 6]) (by simp [results, Tryd.results12, go_sem, y0, y1, y2, y3]) rfl ⟨_, by rw [hv.out]; try rfl, by rw [hv.out]; exact DAt.zero _, (by repeat (first | exact BB.out | refine Below.setCell ?_ (Nat.le_succ _) _ | refine Below.setCell ?_ (by simp) _))⟩
  have u2 : ¬ 500 ≤ (l.length : Int) := by omega
  by_cases u3 : tt ≤ 16 * (secs.length - 2)
  case neg =>
    have u4 : 16 * ((secs.length : Int) - 2) < (tt : Int) := by omega
    have hv : Hid (appV (dk secs dl) s.data.toList = (D0, 6)) := h500.out (by omega)
    clear u1 u3 h500
    go_wp2_with fail
    exact bodyPost_ret (v := .tuple #[.agg #[.slice none 0 0, .slice none 0 0, .int .i64 0, .bool false], .int .i64 6]) (by simp [results, Tryd.results12, go_sem, y0, y1, y2, y3]) rfl ⟨_, by rw [hv.out]; try rfl, by rw [hv.out]; exact DAt.zero _, (by repeat (first | exact BB.out | refine Below.setCell ?_ (Nat.le_succ _) _ | refine Below.setCell ?_ (by simp) _))⟩
  case pos =>
  have u4 : ¬ 16 * ((secs.length : Int) - 2) < (tt : Int) := by omega
  have HU : Hid (l.length < 500 ∧ tt ≤ 16 * (secs.length - 2)) := ⟨by omega, u3⟩
  clear u1 h500
  have hcur : 0 ≤ curI secs := by
    have h1 := HJ.out.cur
    unfold curI
    change 0 ≤ hn secs 0 ∨ 0 ≤ hn secs 1 at h1
    rw [if_neg (by omega)]
    split <;> omega
  have HCR := Lib.hid hcur
  obtain ⟨cn, hcn⟩ : ∃ x, curI secs = x := ⟨_, rfl⟩
  have hc2 : cn < 2 := by
    rcases cur_cases secs with k | ⟨x, k, k2, -⟩ <;> omega
  rw [hcn] at hcur
  have HCN := Lib.hid hcn
  have HCU : Hid (∀ W, Below w.heap.size w W → Calls Tryd.prog 39 #[.agg #[.slice (some ⟨ga, oa, none⟩) secs.length c, .slice b 0 c2, .int .i64 dl, .bool false]] W fun r w' => r = .returned (.int .i64 cn) ∧ Below W.heap.size W w') := by
    show ∀ W, _
    intro W hW
    rw [← hcn]
    exact Current_x _ _ W (HD.out.next hW) HCK.out (by show 2 ≤ secs.length; omega)
  clear hcn
  go_wp2_with fail
  refine (HCU.out _ BB.out).mono ?_
  rintro r w2 ⟨rfl, b2⟩
  clear x0 x1 x2 x3 xl
  clear y0 y1 y2 y3 yl yf
  have BX' := Lib.hid (BX.out.next b2)
  have BY' := Lib.hid (BY.out.next b2)
  have BB' := Lib.hid (chain BB.out b2)
  clear BX BY BB
  have BX := Lib.hid BX'.out
  have BY := Lib.hid BY'.out
  have BB := Lib.hid BB'.out
  clear BX' BY' BB'
  have x0 := BX.out.c0
  have x1 := BX.out.c1
  have x2 := BX.out.c2
  have x3 := BX.out.c3
  have xl := BX.out.lt
  have y0 := BY.out.c0
  have y1 := BY.out.c1
  have y2 := BY.out.c2
  have y3 := BY.out.c3
  have yl := BY.out.lt
  have yf := BY.out.fz
  clear b2 HCU HL w5
  have nd : IntKind.i64.wrap ((n : Int) / 16) = ((n / 16 : Nat) : Int) := by
    rw [IntWalk.i64_in _ (by omega)]
    omega
  obtain ⟨F, hF⟩ : ∃ F, fullF (dk secs dl) n cd = F := ⟨_, rfl⟩
  have HFF := Lib.hid hF
  have HFL : Hid (F.length = tt) := by
    show _ = _
    rw [← hF, full_len (by exact HNL.out), HT.out]
  have HFN : Hid (∀ (m : Nat) (t : B), m < n → secs[2 + m / 16]? = some t → ∃ x, F[m]? = some x ∧ t.data.toList[m % 16]? = some x) := by
    show ∀ (m : Nat) (t : B), _
    intro m t h1 h2
    rw [← hF]
    exact full_old H16.out h1 HNL.out h2
  have HFM : Hid (∀ m : Nat, n ≤ m → m < tt → ∃ x, F[m]? = some x ∧ (mkB cd).data.toList[m - n]? = some x) := by
    show ∀ m : Nat, _
    intro m h1 h2
    rw [← hF]
    exact full_new h1 HNL.out (by rw [HT.out]; exact h2)
  obtain ⟨n0, hn0⟩ : ∃ x, n / 16 = x := ⟨_, rfl⟩
  have n0b : 16 * n0 ≤ n ∧ n < 16 * n0 + 16 := by omega
  have HN0 := Lib.hid hn0
  rw [hn0] at nd
  obtain ⟨K, hK⟩ : ∃ x, (tt + 15) / 16 - n0 = x := ⟨_, rfl⟩
  have Kb : tt ≤ 16 * (n0 + K) ∧ 16 * (n0 + K) < tt + 16 := by omega
  have HK := Lib.hid hK
  clear hF hn0 hK
  have A0 : Hid (Ap secs dl (.slice (some ⟨ga, oa, none⟩) secs.length c) (.slice b 0 c2) F n0 0 w2.heap.size w (w2.alloc (.cells #[.slice (some ⟨ga, oa, none⟩) secs.length c, .slice b 0 c2, .int .i64 dl, .bool false] 27))) :=
    ⟨BX.out.next (Below.new1 _), BY.out.next (Below.new1 _), ⟨some ⟨ga, oa, none⟩, c, b, c2, Bx.new _ _ _ _ _ _, by rw [apD_zero]; exact HD.out.next (chain BB.out (Below.new1 _))⟩, chain BB.out (Below.new1 _)⟩
  have gg : w.heap.size + 1 < w2.heap.size := BY.out.lt
  have GG := Lib.hid gg
  clear gg BX BY BB
  go_wp2_with fail
  go_loopw [7, 13] (fun e i wr => OuRel secs dl (.slice (some ⟨ga, oa, none⟩) secs.length c) (.slice b 0 c2) F n0 K w2.heap.size w e i wr) (fun _ i _ => tt - 16 * (intOf i).toNat)
  case atStart => exact ⟨0, Nat.zero_le _, rfl, by first | rfl | (congr 1; omega), A0.out⟩
  case round =>
    clear A0 x0 x1 x2 x3 xl y0 y1 y2 y3 yl yf nd
    obtain ⟨j, hjK, rfl, rfl, hA⟩ := hrel
    have HA := Lib.hid hA
    obtain ⟨i, hi⟩ : ∃ i, n0 + j = i := ⟨_, rfl⟩
    have HI := Lib.hid hi
    have ib : i ≤ 512 := by omega
    have i0 : (0 : Int) ≤ (i : Int) := by omega
    rw [hi]
    obtain ⟨pa, pc, pb, pc2, hP, hH⟩ := hA.p
    have HP := Lib.hid hP
    have HH := Lib.hid hH
    have BX := Lib.hid hA.x
    have BY := Lib.hid hA.y
    have BB := Lib.hid hA.b
    clear hP hH hA
    by_cases ci : 16 * i < tt
    case neg =>
      have ci0 : ¬ 16 * (i : Int) < (tt : Int) := by omega
      obtain rfl : j = K := by omega
      have HAP : Hid (apD secs dl F n0 j = app1 (dk secs dl) n cd) := by
        show _ = _
        unfold apD app1
        rw [HFF.out, HT.out, HN0.out, HK.out]
      have hck1 : checkB (app1 (dk secs dl) n cd) = true := by
        rw [← HAP.out]
        exact ap_check HCK.out (by omega)
      obtain ⟨⟨fd, fe⟩, hfl⟩ : ∃ p, flV (app1 (dk secs dl) n cd) = p := ⟨_, rfl⟩
      have HFU : Hid (Calls Tryd.prog 36 #[.agg #[.slice pa secs.length pc, .slice pb j pc2, .int .i64 dl, .bool false]] wr fun r w' => ∃ a c b c2, r = .returned (.tuple #[.agg #[.slice a fd.secs.length c, .slice b fd.pend.length c2, .int .i64 fd.left, .bool fd.down], .int .i64 fe]) ∧ DAt w' (.agg #[.slice a fd.secs.length c, .slice b fd.pend.length c2, .int .i64 fd.left, .bool fd.down]) fd ∧ Below wr.heap.size wr w') := by
        have hh := HH.out
        rw [HAP.out] at hh
        exact conv_d (Flush_x _ (app1 (dk secs dl) n cd) wr hh (fit_right hck1)) hfl
      have HAV : Hid (appV (dk secs dl) s.data.toList = if fe = 0 then flV (app2 (dk secs dl) fd tt) else (fd, fe)) := by
        show _ = _
        unfold appV
        rw [HLV.out, if_pos rfl, if_pos (by rw [size_list]; exact t1'), HN.out, HCD.out, HT.out, if_pos HU.out, hfl]
      have gg : w2.heap.size ≠ w.heap.size + 1 := by have := GG.out; omega
      have gg2 : w2.heap.size ≠ w.heap.size := by have := GG.out; omega
      have p0 := HP.out.c0
      have p1 := HP.out.c1
      have p2 := HP.out.c2
      have p3 := HP.out.c3
      have pl := HP.out.lt
      have pf := HP.out.fz
      clear ci hi
      go_wp2_with fail
      refine HFU.out.mono ?_
      rintro r w4 ⟨sa, sc, sb, sc2, rfl, h4, b4⟩
      have BX4 := Lib.hid (BX.out.next b4)
      have BY4 := Lib.hid (BY.out.next b4)
      have BB4 := Lib.hid (chain BB.out b4)
      have HP4 := Lib.hid (HP.out.next b4)
      have H4 := Lib.hid h4
      clear p0 p1 p2 p3 pl pf h4 b4 BX BY BB HP HH HFU
      have HP := Lib.hid HP4.out
      have p0 := HP.out.c0
      have p1 := HP.out.c1
      have p2 := HP.out.c2
      have p3 := HP.out.c3
      have pl := HP.out.lt
      have pf := HP.out.fz
      have BY5 := Lib.hid (BY4.out.putO (g := w2.heap.size) (by omega) (.slice sa fd.secs.length sc) (.slice sb fd.pend.length sc2) fd.left fd.down)
      have HP5 := Lib.hid (HP4.out.put (.slice sa fd.secs.length sc) (.slice sb fd.pend.length sc2) fd.left fd.down)
      have H5 := Lib.hid (H4.out.put HP4.out (fun s => by simp) (fun s => by simp) (.slice sa fd.secs.length sc) (.slice sb fd.pend.length sc2) fd.left fd.down)
      have BB5 := Lib.hid (below_put BB4.out (g := w2.heap.size) (by have := GG.out; omega) (.slice sa fd.secs.length sc) (.slice sb fd.pend.length sc2) fd.left fd.down)
      by_cases fz : fe = 0
      case neg =>
        have fz0 : (fe != 0) = true := by simpa using fz
        have hv : Hid (appV (dk secs dl) s.data.toList = (fd, fe)) := by show _ = _; rw [HAV.out, if_neg fz]
        have BY := Lib.hid BY4.out
        have y0 := BY.out.c0
        have y1 := BY.out.c1
        have y2 := BY.out.c2
        have y3 := BY.out.c3
        have yl := BY.out.lt
        have yf := BY.out.fz
        have BY6 := Lib.hid (BY5.out.put (.slice sa fd.secs.length sc) (.slice sb fd.pend.length sc2) fd.left fd.down)
        have H6 := Lib.hid (H5.out.put BY5.out (fun s => by simp) (fun s => by simp) (.slice sa fd.secs.length sc) (.slice sb fd.pend.length sc2) fd.left fd.down)
        have BB6 := Lib.hid (below_put BB5.out (g := w.heap.size + 1) (by omega) (.slice sa fd.secs.length sc) (.slice sb fd.pend.length sc2) fd.left fd.down)
        clear fz
        go_wp2_with fail
        exact bodyPost_ret (v := .tuple #[.agg #[.slice sa fd.secs.length sc, .slice sb fd.pend.length sc2, .int .i64 fd.left, .bool fd.down], .int .i64 fe]) (by simp [results, Tryd.results12, go_sem, y0, y1, y2, y3]) rfl ⟨_, by rw [hv.out]; try rfl, by rw [hv.out]; exact H6.out, BB6.out⟩
      case pos =>
      subst fz
      obtain ⟨w1e, c5, c6⟩ := ap_hdr (m := tt) HCK.out rfl n3 HCR.out hfl hck1
      obtain ⟨⟨gd, ge⟩, hgl⟩ : ∃ p, flV (app2 (dk secs dl) fd tt) = p := ⟨_, rfl⟩
      have hv : Hid (appV (dk secs dl) s.data.toList = (gd, ge)) := by show _ = _; rw [HAV.out, if_pos rfl, hgl]
      have HHD : Hid (∀ W, Calls Tryd.prog 32 #[.int .i64 (tt : Int)] W fun r w' => r = .returned (.string (Jn.header tt)) ∧ W = w') := fun W => Header_x tt W (by omega)
      have HWH : Hid (∀ W, DAt W (.agg #[.slice sa fd.secs.length sc, .slice sb fd.pend.length sc2, .int .i64 fd.left, .bool fd.down]) fd → Calls Tryd.prog 19 #[.agg #[.slice sa fd.secs.length sc, .slice sb fd.pend.length sc2, .int .i64 fd.left, .bool fd.down], .int .i64 (1 - cn), .string (Jn.header tt)] W fun r w' => ∃ a c b c2, r = .returned (.tuple #[.agg #[.slice a fd.secs.length c, .slice b 1 c2, .int .i64 fd.left, .bool fd.down], .int .i64 0]) ∧ DAt w' (.agg #[.slice a fd.secs.length c, .slice b 1 c2, .int .i64 fd.left, .bool fd.down]) (app2 (dk secs dl) fd tt) ∧ Below W.heap.size W w') := by
        show ∀ W, _
        intro W hW
        have e : othI (dk secs dl).secs = 1 - cn := by unfold othI; rw [show curI (dk secs dl).secs = cn from HCN.out]
        rw [e] at w1e
        exact conv_d (Write_x _ fd (1 - cn) (Jn.header tt) W hW (fit_right c5) (by unfold I64; omega) (by rw [header_size]; decide)) w1e
      have HF2 : Hid (∀ W v, DAt W v (app2 (dk secs dl) fd tt) → Calls Tryd.prog 36 #[v] W fun r w' => ∃ a c b c2, r = .returned (.tuple #[.agg #[.slice a gd.secs.length c, .slice b gd.pend.length c2, .int .i64 gd.left, .bool gd.down], .int .i64 ge]) ∧ DAt w' (.agg #[.slice a gd.secs.length c, .slice b gd.pend.length c2, .int .i64 gd.left, .bool gd.down]) gd ∧ Below W.heap.size W w') := by
        show ∀ W v, _
        intro W v hW
        exact conv_d (Flush_x _ (app2 (dk secs dl) fd tt) W hW (fit_right c6)) hgl
      have wc : IntKind.i64.wrap (1 - cn) = 1 - cn := IntWalk.i64_in _ (by omega)
      clear hck1 hfl w1e c5 c6 hgl
      go_wp2_with fail
      refine wp_region_held_drew (S := fun _ => True) (by kernel_rfl) ?_ (fun hHeld => ?_)
      · trivial
      refine takeN1 (v := ?_) (by kernel_rfl) (by kernel_rfl) (by kernel_rfl) (fun _ _ _ h => h) (by rfl) ?_ (by assumption) ?_
      rotate_left
      · intro wz hSw
        try dsimp only at hSw
        go_simp
        try with_reducible rfl
      try simp only [Act.put, List.setIfInBounds_toArray, List.set_cons_zero, List.set_cons_succ]
      refine takeN3 (v := ?_) (by kernel_rfl) (by kernel_rfl) (by kernel_rfl) (fun _ _ _ h => h) (by rfl) ?_ (by assumption) ?_
      rotate_left
      · intro wz hSw
        try dsimp only at hSw
        go_simp
        try with_reducible rfl
      try simp only [Act.put, List.setIfInBounds_toArray, List.set_cons_zero, List.set_cons_succ]
      refine takeN2 (v := ?_) (by kernel_rfl) (by kernel_rfl) (by kernel_rfl) (fun _ _ _ h => h) (by rfl) ?_ (by assumption) ?_
      rotate_left
      · intro wz hSw
        try dsimp only at hSw
        go_simp
        try with_reducible rfl
      try simp only [Act.put, List.setIfInBounds_toArray, List.set_cons_zero, List.set_cons_succ]
      refine wpAnyH_ready (rs := [0, 4]) (by kernel_rfl) (by simp) (AllReadyH.cons rfl (fun K hK => ?_) (AllReadyH.cons rfl (fun K hK => ?_) AllReadyH.nil))
      · rw [if_pos (by rfl)]
        go_simp
        refine hK.out _ _ ?_ (fun hHeld => ?_)
        · trivial
        clear hK K
        try simp only [Act.put, List.setIfInBounds_toArray, List.set_cons_zero, List.set_cons_succ]
        refine comeN4 (by kernel_rfl) (by rfl) (fun K hK => ?_)
        go_simp
        (go_at_call 32; refine (HHD.out _).mono ?_; rintro r w5 ⟨rfl, rfl⟩)
        try go_wp2_with fail
        refine hK.out _ _ ?_ (fun hHeld => ?_)
        · trivial
        clear hK K
        try simp only [Act.put, List.setIfInBounds_toArray, List.set_cons_zero, List.set_cons_succ]
        refine comeN5 (by kernel_rfl) (by rfl) (fun K hK => ?_)
        go_simp
        (go_at_call 19; refine (HWH.out _ (H5.out.next (Below.refl _ _).drew)).mono ?_; rintro r w6 ⟨ta, tc, tb, tc2, rfl, h6, b6⟩)
        try go_wp2_with fail
        have BY6 := Lib.hid ((BY5.out.next (Below.refl _ _).drew).next b6)
        have HP6 := Lib.hid ((HP5.out.next (Below.refl _ _).drew).next b6)
        have BB6 := Lib.hid (chain (chain BB5.out (Below.refl _ _).drew) b6)
        have H6 := Lib.hid h6
        clear h6 b6
        refine hK.out _ _ ?_ (fun hHeld => ?_)
        · trivial
        clear hK K
        try simp only [Act.put, List.setIfInBounds_toArray, List.set_cons_zero, List.set_cons_succ]
        refine takeN6 (v := ?_) (by kernel_rfl) (by kernel_rfl) (by kernel_rfl) (fun _ _ _ h => h) (by rfl) ?_ (by assumption) ?_
        rotate_left
        · intro wz hSw
          try dsimp only at hSw
          go_simp
          try with_reducible rfl
        try simp only [Act.put, List.setIfInBounds_toArray, List.set_cons_zero, List.set_cons_succ]
        refine takeN7 (v := ?_) (by kernel_rfl) (by kernel_rfl) (by kernel_rfl) (fun _ _ _ h => h) (by rfl) ?_ (by assumption) ?_
        rotate_left
        · intro wz hSw
          try dsimp only at hSw
          go_simp
          try with_reducible rfl
        try simp only [Act.put, List.setIfInBounds_toArray, List.set_cons_zero, List.set_cons_succ]
        refine takeN8 (v := ?_) (by kernel_rfl) (by kernel_rfl) (by kernel_rfl) (fun _ _ _ h => h) (by rfl) ?_ (by assumption) ?_
        rotate_left
        · intro wz hSw
          try dsimp only at hSw
          go_simp
          try with_reducible rfl
        try simp only [Act.put, List.setIfInBounds_toArray, List.set_cons_zero, List.set_cons_succ]
        refine comeN9 (by kernel_rfl) (by rfl) (fun K hK => ?_)
        clear p0 p1 p2 p3 pl pf
        have p0 := HP6.out.c0
        have p1 := HP6.out.c1
        have p2 := HP6.out.c2
        have p3 := HP6.out.c3
        have pl := HP6.out.lt
        have pf := HP6.out.fz
        go_simp
        refine hK.out _ _ ?_ (fun hHeld => ?_)
        · trivial
        clear hK K
        try simp only [Act.put, List.setIfInBounds_toArray, List.set_cons_zero, List.set_cons_succ]
        refine wpAnyH_done (by kernel_rfl) ?_ _
        have BY8 := Lib.hid (BY6.out.putO (g := w2.heap.size) (by omega) (.slice ta fd.secs.length tc) (.slice tb 1 tc2) fd.left fd.down)
        have H8 := Lib.hid (H6.out.put HP6.out (fun s => by simp) (fun s => by simp) (.slice ta fd.secs.length tc) (.slice tb 1 tc2) fd.left fd.down)
        have BB8 := Lib.hid (below_put BB6.out (g := w2.heap.size) (by have := GG.out; omega) (.slice ta fd.secs.length tc) (.slice tb 1 tc2) fd.left fd.down)
        go_wp2_with fail
        refine (HF2.out _ _ H8.out).mono ?_
        rintro r w9 ⟨ga', gc', gb', ge', rfl, h9, b9⟩
        have BY9 := Lib.hid (BY8.out.next b9)
        have BB9 := Lib.hid (chain BB8.out b9)
        have H9 := Lib.hid h9
        clear h9 b9 p0 p1 p2 p3 pl pf
        have y0 := BY9.out.c0
        have y1 := BY9.out.c1
        have y2 := BY9.out.c2
        have y3 := BY9.out.c3
        have yl := BY9.out.lt
        have yf := BY9.out.fz
        have HX := Lib.hid (H9.out.put BY9.out (fun s => by simp) (fun s => by simp) (.slice ga' gd.secs.length gc') (.slice gb' gd.pend.length ge') gd.left gd.down)
        have BX := Lib.hid (below_put BB9.out (g := w.heap.size + 1) (by omega) (.slice ga' gd.secs.length gc') (.slice gb' gd.pend.length ge') gd.left gd.down)
        go_wp2_with fail
        exact bodyPost_ret (v := .tuple #[.agg #[.slice ga' gd.secs.length gc', .slice gb' gd.pend.length ge', .int .i64 gd.left, .bool gd.down], .int .i64 ge]) (by simp [results, Tryd.results12, go_sem, y0, y1, y2, y3]) rfl ⟨_, by rw [hv.out]; try rfl, by rw [hv.out]; exact HX.out, BX.out⟩
      · rw [if_pos (by rfl)]
        go_simp
        (go_at_call 32; refine (HHD.out _).mono ?_; rintro r w5 ⟨rfl, rfl⟩)
        try go_wp2_with fail
        refine hK.out _ _ ?_ (fun hHeld => ?_)
        · trivial
        clear hK K
        try simp only [Act.put, List.setIfInBounds_toArray, List.set_cons_zero, List.set_cons_succ]
        refine comeN0 (by kernel_rfl) (by rfl) (fun K hK => ?_)
        go_simp
        refine hK.out _ _ ?_ (fun hHeld => ?_)
        · trivial
        clear hK K
        try simp only [Act.put, List.setIfInBounds_toArray, List.set_cons_zero, List.set_cons_succ]
        refine comeN5 (by kernel_rfl) (by rfl) (fun K hK => ?_)
        go_simp
        (go_at_call 19; refine (HWH.out _ (H5.out.next (Below.refl _ _).drew)).mono ?_; rintro r w6 ⟨ta, tc, tb, tc2, rfl, h6, b6⟩)
        try go_wp2_with fail
        have BY6 := Lib.hid ((BY5.out.next (Below.refl _ _).drew).next b6)
        have HP6 := Lib.hid ((HP5.out.next (Below.refl _ _).drew).next b6)
        have BB6 := Lib.hid (chain (chain BB5.out (Below.refl _ _).drew) b6)
        have H6 := Lib.hid h6
        clear h6 b6
        refine hK.out _ _ ?_ (fun hHeld => ?_)
        · trivial
        clear hK K
        try simp only [Act.put, List.setIfInBounds_toArray, List.set_cons_zero, List.set_cons_succ]
        refine takeN6 (v := ?_) (by kernel_rfl) (by kernel_rfl) (by kernel_rfl) (fun _ _ _ h => h) (by rfl) ?_ (by assumption) ?_
        rotate_left
        · intro wz hSw
          try dsimp only at hSw
          go_simp
          try with_reducible rfl
        try simp only [Act.put, List.setIfInBounds_toArray, List.set_cons_zero, List.set_cons_succ]
        refine takeN7 (v := ?_) (by kernel_rfl) (by kernel_rfl) (by kernel_rfl) (fun _ _ _ h => h) (by rfl) ?_ (by assumption) ?_
        rotate_left
        · intro wz hSw
          try dsimp only at hSw
          go_simp
          try with_reducible rfl
        try simp only [Act.put, List.setIfInBounds_toArray, List.set_cons_zero, List.set_cons_succ]
        refine takeN8 (v := ?_) (by kernel_rfl) (by kernel_rfl) (by kernel_rfl) (fun _ _ _ h => h) (by rfl) ?_ (by assumption) ?_
        rotate_left
        · intro wz hSw
          try dsimp only at hSw
          go_simp
          try with_reducible rfl
        try simp only [Act.put, List.setIfInBounds_toArray, List.set_cons_zero, List.set_cons_succ]
        refine comeN9 (by kernel_rfl) (by rfl) (fun K hK => ?_)
        clear p0 p1 p2 p3 pl pf
        have p0 := HP6.out.c0
        have p1 := HP6.out.c1
        have p2 := HP6.out.c2
        have p3 := HP6.out.c3
        have pl := HP6.out.lt
        have pf := HP6.out.fz
        go_simp
        refine hK.out _ _ ?_ (fun hHeld => ?_)
        · trivial
        clear hK K
        try simp only [Act.put, List.setIfInBounds_toArray, List.set_cons_zero, List.set_cons_succ]
        refine wpAnyH_done (by kernel_rfl) ?_ _
        have BY8 := Lib.hid (BY6.out.putO (g := w2.heap.size) (by omega) (.slice ta fd.secs.length tc) (.slice tb 1 tc2) fd.left fd.down)
        have H8 := Lib.hid (H6.out.put HP6.out (fun s => by simp) (fun s => by simp) (.slice ta fd.secs.length tc) (.slice tb 1 tc2) fd.left fd.down)
        have BB8 := Lib.hid (below_put BB6.out (g := w2.heap.size) (by have := GG.out; omega) (.slice ta fd.secs.length tc) (.slice tb 1 tc2) fd.left fd.down)
        go_wp2_with fail
        refine (HF2.out _ _ H8.out).mono ?_
        rintro r w9 ⟨ga', gc', gb', ge', rfl, h9, b9⟩
        have BY9 := Lib.hid (BY8.out.next b9)
        have BB9 := Lib.hid (chain BB8.out b9)
        have H9 := Lib.hid h9
        clear h9 b9 p0 p1 p2 p3 pl pf
        have y0 := BY9.out.c0
        have y1 := BY9.out.c1
        have y2 := BY9.out.c2
        have y3 := BY9.out.c3
        have yl := BY9.out.lt
        have yf := BY9.out.fz
        have HX := Lib.hid (H9.out.put BY9.out (fun s => by simp) (fun s => by simp) (.slice ga' gd.secs.length gc') (.slice gb' gd.pend.length ge') gd.left gd.down)
        have BX := Lib.hid (below_put BB9.out (g := w.heap.size + 1) (by omega) (.slice ga' gd.secs.length gc') (.slice gb' gd.pend.length ge') gd.left gd.down)
        go_wp2_with fail
        exact bodyPost_ret (v := .tuple #[.agg #[.slice ga' gd.secs.length gc', .slice gb' gd.pend.length ge', .int .i64 gd.left, .bool gd.down], .int .i64 ge]) (by simp [results, Tryd.results12, go_sem, y0, y1, y2, y3]) rfl ⟨_, by rw [hv.out]; try rfl, by rw [hv.out]; exact HX.out, BX.out⟩
    case pos =>
      have ci0 : 16 * (i : Int) < (tt : Int) := by omega
      have jK : j < K := by omega
      have x0 := BX.out.c0
      have x1 := BX.out.c1
      have x2 := BX.out.c2
      have x3 := BX.out.c3
      have xl := BX.out.lt
      clear hi
      go_wp2_with fail
      go_loopw [14, 15] (fun t k wr' => InRel F i tt wr t k wr') (fun _ k _ => tt - (intOf k).toNat)
      case atStart => exact ⟨16 * i, Nat.le_refl _, by omega, by omega, by first | rfl | (congr 1; omega), by rw [part_zero]; rfl, rfl⟩
      case round =>
        obtain ⟨m, m1, m2, m3, rfl, rfl, rfl⟩ := hrel
        have m0 : (0 : Int) ≤ (m : Int) := by omega
        have ps : (mkB (part F i m)).size ≤ 16 := part_len m3
        by_cases cm1 : m < 16 * i + 16
        case neg =>
          have cm2 : ¬ (m : Int) < 16 * (i : Int) + 16 := by omega
          have HTX : Hid (mkB (part F i m) = txt F i) := part_txt (.inl (by omega))
          rw [HTX.out]
          have HWR : Hid (Calls Tryd.prog 19 #[.agg #[.slice pa secs.length pc, .slice pb j pc2, .int .i64 dl, .bool false], .int .i64 (2 + (i : Int)), .string (txt F i)] wr fun r w' => ∃ a c b c2, r = .returned (.tuple #[.agg #[.slice a secs.length c, .slice b (j + 1) c2, .int .i64 dl, .bool false], .int .i64 0]) ∧ DAt w' (.agg #[.slice a secs.length c, .slice b (j + 1) c2, .int .i64 dl, .bool false]) (apD secs dl F n0 (j + 1)) ∧ Below wr.heap.size wr w') := by
            have e := ap_wr (F := F) (a := n0) (j := j) HCK.out (by have := HU.out.2; have := HI.out; omega)
            have h := conv_d (Write_x _ (apD secs dl F n0 j) (2 + ((n0 + j : Nat) : Int)) (txt F (n0 + j)) wr HH.out (fit_right (ap_check HCK.out (by have := HU.out.2; have := HI.out; omega))) (by unfold I64; omega) (by show ((F.drop (16 * (n0 + j))).take 16).length ≤ _; rw [List.length_take]; omega)) e
            rw [show (apD secs dl F n0 (j + 1)).pend.length = j + 1 from wsF_len _ _ _, HI.out] at h
            exact h
          have gg : w2.heap.size ≠ w.heap.size + 1 := by have := GG.out; omega
          have gg2 : w2.heap.size ≠ w.heap.size := by have := GG.out; omega
          clear x0 x1 x2 x3 xl
          have p0 := HP.out.c0
          have p1 := HP.out.c1
          have p2 := HP.out.c2
          have p3 := HP.out.c3
          have pl := HP.out.lt
          have pf := HP.out.fz
          go_wp2_with fail
          refine HWR.out.mono ?_
          rintro r w4 ⟨sa, sc, sb, sc2, rfl, h4, b4⟩
          have BX4 := Lib.hid (BX.out.next b4)
          have BY4 := Lib.hid (BY.out.next b4)
          have BB4 := Lib.hid (chain BB.out b4)
          have HP4 := Lib.hid (HP.out.next b4)
          have H4 := Lib.hid h4
          clear p0 p1 p2 p3 pl pf h4 b4 HWR
          have p0 := HP4.out.c0
          have p1 := HP4.out.c1
          have p2 := HP4.out.c2
          have p3 := HP4.out.c3
          have pl := HP4.out.lt
          have pf := HP4.out.fz
          have A5 : Hid (Ap secs dl (.slice (some ⟨ga, oa, none⟩) secs.length c) (.slice b 0 c2) F n0 (j + 1) w2.heap.size w (put4 w4 w2.heap.size (.slice sa secs.length sc) (.slice sb (j + 1) sc2) dl false)) :=
            ⟨BX4.out.putO gg2.symm _ _ _ _, BY4.out.putO gg.symm _ _ _ _, ⟨sa, sc, sb, sc2, HP4.out.put _ _ _ _, H4.out.put HP4.out (fun s => by simp) (fun s => by simp) _ _ _ _⟩, below_put BB4.out (by have := GG.out; omega) _ _ _ _⟩
          go_wp2_with fail
          go_roundw
          case rel => exact ⟨j + 1, by omega, rfl, by congr 1; have := HI.out; omega, A5.out⟩
          case measure => simp [intOf]; omega
        case pos =>
        have cm2 : (m : Int) < 16 * (i : Int) + 16 := by omega
        by_cases cm3 : m < tt
        case neg =>
          have cm4 : ¬ (m : Int) < (tt : Int) := by omega
          have HTX : Hid (mkB (part F i m) = txt F i) := part_txt (.inr ⟨by rw [HFL.out]; omega, by omega⟩)
          rw [HTX.out]
          have HWR : Hid (Calls Tryd.prog 19 #[.agg #[.slice pa secs.length pc, .slice pb j pc2, .int .i64 dl, .bool false], .int .i64 (2 + (i : Int)), .string (txt F i)] wr fun r w' => ∃ a c b c2, r = .returned (.tuple #[.agg #[.slice a secs.length c, .slice b (j + 1) c2, .int .i64 dl, .bool false], .int .i64 0]) ∧ DAt w' (.agg #[.slice a secs.length c, .slice b (j + 1) c2, .int .i64 dl, .bool false]) (apD secs dl F n0 (j + 1)) ∧ Below wr.heap.size wr w') := by
            have e := ap_wr (F := F) (a := n0) (j := j) HCK.out (by have := HU.out.2; have := HI.out; omega)
            have h := conv_d (Write_x _ (apD secs dl F n0 j) (2 + ((n0 + j : Nat) : Int)) (txt F (n0 + j)) wr HH.out (fit_right (ap_check HCK.out (by have := HU.out.2; have := HI.out; omega))) (by unfold I64; omega) (by show ((F.drop (16 * (n0 + j))).take 16).length ≤ _; rw [List.length_take]; omega)) e
            rw [show (apD secs dl F n0 (j + 1)).pend.length = j + 1 from wsF_len _ _ _, HI.out] at h
            exact h
          have gg : w2.heap.size ≠ w.heap.size + 1 := by have := GG.out; omega
          have gg2 : w2.heap.size ≠ w.heap.size := by have := GG.out; omega
          clear x0 x1 x2 x3 xl
          have p0 := HP.out.c0
          have p1 := HP.out.c1
          have p2 := HP.out.c2
          have p3 := HP.out.c3
          have pl := HP.out.lt
          have pf := HP.out.fz
          go_wp2_with fail
          refine HWR.out.mono ?_
          rintro r w4 ⟨sa, sc, sb, sc2, rfl, h4, b4⟩
          have BX4 := Lib.hid (BX.out.next b4)
          have BY4 := Lib.hid (BY.out.next b4)
          have BB4 := Lib.hid (chain BB.out b4)
          have HP4 := Lib.hid (HP.out.next b4)
          have H4 := Lib.hid h4
          clear p0 p1 p2 p3 pl pf h4 b4 HWR
          have p0 := HP4.out.c0
          have p1 := HP4.out.c1
          have p2 := HP4.out.c2
          have p3 := HP4.out.c3
          have pl := HP4.out.lt
          have pf := HP4.out.fz
          have A5 : Hid (Ap secs dl (.slice (some ⟨ga, oa, none⟩) secs.length c) (.slice b 0 c2) F n0 (j + 1) w2.heap.size w (put4 w4 w2.heap.size (.slice sa secs.length sc) (.slice sb (j + 1) sc2) dl false)) :=
            ⟨BX4.out.putO gg2.symm _ _ _ _, BY4.out.putO gg.symm _ _ _ _, ⟨sa, sc, sb, sc2, HP4.out.put _ _ _ _, H4.out.put HP4.out (fun s => by simp) (fun s => by simp) _ _ _ _⟩, below_put BB4.out (by have := GG.out; omega) _ _ _ _⟩
          go_wp2_with fail
          go_roundw
          case rel => exact ⟨j + 1, by omega, rfl, by congr 1; have := HI.out; omega, A5.out⟩
          case measure => simp [intOf]; omega
        case pos =>
        have cm4 : (m : Int) < (tt : Int) := by omega
        by_cases cm5 : m < n
        · have cm6 : (m : Int) < (n : Int) := by omega
          obtain ⟨sct, hsct⟩ : ∃ t, secs[2 + m / 16]? = some t := ⟨_, List.getElem?_eq_getElem (by have := HU.out.2; omega)⟩
          obtain ⟨x, hx1, hx2⟩ := HFN.out m sct cm5 hsct
          have h16s : sct.size = 16 := H16.out sct (List.mem_of_getElem? hsct)
          have z0 : wr.cell? ⟨ga, oa + (2 + i), none⟩ = some (.string sct) := by
            rw [BB.out.cell (p := ⟨ga, oa + (2 + i), none⟩) gl]
            exact HCS.out (2 + i) sct (by rw [show 2 + i = 2 + m / 16 by omega]; exact hsct)
          have zl : ga < wr.heap.size := Nat.lt_of_lt_of_le gl BB.out.size
          have zi : (2 + (i : Int)).toNat = 2 + i := by omega
          have zj : (0 : Int) ≤ 2 + (i : Int) := by omega
          have zk : 2 + (i : Int) < (secs.length : Int) := by have := HU.out.2; omega
          have HX1 := Lib.hid hx1
          have HX2 := Lib.hid hx2
          clear hx1 hx2 hsct cm1 cm3 cm5
          go_wp2_with fail
          go_roundw
          case rel => exact ⟨m + 1, by omega, by omega, by omega, by congr 1, by rw [part_next m1 HX1.out]; exact congrArg Value.string (ext_app HX2.out (by omega) (by omega)), rfl⟩
          case measure => simp [intOf]; omega
        · have cm6 : ¬ (m : Int) < (n : Int) := by omega
          obtain ⟨x, hx1, hx2⟩ := HFM.out m (by omega) cm3
          have y1' : (0 : Int) ≤ (m : Int) - (n : Int) := by omega
          have y2' : (m : Int) - (n : Int) + 1 ≤ ((mkB cd).size : Int) := by have := HT.out; rw [ZC.out]; omega
          have HX1 := Lib.hid hx1
          have HX2 := Lib.hid hx2
          clear hx1 hx2 cm1 cm3 cm5
          go_wp2_with fail
          go_roundw
          case rel => exact ⟨m + 1, by omega, by omega, by omega, by congr 1, by rw [part_next m1 HX1.out]; exact congrArg Value.string (ext_app HX2.out (by omega) (by omega)), rfl⟩
          case measure => simp [intOf]; omega

end Go.Proofs.YtemldlhhlneleaaDoor.Jn
