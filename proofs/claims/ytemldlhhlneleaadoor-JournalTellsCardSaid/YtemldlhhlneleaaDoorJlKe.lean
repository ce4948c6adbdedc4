/-
  JournalTells.
-/
import Derived.Test.YtemldlhhlneleaaDoorJlG
namespace Go.Proofs.YtemldlhhlneleaaDoor.Jn
open Go.RowKit Dk Wi

/-- what a step returns: a right disk, or none and an error -/
def Res (x : D) (e : Int) : Prop := checkB x = true ∨ (x = D0 ∧ e ≠ 0)
theorem Res.fit {x : D} {e : Int} (h : Res x e) : Fit x := by
  rcases h with h | ⟨rfl, -⟩
  · exact fit_right h
  · exact fit_zero
theorem Res.upd {x : D} {e : Int} (h : Res x e) (hu : e = 0 ∨ (e = 8 ∧ 0 < x.secs.length)) : checkB x = true := by
  rcases h with h | ⟨rfl, h⟩
  · exact h
  · rcases hu with k | ⟨-, k⟩
    · exact absurd k h
    · exact absurd k (by decide)
theorem up_ne {d : D} (h : ¬ upE d = 0) : Res D0 (upE d) := .inr ⟨rfl, h⟩
theorem res_fl {d : D} (h : checkB d = true) : Res (flV d).1 (flV d).2 := by
  unfold flV
  split
  · split
    · next q =>
      left
      have hl : d.left.toNat < d.pend.length := by omega
      exact check_tear h (w := d.pend[d.left.toNat]) (List.getElem?_eq_getElem hl)
    · next q => exact .inl (check_flush h q)
  · next q => exact up_ne q
theorem res_fm {d : D} : Res (fmV d).1 (fmV d).2 := by
  unfold fmV
  split
  · next q =>
    split
    · exact .inr ⟨rfl, by decide⟩
    · next h3 =>
      obtain ⟨-, -, -, c⟩ := fm_wr q h3
      exact res_fl c
  · next q => exact .inr ⟨rfl, q⟩
theorem res_arm {d : D} {n : Int} : Res (armV d n).1 (armV d n).2 := by
  unfold armV
  split
  · next q =>
    obtain ⟨h1, h2⟩ := upE_zero.1 q
    split
    · next k => exact .inl (check_arm h1 h2 (by omega))
    · exact .inr ⟨rfl, by decide⟩
  · next q => exact up_ne q
theorem res_cut {d : D} : Res (cutV d).1 (cutV d).2 := by
  unfold cutV
  split
  · next q => exact .inl (check_cut (upE_zero.1 q).1)
  · next q => exact up_ne q
theorem res_st {d : D} : Res (stV d).1 (stV d).2 := by
  unfold stV
  cases h : checkB d with
  | false => exact .inr ⟨rfl, by show (1 : Int) ≠ 0; decide⟩
  | true =>
    cases hd : d.down with
    | false => exact .inr ⟨rfl, by show (7 : Int) ≠ 0; decide⟩
    | true => exact .inl (check_start h)
theorem res_wr {d : D} {a : Int} {s : B} : Res (wrV d a s).1 (wrV d a s).2 := by
  unfold wrV
  split
  · next q =>
    obtain ⟨h1, h2⟩ := upE_zero.1 q
    split
    · next k =>
      split
      · next k2 => exact .inl (check_write h1 h2 ⟨k.1, k.2.1⟩ (pad_size k.2.2) k2)
      · exact .inr ⟨rfl, by decide⟩
    · exact .inr ⟨rfl, by decide⟩
  · next q => exact up_ne q
theorem res_app {d : D} {s : S} : Res (appV d s).1 (appV d s).2 := by
  obtain ⟨⟨l, e⟩, hl⟩ : ∃ p, allV d = p := ⟨_, rfl⟩
  by_cases he : e = 0
  · subst he
    by_cases hs : s.length ≤ 2000
    · by_cases hf : l.length < 500 ∧ (encA l).length + (Wm.encS s).length ≤ 16 * (d.secs.length - 2)
      · rcases app_all hl hs hf.1 hf.2 with ⟨d', h1, h2, -⟩ | ⟨-, d', h1, h2, -⟩
        · rw [h1]; exact .inl (allV_ok.1 h2).1.1
        · rw [h1]; exact .inl h2
      · have : appV d s = (D0, 6) := by unfold appV; rw [hl, if_pos rfl, if_pos hs]; exact if_neg hf
        rw [this]; exact .inr ⟨rfl, by decide⟩
    · have : appV d s = (D0, 1) := by unfold appV; rw [hl, if_pos rfl, if_neg hs]
      rw [this]; exact .inr ⟨rfl, by decide⟩
  · have : appV d s = (D0, e) := by unfold appV; rw [hl]; exact if_neg he
    rw [this]; exact .inr ⟨rfl, he⟩
/-- the steps in memory -/
def StAt (w : World) (v : Value) (l : List (Int × B × Int)) : Prop := ∃ a cap, v = .slice a l.length cap ∧ ∀ (j : Nat) (t : Int × B × Int), l[j]? = some t → ∃ b off, a = some ⟨b, off, none⟩ ∧ b < w.heap.size ∧
  w.cell? ⟨b, off + j * 3, none⟩ = some (.int .i64 t.1) ∧ w.cell? ⟨b, off + j * 3 + 1, none⟩ = some (.string t.2.1) ∧ w.cell? ⟨b, off + j * 3 + 2, none⟩ = some (.int .i64 t.2.2)
def StOk (l : List (Int × B × Int)) : Prop := ∀ t ∈ l, I64 t.1 ∧ t.2.1.size ≤ 9223372036854775807 ∧ I64 t.2.2
/-- a step in a box -/
structure Sb (kd : Int) (s : B) (n : Int) (g : Nat) (W : World) : Prop where
  lt : g < W.heap.size
  c0 : W.cell? ⟨g, 0, none⟩ = some (.int .i64 kd)
  c1 : W.cell? ⟨g, 1, none⟩ = some (.string s)
  c2 : W.cell? ⟨g, 2, none⟩ = some (.int .i64 n)
theorem Sb.next {kd : Int} {s : B} {n : Int} {g : Nat} {W W' : World} (h : Sb kd s n g W) (hb : Below W.heap.size W W') : Sb kd s n g W' := by
  have hc : ∀ o, W'.cell? ⟨g, o, none⟩ = W.cell? ⟨g, o, none⟩ := fun o => hb.cell (p := ⟨g, o, none⟩) h.lt
  exact ⟨Nat.lt_of_lt_of_le h.lt hb.size, by rw [hc]; exact h.c0, by rw [hc]; exact h.c1, by rw [hc]; exact h.c2⟩
theorem Sb.putO {kd : Int} {s : B} {n : Int} {g g1 : Nat} {W : World} (h : Sb kd s n g W) (hne : g ≠ g1) (sv pv : Value) (l : Int) (b : Bool) : Sb kd s n g (put4 W g1 sv pv l b) := by
  refine ⟨by simpa using h.lt, ?_, ?_, ?_⟩
  · rw [put4_other _ _ _ _ _ (.inl hne)]; exact h.c0
  · rw [put4_other _ _ _ _ _ (.inl hne)]; exact h.c1
  · rw [put4_other _ _ _ _ _ (.inl hne)]; exact h.c2
theorem Sb.new (W : World) (kd : Int) (s : B) (n : Int) (T : TypeId) : Sb kd s n W.heap.size (W.alloc (.cells #[.int .i64 kd, .string s, .int .i64 n] T)) := by
  refine ⟨by simp, ?_, ?_, ?_⟩ <;> (rw [World.cell?_alloc_new]; rfl)
/-- the boxes behind a step -/
structure Bs (w : World) (d : D) (gd gs gx : Nat) (kd : Int) (s : B) (n : Int) (X : D) (W : World) : Prop where
  vd : Vr d gd w W
  sb : Sb kd s n gs W
  vx : Vr X gx w W
  n1 : gx ≠ gd
  n2 : gx ≠ gs
  bel : Below w.heap.size w W
def TiRel (w : World) (gd : Nat) (x : Value) (wx : World) : Prop := ∃ wv d, wv = wx ∧ x = .int .i64 0 ∧ Vr d gd w wv ∧ checkB d = true ∧ Below w.heap.size w wv
def TnRel (w : World) (d : D) (x y : Value) (wx : World) : Prop := ∃ wv gd, wv = wx ∧ x = .pointer (some ⟨gd, 0, none⟩) ∧ y = .int .i64 0 ∧ Vr d gd w wv ∧ Below w.heap.size w wv
def TeRel (l : List (Int × B × Int)) (w : World) (gd : Nat) (i : Value) (wr : World) : Prop := ∃ (k : Nat) (d : D), k ≤ l.length ∧ i = .int .i64 (k : Int) ∧ Vr d gd w wr ∧ checkB d = true ∧ Below w.heap.size w wr
def TyRel (w : World) (d : D) (gd gs : Nat) (kd : Int) (s : B) (n : Int) (X : D) (e : Int) (x y : Value) (wx : World) : Prop := ∃ wv gx, wv = wx ∧ x = .pointer (some ⟨gx, 0, none⟩) ∧ y = .int .i64 e ∧ Bs w d gd gs gx kd s n X wv
def TxRel (w : World) (d : D) (gd gs gx : Nat) (kd : Int) (s : B) (n : Int) (X : D) (e : Int) (x : Value) (wx : World) : Prop := ∃ wv, wv = wx ∧ x = .int .i64 e ∧ Bs w d gd gs gx kd s n X wv
def TuRel (w : World) (d : D) (gd gs gx : Nat) (kd : Int) (s : B) (n : Int) (X : D) (u : Bool) (x : Value) (wx : World) : Prop := ∃ wv, wv = wx ∧ x = .bool u ∧ Bs w d gd gs gx kd s n X wv
def TzRel (w : World) (gd : Nat) (d : D) (e : Int) (x : Value) (wx : World) : Prop := ∃ wv, wv = wx ∧ x = .int .i64 e ∧ Vr d gd w wv ∧ Below w.heap.size w wv
theorem Bs.next {w : World} {d : D} {gd gs gx : Nat} {kd : Int} {s : B} {n : Int} {X : D} {W W' : World} (h : Bs w d gd gs gx kd s n X W) (hb : Below W.heap.size W W') : Bs w d gd gs gx kd s n X W' := ⟨h.vd.next hb, h.sb.next hb, h.vx.next hb, h.n1, h.n2, chain h.bel hb⟩
theorem Bs.put {w : World} {d : D} {gd gs gx : Nat} {kd : Int} {s : B} {n : Int} {X Y : D} {W : World} {sv pv : Value} (h : Bs w d gd gs gx kd s n X W) (hy : DAt W (.agg #[sv, pv, .int .i64 Y.left, .bool Y.down]) Y) : Bs w d gd gs gx kd s n Y (put4 W gx sv pv Y.left Y.down) :=
  ⟨h.vd.putO h.vx h.n1.symm _ _ _ _, h.sb.putO h.n2.symm _ _ _ _, h.vx.put hy, h.n1, h.n2, below_put h.bel h.vx.lo _ _ _ _⟩
theorem all_few {d : D} {l : List S} {e : Int} (h : allV d = (l, e)) : l.length ≤ 500 := by
  by_cases he : e = 0
  · subst he
    exact (allV_ok.1 h).2.few
  · unfold allV at h
    split at h
    · split at h
      · simp at h; exact absurd h.2.symm he
      · simp at h; rw [h.1]; exact Nat.zero_le _
    · simp at h; rw [h.1]; exact Nat.zero_le _
theorem get_cases {d : D} {l : List S} {e : Int} {i : Int} {tv : B} {te : Int} (hg : getV d i = (tv, te)) (h : allV d = (l, e)) : (te ≠ 0 ∧ e = te ∧ tv = ⟨#[]⟩) ∨ (e = 0 ∧ (i < 0 ∨ (l.length : Int) ≤ i) ∧ tv = ⟨#[]⟩ ∧ te = 4) ∨ (e = 0 ∧ ∃ (j : Nat) (x : S), i = (j : Int) ∧ l[j]? = some x ∧ tv = mkB x ∧ te = 0) := by
  unfold getV at hg
  rw [h] at hg
  by_cases he : e = 0
  · subst he
    rw [if_pos rfl] at hg
    by_cases hi : 0 ≤ i ∧ i < (l.length : Int)
    · right; right
      obtain ⟨j, rfl⟩ := Int.eq_ofNat_of_zero_le hi.1
      obtain ⟨x, hx⟩ : ∃ x, l[j]? = some x := ⟨_, List.getElem?_eq_getElem (by omega)⟩
      rw [if_pos hi, Int.toNat_natCast] at hg
      have hg2 : (mkB ((l[j]?).getD []), (0 : Int)) = (tv, te) := hg
      rw [hx] at hg2
      injection hg2 with h1 h2
      exact ⟨rfl, j, x, rfl, hx, h1.symm, h2.symm⟩
    · right; left
      have hg2 : ((⟨#[]⟩ : B), (4 : Int)) = (tv, te) := by rw [← hg]; exact (if_neg hi).symm
      injection hg2 with h1 h2
      exact ⟨rfl, by omega, h1.symm, h2.symm⟩
  · left
    have hg2 : ((⟨#[]⟩ : B), e) = (tv, te) := by rw [← hg]; exact (if_neg he).symm
    injection hg2 with h1 h2
    exact ⟨by omega, h2, h1.symm⟩
theorem lat_at {w : World} {v : Value} {l : List S} (h : LAt w v l) : ∃ a c, v = .slice a l.length c ∧ Hid (∀ (j : Nat) (x : S), l[j]? = some x → ∃ g off, a = some ⟨g, off, none⟩ ∧ g < w.heap.size ∧ w.cell? ⟨g, off + j, none⟩ = some (.string (mkB x))) := by
  obtain ⟨a, c, rfl, -, hg⟩ := h
  refine ⟨a, c, by rw [show (strs (l.map mkB)).length = l.length by simp], fun j x hx => hg j _ (strs_get (by rw [List.getElem?_map, hx]; rfl))⟩
theorem new_check {m : Nat} (h1 : 1 ≤ m) (h2 : m ≤ 40) : newV (m : Int) = (⟨List.replicate m (zb 16), [], -1, false⟩, 0) ∧ checkB ⟨List.replicate m (zb 16), [], -1, false⟩ = true := by
  refine ⟨by unfold newV; rw [if_pos ⟨by omega, by omega⟩]; rfl, check_iff.2 ⟨⟨by simp; omega, by simp; omega, by simp, by simp, by simp⟩, fun s hs => ?_, fun p hp => absurd hp List.not_mem_nil, fun q => by cases q⟩⟩
  rw [(List.mem_replicate.1 hs).2]
  rfl

set_option maxHeartbeats 6400000 in
set_option maxRecDepth 100000 in
theorem tells_x (jk : JournalOk) (n : Int) (fb : Bool) (v : Value) (l : List (Int × B × Int)) (at_ : Int) (w : World) (ht : Tb w) (hn : I64 n) (h : StAt w v l) (hok : StOk l) (hat : I64 at_) :
    Calls Tryd.prog 3 #[.int .i64 n, .bool fb, v, .int .i64 at_] w fun r w' => r = .returned (.bool true) ∧ Below w.heap.size w w' := by
  have HT := Lib.hid ht
  have HOK := Lib.hid hok
  obtain ⟨sa, sc, rfl, hg⟩ := h
  have HG := Lib.hid hg
  obtain ⟨m, hm⟩ : ∃ m, sizeN n = m := ⟨_, rfl⟩
  have ⟨m1, m2⟩ := size_in n
  rw [hm] at m1 m2
  have HSI : Hid (∀ W, Calls Tryd.prog 10 #[.int .i64 n] W fun r w' => r = .returned (.int .i64 (m : Int)) ∧ W = w') := by
    show ∀ W, _
    intro W
    rw [← hm]
    exact size_x n W hn
  obtain ⟨nv, nc⟩ := new_check m1 m2
  obtain ⟨dn, hdn⟩ : ∃ d : D, (⟨List.replicate m (zb 16), [], -1, false⟩ : D) = d := ⟨_, rfl⟩
  have hdl : dn.secs.length = m := by rw [← hdn]; exact List.length_replicate
  rw [hdn] at nv nc
  have NV := Lib.hid nv
  have NC := Lib.hid nc
  have NL := Lib.hid hdl
  have NQ : Hid (dn.down = false ∧ dn.pend = [] ∧ dn.left = -1) := by show _ ∧ _ ∧ _; rw [← hdn]; exact ⟨rfl, rfl, rfl⟩
  have HAT := Lib.hid hat
  clear hm hg ht hok hn nv nc hdn hdl hat
  go_enter Tryd.func3, Tryd.ntmps3
  have HSN := Lib.hid (sane_x jk w HT.out)
  go_wp2_with fail
  refine HSN.out.mono ?_
  rintro r w1 ⟨rfl, b1⟩
  have B1 := Lib.hid b1
  clear b1 HSN
  by_cases l20 : l.length ≤ 20
  case neg =>
    have l21 : 20 < (l.length : Int) := by omega
    clear l20
    go_wp2_with fail
    go_ret
    exact ⟨by rfl, B1.out⟩
  case pos =>
  have l21 : ¬ 20 < (l.length : Int) := by omega
  go_upto_region 4 with fail
  go_cut [10, 11] (fun x y wx => TnRel w dn x y wx)
  case first =>
    as_aux_lemma =>
    go_wp2_with fail
    refine (HSI.out _).mono ?_
    rintro r w2 ⟨rfl, rfl⟩
    have HC := Lib.hid (conv_d (New_x (m : Int) w1 (by unfold I64; omega)) NV.out)
    go_wp2_with fail
    refine HC.out.mono ?_
    rintro r w2 ⟨a2, c2, b2', e2, rfl, h2, b2⟩
    have R : Hid (TnRel w dn (.pointer (some ⟨w2.heap.size, 0, none⟩)) (.int .i64 0) (w2.alloc (.cells #[.slice a2 dn.secs.length c2, .slice b2' dn.pend.length e2, .int .i64 dn.left, .bool dn.down] 27))) := ⟨_, _, rfl, rfl, rfl, Vr.new h2 (chain B1.out b2).size _, chain (chain B1.out b2) (Below.new1 _)⟩
    clear HC h2 b2
    go_wp2_with fail
    go_meet
    exact R.out
  case rest =>
  as_aux_lemma =>
  clear B1 HSI
  obtain ⟨w2, gd, hw, rfl, rfl, hV, hB⟩ := hcut
  subst hw
  have Vd := Lib.hid hV
  have BB := Lib.hid hB
  clear hV hB
  go_upto_region 5 with fail
  go_cut [46] (fun x wx => x = .bool (fb && decide (2 < m)) ∧ wx = w2)
  case first =>
    as_aux_lemma =>
    obtain ⟨ad, cd, bd, ed, hBd, hDd⟩ := Vd.out.ex
    have xd0 := hBd.c0
    have xd1 := hBd.c1
    have xd2 := hBd.c2
    have xd3 := hBd.c3
    have xdl := hBd.lt
    have xdf := hBd.fz
    have HDd := Lib.hid hDd
    clear hBd hDd
    rw [NL.out] at xd0
    by_cases q : 2 < m
    · have q1 : (2 : Int) < (m : Int) := by omega
      have q2 : decide (2 < m) = true := decide_eq_true q
      cases fb with
      | false =>
        go_wp2_with fail
        go_meet
        exact ⟨rfl, rfl⟩
      | true =>
        go_wp2_with fail
        go_meet
        exact ⟨by rw [q2]; rfl, rfl⟩
    · have q1 : ¬ (2 : Int) < (m : Int) := by omega
      have q2 : decide (2 < m) = false := decide_eq_false q
      cases fb with
      | false =>
        go_wp2_with fail
        go_meet
        exact ⟨rfl, rfl⟩
      | true =>
        go_wp2_with fail
        go_meet
        exact ⟨by rw [q2]; rfl, rfl⟩
  case rest =>
  as_aux_lemma =>
  obtain ⟨rfl, rfl⟩ := hcut
  obtain ⟨fq, hfq⟩ : ∃ b, (fb && decide (2 < m)) = b := ⟨_, rfl⟩
  rw [hfq]
  have HFQ := Lib.hid hfq
  clear hfq
  go_upto_if 46 with fail
  go_cut [11] (fun x wx => TiRel w gd x wx)
  case first =>
    as_aux_lemma =>
    cases fq with
    | false =>
      go_wp2_with fail
      go_meet
      exact ⟨_, dn, rfl, rfl, Vd.out, NC.out, BB.out⟩
    | true =>
      have m3 : 2 < m := by
        have := HFQ.out
        rw [Bool.and_eq_true] at this
        exact of_decide_eq_true this.2
      obtain ⟨⟨X, e⟩, hq⟩ : ∃ p, fmV dn = p := ⟨_, rfl⟩
      have hc : checkB X = true := by
        have hr := res_fm (d := dn)
        rw [hq] at hr
        rcases hr with hr | ⟨-, hr⟩
        · exact hr
        · exfalso
          have h2 : rdy dn = 0 := rdy_zero.2 ⟨NC.out, NQ.out.1, NQ.out.2.1⟩
          obtain ⟨-, -, -, c2⟩ := fm_wr h2 (by have := NL.out; omega)
          have e2 : fmV dn = flV (fm2 dn) := by unfold fmV; rw [if_pos h2, if_neg (by have := NL.out; omega)]
          rw [e2] at hq
          unfold flV at hq
          rw [if_pos (upE_zero.2 ⟨c2, rfl⟩), if_neg (by show ¬ (0 ≤ dn.left ∧ _); have := NQ.out.2.2; omega)] at hq
          exact hr (congrArg Prod.snd hq).symm
      have HCX := Lib.hid hc
      obtain ⟨ad, cd, bd, ed, hBd, hDd⟩ := Vd.out.ex
      have xd0 := hBd.c0
      have xd1 := hBd.c1
      have xd2 := hBd.c2
      have xd3 := hBd.c3
      have xdl := hBd.lt
      have xdf := hBd.fz
      have HDd := Lib.hid hDd
      clear hBd hDd
      have HC := Lib.hid (conv_d (Format_x _ dn _ HDd.out (fit_right NC.out)) hq)
      clear hq hc
      go_wp2_with fail
      refine HC.out.mono ?_
      rintro r w3 ⟨a3, c3, b3', e3, rfl, h3, b3⟩
      have V3 := Lib.hid (Vd.out.next b3)
      have B3 := Lib.hid (chain BB.out b3)
      have H3 := Lib.hid h3
      clear xd0 xd1 xd2 xd3 xdl xdf HDd
      clear HC h3 b3
      obtain ⟨ad, cd, bd, ed, hBd, hDd⟩ := V3.out.ex
      have xd0 := hBd.c0
      have xd1 := hBd.c1
      have xd2 := hBd.c2
      have xd3 := hBd.c3
      have xdl := hBd.lt
      have xdf := hBd.fz
      have HDd := Lib.hid hDd
      clear hBd hDd
      have R : Hid (TiRel w gd (.int .i64 0) (put4 w3 gd (.slice a3 X.secs.length c3) (.slice b3' X.pend.length e3) X.left X.down)) := ⟨_, X, rfl, rfl, V3.out.put H3.out, HCX.out, below_put B3.out V3.out.lo _ _ _ _⟩
      go_wp2_with fail
      go_meet
      exact R.out
  case rest =>
  as_aux_lemma =>
  clear Vd BB NC NL NQ NV HFQ
  obtain ⟨w4, d4, hw, rfl, hV, hc, hB⟩ := hcut
  subst hw
  have R0 : Hid (TeRel l w gd (.int .i64 0) w4) := ⟨0, d4, Nat.zero_le _, rfl, hV, hc, hB⟩
  clear hV hc hB
  go_wp2_with fail
  go_loopw [12] (fun i wr => TeRel l w gd i wr) (fun i _ => l.length - (intOf i).toNat)
  case atStart => exact R0.out
  case round =>
    clear R0
    obtain ⟨k, d, hk, rfl, hV, hck, hB⟩ := hrel
    have Vd := Lib.hid hV
    have HCK := Lib.hid hck
    have BB := Lib.hid hB
    have k0 : (0 : Int) ≤ (k : Int) := by omega
    clear hV hck hB
    by_cases cc : k < l.length
    case neg =>
      have cc0 : ¬ (k : Int) < (l.length : Int) := by omega
      clear cc
      go_wp2_with fail
      go_ret
      exact ⟨by rfl, BB.out⟩
    case pos =>
      have cc0 : (k : Int) < (l.length : Int) := by omega
      obtain ⟨⟨kd, s, q⟩, hs⟩ : ∃ t, l[k]? = some t := ⟨_, List.getElem?_eq_getElem cc⟩
      obtain ⟨sb, so, rfl, g1, g2, g3, g4⟩ := HG.out k _ hs
      have ok3 := HOK.out _ (List.mem_of_getElem? hs)
      have OK3 := Lib.hid ok3
      have z0 : wr.cell? ⟨sb, so + k * 3, none⟩ = some (.int .i64 kd) := (BB.out.cell (p := ⟨sb, so + k * 3, none⟩) g1).trans g2
      have z1 : wr.cell? ⟨sb, so + k * 3 + 1, none⟩ = some (.string s) := (BB.out.cell (p := ⟨sb, so + k * 3 + 1, none⟩) g1).trans g3
      have z2 : wr.cell? ⟨sb, so + k * 3 + 2, none⟩ = some (.int .i64 q) := (BB.out.cell (p := ⟨sb, so + k * 3 + 2, none⟩) g1).trans g4
      have zl : sb < wr.heap.size := Nat.lt_of_lt_of_le g1 BB.out.size
      clear hs g1 g2 g3 g4 ok3
      by_cases t : s.size ≤ 100
      case neg =>
        have t1 : 100 < (s.size : Int) := by omega
        clear t
        go_wp2_with fail
        go_ret
        exact ⟨by rfl, chain BB.out (Below.new1 _)⟩
      case pos =>
        have t1 : ¬ 100 < (s.size : Int) := by omega
        obtain ⟨⟨X0, f0⟩, hq0⟩ : ∃ p, appV d s.data.toList = p := ⟨_, rfl⟩
        have HQ0 := Lib.hid hq0
        have HR0 : Hid (Res X0 f0) := by have := res_app (d := d) (s := s.data.toList); rw [hq0] at this; exact this
        clear hq0
        go_upto_region 13 with fail
        go_cut [14, 15] (fun x y wx => TyRel w d gd wr.heap.size kd s q X0 f0 x y wx)
        case first =>
          as_aux_lemma =>
          have V1 := Lib.hid (Vd.out.next (Below.new1 (.cells #[.int .i64 kd, .string s, .int .i64 q] 34)))
          have S1 := Lib.hid (Sb.new wr kd s q 34)
          have B1 := Lib.hid (chain BB.out (Below.new1 (.cells #[.int .i64 kd, .string s, .int .i64 q] 34)))
          have GL : Hid (gd < wr.heap.size) := Vd.out.lt
          clear z0 z1 z2 zl
          obtain ⟨ad, cd, bd, ed, hBd, hDd⟩ := V1.out.ex
          have xd0 := hBd.c0
          have xd1 := hBd.c1
          have xd2 := hBd.c2
          have xd3 := hBd.c3
          have xdl := hBd.lt
          have xdf := hBd.fz
          have HDd := Lib.hid hDd
          clear hBd hDd
          have s0 := S1.out.c0
          have s1 := S1.out.c1
          have s2 := S1.out.c2
          have sl := S1.out.lt
          have HC := Lib.hid (conv_d (Append_x _ d s _ HDd.out (fit_right HCK.out) (by omega)) HQ0.out)
          go_wp2_with fail
          refine HC.out.mono ?_
          rintro r w2 ⟨a2, c2, b2', e2, rfl, h2, b2⟩
          have sz2 : wr.heap.size < w2.heap.size := by have := b2.size; simp at this; omega
          have R : Hid (TyRel w d gd wr.heap.size kd s q X0 f0 (.pointer (some ⟨w2.heap.size, 0, none⟩)) (.int .i64 f0) (w2.alloc (.cells #[.slice a2 X0.secs.length c2, .slice b2' X0.pend.length e2, .int .i64 X0.left, .bool X0.down] 27))) := ⟨_, _, rfl, rfl, rfl, ⟨(V1.out.next b2).next (Below.new1 _), (S1.out.next b2).next (Below.new1 _), Vr.new h2 (chain B1.out b2).size _, by have := GL.out; omega, by omega, chain (chain B1.out b2) (Below.new1 _)⟩⟩
          clear HC h2 b2 sz2 s0 s1 s2 sl
          clear xd0 xd1 xd2 xd3 xdl xdf HDd
          go_wp2_with fail
          go_meet
          exact R.out
        case rest =>
        as_aux_lemma =>
        clear Vd BB z0 z1 z2 zl
        obtain ⟨wy, gx, hw, rfl, rfl, hb⟩ := hcut
        subst hw
        have BS := Lib.hid hb
        clear hb
        obtain ⟨gs, hgs⟩ : ∃ g, wr.heap.size = g := ⟨_, rfl⟩
        rw [hgs] at BS
        rw [hgs]
        clear hgs
        have s0 := BS.out.sb.c0
        have s1 := BS.out.sb.c1
        have s2 := BS.out.sb.c2
        have sl := BS.out.sb.lt
        go_upto_if 76 with fail
        go_cut [15] (fun x wx => TxRel w d gd gs gx kd s q X0 f0 x wx)
        case first =>
          as_aux_lemma =>
          by_cases kk : kd = 0
          · have kb : (kd == 0) = true := by simp [kk]
            obtain ⟨ad, cd, bd, ed, hBd, hDd⟩ := BS.out.vd.ex
            have xd0 := hBd.c0
            have xd1 := hBd.c1
            have xd2 := hBd.c2
            have xd3 := hBd.c3
            have xdl := hBd.lt
            have xdf := hBd.fz
            have HDd := Lib.hid hDd
            clear hBd hDd
            have HC := Lib.hid (conv_d (jk.append _ d s _ HDd.out (fit_right HCK.out) (by omega) (HT.out.next BS.out.bel)) HQ0.out)
            clear kk
            go_wp2_with fail
            refine HC.out.mono ?_
            rintro r w2 ⟨a2, c2, b2', e2, rfl, h2, b2⟩
            have Vy := Lib.hid (Vr.new (w := w) h2 (chain BS.out.bel b2).size 27)
            have BY := Lib.hid ((BS.out.next b2).next (Below.new1 (.cells #[.slice a2 X0.secs.length c2, .slice b2' X0.pend.length e2, .int .i64 X0.left, .bool X0.down] 27)))
            clear HC h2 b2
            clear xd0 xd1 xd2 xd3 xdl xdf HDd
            clear s0 s1 s2 sl
            obtain ⟨ax, cx, bx, ex, hBx, hDx⟩ := BY.out.vx.ex
            have xx0 := hBx.c0
            have xx1 := hBx.c1
            have xx2 := hBx.c2
            have xx3 := hBx.c3
            have xxl := hBx.lt
            have xxf := hBx.fz
            have HDx := Lib.hid hDx
            clear hBx hDx
            obtain ⟨aj, cj, bj, ej, hBj, hDj⟩ := Vy.out.ex
            have xj0 := hBj.c0
            have xj1 := hBj.c1
            have xj2 := hBj.c2
            have xj3 := hBj.c3
            have xjl := hBj.lt
            have xjf := hBj.fz
            have HDj := Lib.hid hDj
            clear hBj hDj
            have HSM := Lib.hid (Same_x _ _ X0 _ HDx.out HDj.out HR0.out.fit)
            go_wp2_with fail
            refine HSM.out.mono ?_
            rintro r w3 ⟨rfl, b3⟩
            have BZ := Lib.hid (BY.out.next b3)
            clear b3 HSM
            clear xx0 xx1 xx2 xx3 xxl xxf HDx
            clear xj0 xj1 xj2 xj3 xjl xjf HDj
            go_wp2_with fail
            go_meet
            exact ⟨_, rfl, rfl, BZ.out⟩
          · have kb : (kd == 0) = false := by simp [kk]
            clear kk
            go_wp2_with fail
            go_meet
            exact ⟨_, rfl, rfl, BS.out⟩
        case rest =>
        as_aux_lemma =>
        clear s0 s1 s2 sl
        clear BS
        obtain ⟨wz, hw, rfl, hb⟩ := hcut
        subst hw
        have BS := Lib.hid hb
        clear hb HQ0
        obtain ⟨⟨X1, f1⟩, hq1⟩ : ∃ p, (if kd = 1 then armV d q else (X0, f0)) = p := ⟨_, rfl⟩
        have HR1 : Hid (Res X1 f1) := by
          show Res _ _
          by_cases kk : kd = 1
          · rw [if_pos kk] at hq1; have := res_arm (d := d) (n := q); rw [hq1] at this; exact this
          · rw [if_neg kk] at hq1; injection hq1 with q1 q2; subst q1 q2; exact HR0.out
        have s0 := BS.out.sb.c0
        have s1 := BS.out.sb.c1
        have s2 := BS.out.sb.c2
        have sl := BS.out.sb.lt
        go_upto_if 95 with fail
        go_cut [15] (fun x wx => TxRel w d gd gs gx kd s q X1 f1 x wx)
        case first =>
          as_aux_lemma =>
          by_cases kk : kd = 1
          · have kb : (kd == 1) = true := by simp [kk]
            rw [if_pos kk] at hq1
            obtain ⟨ad, cd, bd, ed, hBd, hDd⟩ := BS.out.vd.ex
            have xd0 := hBd.c0
            have xd1 := hBd.c1
            have xd2 := hBd.c2
            have xd3 := hBd.c3
            have xdl := hBd.lt
            have xdf := hBd.fz
            have HDd := Lib.hid hDd
            clear hBd hDd
            have HC := Lib.hid (conv_d (Arm_x _ d q _ HDd.out (fit_right HCK.out)) hq1)
            clear kk hq1
            go_wp2_with fail
            refine HC.out.mono ?_
            rintro r w2 ⟨a2, c2, b2', e2, rfl, h2, b2⟩
            have B2 := Lib.hid (BS.out.next b2)
            have H2 := Lib.hid h2
            clear HC h2 b2
            clear xd0 xd1 xd2 xd3 xdl xdf HDd
            clear s0 s1 s2 sl
            obtain ⟨ax, cx, bx, ex, hBx, hDx⟩ := B2.out.vx.ex
            have xx0 := hBx.c0
            have xx1 := hBx.c1
            have xx2 := hBx.c2
            have xx3 := hBx.c3
            have xxl := hBx.lt
            have xxf := hBx.fz
            have HDx := Lib.hid hDx
            clear hBx hDx
            have B3 := Lib.hid (B2.out.put H2.out)
            go_wp2_with fail
            go_meet
            exact ⟨_, rfl, rfl, B3.out⟩
          · have kb : (kd == 1) = false := by simp [kk]
            rw [if_neg kk] at hq1
            injection hq1 with q1 q2
            subst q1 q2
            clear kk
            go_wp2_with fail
            go_meet
            exact ⟨_, rfl, rfl, BS.out⟩
        case rest =>
        as_aux_lemma =>
        clear s0 s1 s2 sl
        clear BS hq1
        obtain ⟨wz1, hw, rfl, hb⟩ := hcut
        subst hw
        have BS := Lib.hid hb
        clear hb
        obtain ⟨⟨X2, f2⟩, hq2⟩ : ∃ p, (if kd = 2 then cutV d else (X1, f1)) = p := ⟨_, rfl⟩
        have HR2 : Hid (Res X2 f2) := by
          show Res _ _
          by_cases kk : kd = 2
          · rw [if_pos kk] at hq2; have := res_cut (d := d); rw [hq2] at this; exact this
          · rw [if_neg kk] at hq2; injection hq2 with q1 q2; subst q1 q2; exact HR1.out
        have s0 := BS.out.sb.c0
        have s1 := BS.out.sb.c1
        have s2 := BS.out.sb.c2
        have sl := BS.out.sb.lt
        go_upto_if 105 with fail
        go_cut [15] (fun x wx => TxRel w d gd gs gx kd s q X2 f2 x wx)
        case first =>
          as_aux_lemma =>
          by_cases kk : kd = 2
          · have kb : (kd == 2) = true := by simp [kk]
            rw [if_pos kk] at hq2
            obtain ⟨ad, cd, bd, ed, hBd, hDd⟩ := BS.out.vd.ex
            have xd0 := hBd.c0
            have xd1 := hBd.c1
            have xd2 := hBd.c2
            have xd3 := hBd.c3
            have xdl := hBd.lt
            have xdf := hBd.fz
            have HDd := Lib.hid hDd
            clear hBd hDd
            have HC := Lib.hid (conv_d (Cut_x _ d _ HDd.out (fit_right HCK.out)) hq2)
            clear kk hq2
            go_wp2_with fail
            refine HC.out.mono ?_
            rintro r w2 ⟨a2, c2, b2', e2, rfl, h2, b2⟩
            have B2 := Lib.hid (BS.out.next b2)
            have H2 := Lib.hid h2
            clear HC h2 b2
            clear xd0 xd1 xd2 xd3 xdl xdf HDd
            clear s0 s1 s2 sl
            obtain ⟨ax, cx, bx, ex, hBx, hDx⟩ := B2.out.vx.ex
            have xx0 := hBx.c0
            have xx1 := hBx.c1
            have xx2 := hBx.c2
            have xx3 := hBx.c3
            have xxl := hBx.lt
            have xxf := hBx.fz
            have HDx := Lib.hid hDx
            clear hBx hDx
            have B3 := Lib.hid (B2.out.put H2.out)
            go_wp2_with fail
            go_meet
            exact ⟨_, rfl, rfl, B3.out⟩
          · have kb : (kd == 2) = false := by simp [kk]
            rw [if_neg kk] at hq2
            injection hq2 with q1 q2
            subst q1 q2
            clear kk
            go_wp2_with fail
            go_meet
            exact ⟨_, rfl, rfl, BS.out⟩
        case rest =>
        as_aux_lemma =>
        clear s0 s1 s2 sl
        clear BS hq2
        obtain ⟨wz2, hw, rfl, hb⟩ := hcut
        subst hw
        have BS := Lib.hid hb
        clear hb
        obtain ⟨⟨X3, f3⟩, hq3⟩ : ∃ p, (if kd = 3 then stV d else (X2, f2)) = p := ⟨_, rfl⟩
        have HR3 : Hid (Res X3 f3) := by
          show Res _ _
          by_cases kk : kd = 3
          · rw [if_pos kk] at hq3; have := res_st (d := d); rw [hq3] at this; exact this
          · rw [if_neg kk] at hq3; injection hq3 with q1 q2; subst q1 q2; exact HR2.out
        have s0 := BS.out.sb.c0
        have s1 := BS.out.sb.c1
        have s2 := BS.out.sb.c2
        have sl := BS.out.sb.lt
        go_upto_if 113 with fail
        go_cut [15] (fun x wx => TxRel w d gd gs gx kd s q X3 f3 x wx)
        case first =>
          as_aux_lemma =>
          by_cases kk : kd = 3
          · have kb : (kd == 3) = true := by simp [kk]
            rw [if_pos kk] at hq3
            obtain ⟨ad, cd, bd, ed, hBd, hDd⟩ := BS.out.vd.ex
            have xd0 := hBd.c0
            have xd1 := hBd.c1
            have xd2 := hBd.c2
            have xd3 := hBd.c3
            have xdl := hBd.lt
            have xdf := hBd.fz
            have HDd := Lib.hid hDd
            clear hBd hDd
            have HC := Lib.hid (conv_d (Start_x _ d _ HDd.out (fit_right HCK.out)) hq3)
            clear kk hq3
            go_wp2_with fail
            refine HC.out.mono ?_
            rintro r w2 ⟨a2, c2, b2', e2, rfl, h2, b2⟩
            have B2 := Lib.hid (BS.out.next b2)
            have H2 := Lib.hid h2
            clear HC h2 b2
            clear xd0 xd1 xd2 xd3 xdl xdf HDd
            clear s0 s1 s2 sl
            obtain ⟨ax, cx, bx, ex, hBx, hDx⟩ := B2.out.vx.ex
            have xx0 := hBx.c0
            have xx1 := hBx.c1
            have xx2 := hBx.c2
            have xx3 := hBx.c3
            have xxl := hBx.lt
            have xxf := hBx.fz
            have HDx := Lib.hid hDx
            clear hBx hDx
            have B3 := Lib.hid (B2.out.put H2.out)
            go_wp2_with fail
            go_meet
            exact ⟨_, rfl, rfl, B3.out⟩
          · have kb : (kd == 3) = false := by simp [kk]
            rw [if_neg kk] at hq3
            injection hq3 with q1 q2
            subst q1 q2
            clear kk
            go_wp2_with fail
            go_meet
            exact ⟨_, rfl, rfl, BS.out⟩
        case rest =>
        as_aux_lemma =>
        clear s0 s1 s2 sl
        clear BS hq3
        obtain ⟨wz3, hw, rfl, hb⟩ := hcut
        subst hw
        have BS := Lib.hid hb
        clear hb
        obtain ⟨⟨X4, f4⟩, hq4⟩ : ∃ p, (if kd = 4 then fmV d else (X3, f3)) = p := ⟨_, rfl⟩
        have HR4 : Hid (Res X4 f4) := by
          show Res _ _
          by_cases kk : kd = 4
          · rw [if_pos kk] at hq4; have := res_fm (d := d); rw [hq4] at this; exact this
          · rw [if_neg kk] at hq4; injection hq4 with q1 q2; subst q1 q2; exact HR3.out
        have s0 := BS.out.sb.c0
        have s1 := BS.out.sb.c1
        have s2 := BS.out.sb.c2
        have sl := BS.out.sb.lt
        go_upto_if 121 with fail
        go_cut [15] (fun x wx => TxRel w d gd gs gx kd s q X4 f4 x wx)
        case first =>
          as_aux_lemma =>
          by_cases kk : kd = 4
          · have kb : (kd == 4) = true := by simp [kk]
            rw [if_pos kk] at hq4
            obtain ⟨ad, cd, bd, ed, hBd, hDd⟩ := BS.out.vd.ex
            have xd0 := hBd.c0
            have xd1 := hBd.c1
            have xd2 := hBd.c2
            have xd3 := hBd.c3
            have xdl := hBd.lt
            have xdf := hBd.fz
            have HDd := Lib.hid hDd
            clear hBd hDd
            have HC := Lib.hid (conv_d (Format_x _ d _ HDd.out (fit_right HCK.out)) hq4)
            have HQ4 := Lib.hid hq4
            clear kk hq4
            go_wp2_with fail
            refine HC.out.mono ?_
            rintro r w2 ⟨a2, c2, b2', e2, rfl, h2, b2⟩
            have B2 := Lib.hid (BS.out.next b2)
            have H2 := Lib.hid h2
            clear HC h2 b2
            clear xd0 xd1 xd2 xd3 xdl xdf HDd
            clear s0 s1 s2 sl
            obtain ⟨ax, cx, bx, ex, hBx, hDx⟩ := B2.out.vx.ex
            have xx0 := hBx.c0
            have xx1 := hBx.c1
            have xx2 := hBx.c2
            have xx3 := hBx.c3
            have xxl := hBx.lt
            have xxf := hBx.fz
            have HDx := Lib.hid hDx
            clear hBx hDx
            have B3 := Lib.hid (B2.out.put H2.out)
            have HC5 : Hid (∀ W v, Below w.heap.size w W → DAt W v d → Calls Tryd.prog 18 #[v] W fun r w' => ∃ a c b c2, r = .returned (.tuple #[.agg #[.slice a X4.secs.length c, .slice b X4.pend.length c2, .int .i64 X4.left, .bool X4.down], .int .i64 f4]) ∧ DAt w' (.agg #[.slice a X4.secs.length c, .slice b X4.pend.length c2, .int .i64 X4.left, .bool X4.down]) X4 ∧ Below W.heap.size W w') := by
              show ∀ W v, _
              intro W v hB hW
              exact conv_d (jk.format v d W hW (fit_right HCK.out) (HT.out.next hB)) HQ4.out
            obtain ⟨ad, cd, bd, ed, hBd, hDd⟩ := B3.out.vd.ex
            have xd0 := hBd.c0
            have xd1 := hBd.c1
            have xd2 := hBd.c2
            have xd3 := hBd.c3
            have xdl := hBd.lt
            have xdf := hBd.fz
            have HDd := Lib.hid hDd
            clear hBd hDd
            go_wp2_with fail
            refine (HC5.out _ _ B3.out.bel HDd.out).mono ?_
            rintro r w4 ⟨a4, c4, b4', e4, rfl, h4, b4⟩
            have Vy := Lib.hid (Vr.new (w := w) h4 (chain B3.out.bel b4).size 27)
            have BY := Lib.hid ((B3.out.next b4).next (Below.new1 (.cells #[.slice a4 X4.secs.length c4, .slice b4' X4.pend.length e4, .int .i64 X4.left, .bool X4.down] 27)))
            clear h4 b4
            clear xd0 xd1 xd2 xd3 xdl xdf HDd
            clear xx0 xx1 xx2 xx3 xxl xxf HDx
            obtain ⟨ax, cx, bx, ex, hBx, hDx⟩ := BY.out.vx.ex
            have xx0 := hBx.c0
            have xx1 := hBx.c1
            have xx2 := hBx.c2
            have xx3 := hBx.c3
            have xxl := hBx.lt
            have xxf := hBx.fz
            have HDx := Lib.hid hDx
            clear hBx hDx
            obtain ⟨aj, cj, bj, ej, hBj, hDj⟩ := Vy.out.ex
            have xj0 := hBj.c0
            have xj1 := hBj.c1
            have xj2 := hBj.c2
            have xj3 := hBj.c3
            have xjl := hBj.lt
            have xjf := hBj.fz
            have HDj := Lib.hid hDj
            clear hBj hDj
            have HSM := Lib.hid (Same_x _ _ X4 _ HDx.out HDj.out HR4.out.fit)
            go_wp2_with fail
            refine HSM.out.mono ?_
            rintro r w5 ⟨rfl, b5⟩
            have BZ := Lib.hid (BY.out.next b5)
            clear b5 HSM
            clear xx0 xx1 xx2 xx3 xxl xxf HDx
            clear xj0 xj1 xj2 xj3 xjl xjf HDj
            go_wp2_with fail
            go_meet
            exact ⟨_, rfl, rfl, BZ.out⟩
          · have kb : (kd == 4) = false := by simp [kk]
            rw [if_neg kk] at hq4
            injection hq4 with q1 q2
            subst q1 q2
            clear kk
            go_wp2_with fail
            go_meet
            exact ⟨_, rfl, rfl, BS.out⟩
        case rest =>
        as_aux_lemma =>
        clear s0 s1 s2 sl
        clear BS hq4
        obtain ⟨wz4, hw, rfl, hb⟩ := hcut
        subst hw
        have BS := Lib.hid hb
        clear hb
        obtain ⟨mn, hmn⟩ : ∃ m, (if 16 < s.size then 16 else s.size) = m := ⟨_, rfl⟩
        have mi : min (s.size : Int) 16 = (mn : Int) := by rw [← hmn]; split <;> omega
        have mi2 : (if (16 : Int) < (s.size : Int) then (16 : Int) else (s.size : Int)) = (mn : Int) := by rw [← hmn]; split <;> split <;> omega
        have mq : mn ≤ 16 ∧ mn ≤ s.size := by rw [← hmn]; split <;> omega
        have mq2 : (mn : Int) ≤ (s.size : Int) := by omega
        have mq3 : (0 : Int) ≤ (mn : Int) := by omega
        have MNS : Hid ((s.extract 0 mn).size = mn) := by show _ = _; rw [ByteArray.size_extract]; omega
        clear hmn
        obtain ⟨⟨X5, f5⟩, hq5⟩ : ∃ p, (if kd = 5 then wrV d q (s.extract 0 mn) else (X4, f4)) = p := ⟨_, rfl⟩
        have HR5 : Hid (Res X5 f5) := by
          show Res _ _
          by_cases kk : kd = 5
          · rw [if_pos kk] at hq5; have := res_wr (d := d) (a := q) (s := s.extract 0 mn); rw [hq5] at this; exact this
          · rw [if_neg kk] at hq5; injection hq5 with q1 q2; subst q1 q2; exact HR4.out
        have s0 := BS.out.sb.c0
        have s1 := BS.out.sb.c1
        have s2 := BS.out.sb.c2
        have sl := BS.out.sb.lt
        go_upto_if 143 with fail
        go_cut [15] (fun x wx => TxRel w d gd gs gx kd s q X5 f5 x wx)
        case first =>
          as_aux_lemma =>
          by_cases kk : kd = 5
          · have kb : (kd == 5) = true := by simp [kk]
            rw [if_pos kk] at hq5
            obtain ⟨ad, cd, bd, ed, hBd, hDd⟩ := BS.out.vd.ex
            have xd0 := hBd.c0
            have xd1 := hBd.c1
            have xd2 := hBd.c2
            have xd3 := hBd.c3
            have xdl := hBd.lt
            have xdf := hBd.fz
            have HDd := Lib.hid hDd
            clear hBd hDd
            have HQ5 := Lib.hid hq5
            have HCW : Hid (∀ W, DAt W (.agg #[.slice ad d.secs.length cd, .slice bd d.pend.length ed, .int .i64 d.left, .bool d.down]) d → Calls Tryd.prog 19 #[.agg #[.slice ad d.secs.length cd, .slice bd d.pend.length ed, .int .i64 d.left, .bool d.down], .int .i64 q, .string (s.extract 0 mn)] W fun r w' => ∃ a c b c2, r = .returned (.tuple #[.agg #[.slice a X5.secs.length c, .slice b X5.pend.length c2, .int .i64 X5.left, .bool X5.down], .int .i64 f5]) ∧ DAt w' (.agg #[.slice a X5.secs.length c, .slice b X5.pend.length c2, .int .i64 X5.left, .bool X5.down]) X5 ∧ Below W.heap.size W w') := by
              show ∀ W, _
              intro W hW
              exact conv_d (Write_x _ d q (s.extract 0 mn) W hW (fit_right HCK.out) OK3.out.2.2 (by rw [MNS.out]; omega)) HQ5.out
            clear kk hq5
            go_wp2_with fail
            have BR := Lib.hid (BS.out.next (Below.refl _ _).drew)
            refine wp_region_held_drew (S := fun w' => w'.cell? ⟨gd, 0, none⟩ = some (.slice ad d.secs.length cd) ∧ w'.cell? ⟨gd, 1, none⟩ = some (.slice bd d.pend.length ed) ∧ w'.cell? ⟨gd, 2, none⟩ = some (.int .i64 d.left) ∧ w'.cell? ⟨gd, 3, none⟩ = some (.bool d.down) ∧ w'.cell? ⟨gs, 1, none⟩ = some (.string s) ∧ w'.cell? ⟨gs, 2, none⟩ = some (.int .i64 q)) (by kernel_rfl) ?_ (fun hHeld => ?_)
            · exact ⟨xd0, xd1, xd2, xd3, s1, s2⟩
            refine takeN0 (v := ?_) (by kernel_rfl) (by kernel_rfl) (by kernel_rfl) (fun _ _ _ h => h) (by rfl) ?_ (by assumption) ?_
            rotate_left
            · intro wz hSw
              try dsimp only at hSw
              go_simp
              try with_reducible rfl
            try simp only [Act.put, List.setIfInBounds_toArray, List.set_cons_zero, List.set_cons_succ]
            refine takeN1 (v := ?_) (by kernel_rfl) (by kernel_rfl) (by kernel_rfl) (fun _ _ _ h => h) (by rfl) ?_ (by assumption) ?_
            rotate_left
            · intro wz hSw
              try dsimp only at hSw
              go_simp
              try with_reducible rfl
            try simp only [Act.put, List.setIfInBounds_toArray, List.set_cons_zero, List.set_cons_succ]
            refine takeN2 (v := ?_) (by kernel_rfl) (by kernel_rfl) (by kernel_rfl) (fun _ _ _ h => h) (by rfl) ?_ (by assumption) ?_
            rotate_left
            · intro wz hSw
              try dsimp only at hSw
              go_simp
              try with_reducible rfl
            try simp only [Act.put, List.setIfInBounds_toArray, List.set_cons_zero, List.set_cons_succ]
            refine takeN3 (v := ?_) (by kernel_rfl) (by kernel_rfl) (by kernel_rfl) (fun _ _ _ h => h) (by rfl) ?_ (by assumption) ?_
            rotate_left
            · intro wz hSw
              try dsimp only at hSw
              go_simp
              try with_reducible rfl
            try simp only [Act.put, List.setIfInBounds_toArray, List.set_cons_zero, List.set_cons_succ]
            refine takeN4 (v := ?_) (by kernel_rfl) (by kernel_rfl) (by kernel_rfl) (fun _ _ _ h => h) (by rfl) ?_ (by assumption) ?_
            rotate_left
            · intro wz hSw
              try dsimp only at hSw
              go_simp
              try with_reducible rfl
            try simp only [Act.put, List.setIfInBounds_toArray, List.set_cons_zero, List.set_cons_succ]
            refine takeN5 (v := ?_) (by kernel_rfl) (by kernel_rfl) (by kernel_rfl) (fun _ _ _ h => h) (by rfl) ?_ (by assumption) ?_
            rotate_left
            · intro wz hSw
              try dsimp only at hSw
              go_simp
              try with_reducible rfl
            try simp only [Act.put, List.setIfInBounds_toArray, List.set_cons_zero, List.set_cons_succ]
            refine takeN6 (v := ?_) (by kernel_rfl) (by kernel_rfl) (by kernel_rfl) (fun _ _ _ h => h) (by rfl) ?_ (by assumption) ?_
            rotate_left
            · intro wz hSw
              try dsimp only at hSw
              go_simp
              try with_reducible rfl
            try simp only [Act.put, List.setIfInBounds_toArray, List.set_cons_zero, List.set_cons_succ]
            refine takeN7 (v := ?_) (by kernel_rfl) (by kernel_rfl) (by kernel_rfl) (fun _ _ _ h => h) (by rfl) ?_ (by assumption) ?_
            rotate_left
            · intro wz hSw
              try dsimp only at hSw
              go_simp
              try with_reducible rfl
            try simp only [Act.put, List.setIfInBounds_toArray, List.set_cons_zero, List.set_cons_succ]
            refine takeN8 (v := ?_) (by kernel_rfl) (by kernel_rfl) (by kernel_rfl) (fun _ _ _ h => h) (by rfl) ?_ (by assumption) ?_
            rotate_left
            · intro wz hSw
              try dsimp only at hSw
              go_simp
              try with_reducible rfl
            try simp only [Act.put, List.setIfInBounds_toArray, List.set_cons_zero, List.set_cons_succ]
            refine takeN9 (v := ?_) (by kernel_rfl) (by kernel_rfl) (by kernel_rfl) (fun _ _ _ h => h) (by rfl) ?_ (by assumption) ?_
            rotate_left
            · intro wz hSw
              try dsimp only at hSw
              go_simp
              try with_reducible rfl
            try simp only [Act.put, List.setIfInBounds_toArray, List.set_cons_zero, List.set_cons_succ]
            refine comeN10 (by kernel_rfl) (by rfl) (fun K hK => ?_)
            go_simp
            (go_at_call 19; refine (HCW.out _ (HDd.out.next (Below.refl _ _).drew)).mono ?_; rintro r w2 ⟨a2, c2, b2', e2, rfl, h2, b2⟩)
            try go_wp2_with fail
            have B2 := Lib.hid (BR.out.next b2)
            have C2 := Lib.hid (fun (p : Addr) (hp : p.block < wz4.heap.size) => (((Below.refl wz4.heap.size wz4).drew).cell hp))
            have H2 := Lib.hid h2
            have K2 : Hid (w2.cell? ⟨gd, 0, none⟩ = some (.slice ad d.secs.length cd) ∧ w2.cell? ⟨gd, 1, none⟩ = some (.slice bd d.pend.length ed) ∧ w2.cell? ⟨gd, 2, none⟩ = some (.int .i64 d.left) ∧ w2.cell? ⟨gd, 3, none⟩ = some (.bool d.down) ∧ w2.cell? ⟨gs, 1, none⟩ = some (.string s) ∧ w2.cell? ⟨gs, 2, none⟩ = some (.int .i64 q)) := by
              have hl : ∀ g o, g < wz4.heap.size → w2.cell? ⟨g, o, none⟩ = wz4.cell? ⟨g, o, none⟩ := fun g o hg => b2.cell (p := ⟨g, o, none⟩) hg
              exact ⟨by rw [hl _ _ xdl]; exact xd0, by rw [hl _ _ xdl]; exact xd1, by rw [hl _ _ xdl]; exact xd2, by rw [hl _ _ xdl]; exact xd3, by rw [hl _ _ sl]; exact s1, by rw [hl _ _ sl]; exact s2⟩
            clear h2 b2 C2
            clear xd0 xd1 xd2 xd3 xdl xdf HDd
            clear s0 s1 s2 sl

            refine hK.out _ _ ?_ (fun hHeld => ?_)
            · exact K2.out
            clear hK K
            try simp only [Act.put, List.setIfInBounds_toArray, List.set_cons_zero, List.set_cons_succ]
            refine takeN11 (v := ?_) (by kernel_rfl) (by kernel_rfl) (by kernel_rfl) (fun _ _ _ h => h) (by rfl) ?_ (by assumption) ?_
            rotate_left
            · intro wz hSw
              try dsimp only at hSw
              go_simp
              try with_reducible rfl
            try simp only [Act.put, List.setIfInBounds_toArray, List.set_cons_zero, List.set_cons_succ]
            refine takeN12 (v := ?_) (by kernel_rfl) (by kernel_rfl) (by kernel_rfl) (fun _ _ _ h => h) (by rfl) ?_ (by assumption) ?_
            rotate_left
            · intro wz hSw
              try dsimp only at hSw
              go_simp
              try with_reducible rfl
            try simp only [Act.put, List.setIfInBounds_toArray, List.set_cons_zero, List.set_cons_succ]
            refine takeN13 (v := ?_) (by kernel_rfl) (by kernel_rfl) (by kernel_rfl) (fun _ _ _ h => h) (by rfl) ?_ (by assumption) ?_
            rotate_left
            · intro wz hSw
              try dsimp only at hSw
              go_simp
              try with_reducible rfl
            try simp only [Act.put, List.setIfInBounds_toArray, List.set_cons_zero, List.set_cons_succ]
            refine comeN14 (by kernel_rfl) (by rfl) (fun K hK => ?_)
            obtain ⟨ax, cx, bx, ex, hBx, hDx⟩ := B2.out.vx.ex
            have xx0 := hBx.c0
            have xx1 := hBx.c1
            have xx2 := hBx.c2
            have xx3 := hBx.c3
            have xxl := hBx.lt
            have xxf := hBx.fz
            have HDx := Lib.hid hDx
            clear hBx hDx
            go_simp
            have B3 := Lib.hid (B2.out.put H2.out)
            have PK : Hid (∀ g o, g ≠ gx → (put4 w2 gx (.slice a2 X5.secs.length c2) (.slice b2' X5.pend.length e2) X5.left X5.down).cell? ⟨g, o, none⟩ = w2.cell? ⟨g, o, none⟩) := fun g o hg => put4_other _ _ _ _ _ (.inl hg)

            refine hK.out _ _ ?_ (fun hHeld => ?_)
            · exact ⟨(PK.out gd 0 B2.out.n1.symm).trans K2.out.1, (PK.out gd 1 B2.out.n1.symm).trans K2.out.2.1, (PK.out gd 2 B2.out.n1.symm).trans K2.out.2.2.1, (PK.out gd 3 B2.out.n1.symm).trans K2.out.2.2.2.1, (PK.out gs 1 B2.out.n2.symm).trans K2.out.2.2.2.2.1, (PK.out gs 2 B2.out.n2.symm).trans K2.out.2.2.2.2.2⟩
            clear hK K
            try simp only [Act.put, List.setIfInBounds_toArray, List.set_cons_zero, List.set_cons_succ]
            refine takeN15 (v := ?_) (by kernel_rfl) (by kernel_rfl) (by kernel_rfl) (fun _ _ _ h => h) (by rfl) ?_ (by assumption) ?_
            rotate_left
            · intro wz hSw
              try dsimp only at hSw
              go_simp
              try with_reducible rfl
            try simp only [Act.put, List.setIfInBounds_toArray, List.set_cons_zero, List.set_cons_succ]
            refine wpAnyH_done (by kernel_rfl) ?_ _
            clear xx0 xx1 xx2 xx3 xxl xxf HDx
            go_wp2_with fail
            go_meet
            exact ⟨_, rfl, rfl, B3.out⟩
          · have kb : (kd == 5) = false := by simp [kk]
            rw [if_neg kk] at hq5
            injection hq5 with q1 q2
            subst q1 q2
            clear kk
            go_wp2_with fail
            go_meet
            exact ⟨_, rfl, rfl, BS.out⟩
        case rest =>
        as_aux_lemma =>
        clear s0 s1 s2 sl
        clear BS hq5
        obtain ⟨wz5, hw, rfl, hb⟩ := hcut
        subst hw
        have BS := Lib.hid hb
        clear hb
        obtain ⟨u, hu⟩ : ∃ b, (decide (f5 = 0) || (decide (f5 = 8) && decide (0 < X5.secs.length))) = b := ⟨_, rfl⟩
        have HU := Lib.hid hu
        go_upto_region 31 with fail
        go_cut [169] (fun x wx => TuRel w d gd gs gx kd s q X5 u x wx)
        case first =>
          as_aux_lemma =>
          obtain ⟨ax, cx, bx, ex, hBx, hDx⟩ := BS.out.vx.ex
          have xx0 := hBx.c0
          have xx1 := hBx.c1
          have xx2 := hBx.c2
          have xx3 := hBx.c3
          have xxl := hBx.lt
          have xxf := hBx.fz
          have HDx := Lib.hid hDx
          clear hBx hDx
          clear hu
          by_cases q0 : f5 = 0
          · have q1 : (f5 == 0) = true := by simp [q0]
            have q2 : decide (f5 = 0) = true := decide_eq_true q0
            clear q0
            go_wp2_with fail
            go_meet
            exact ⟨_, rfl, by rw [← HU.out, q2]; rfl, BS.out⟩
          · have q1 : (f5 == 0) = false := by simp [q0]
            have q2 : decide (f5 = 0) = false := decide_eq_false q0
            by_cases q3 : f5 = 8
            · have q4 : (f5 == 8) = true := by simp [q3]
              have q5 : decide (f5 = 8) = true := decide_eq_true q3
              by_cases q6 : 0 < X5.secs.length
              · have q7 : (0 : Int) < (X5.secs.length : Int) := by omega
                have q8 : decide (0 < X5.secs.length) = true := decide_eq_true q6
                have Q9 := Lib.hid q8
                clear q0 q3 q8
                go_wp2_with fail
                go_meet
                exact ⟨_, rfl, by rw [← HU.out, q2, q5, Q9.out]; rfl, BS.out⟩
              · have q7 : ¬ (0 : Int) < (X5.secs.length : Int) := by omega
                have q8 : decide (0 < X5.secs.length) = false := decide_eq_false q6
                have Q9 := Lib.hid q8
                clear q0 q3 q8
                go_wp2_with fail
                go_meet
                exact ⟨_, rfl, by rw [← HU.out, q2, q5, Q9.out]; rfl, BS.out⟩
            · have q4 : (f5 == 8) = false := by simp [q3]
              have q5 : decide (f5 = 8) = false := decide_eq_false q3
              clear q0 q3
              go_wp2_with fail
              go_meet
              exact ⟨_, rfl, by rw [← HU.out, q2, q5]; rfl, BS.out⟩
        case rest =>
        as_aux_lemma =>
        clear BS hu
        obtain ⟨wu, hw, rfl, hb⟩ := hcut
        subst hw
        have BS := Lib.hid hb
        clear hb
        obtain ⟨d6, hd6⟩ : ∃ x : D, (if u = true then X5 else d) = x := ⟨_, rfl⟩
        have HCK6 : Hid (checkB d6 = true) := by
          show _ = _
          rw [← hd6]
          split
          · next k =>
            have h := HU.out
            rw [k, Bool.or_eq_true, Bool.and_eq_true, decide_eq_true_iff, decide_eq_true_iff, decide_eq_true_iff] at h
            exact HR5.out.upd h
          · exact HCK.out
        go_upto_if 169 with fail
        go_cut [12] (fun x wx => TzRel w gd d6 (k : Int) x wx)
        case first =>
          as_aux_lemma =>
          cases u with
          | false =>
            rw [if_neg (by decide)] at hd6
            subst hd6
            go_wp2_with fail
            go_meet
            exact ⟨_, rfl, rfl, BS.out.vd, BS.out.bel⟩
          | true =>
            rw [if_pos rfl] at hd6
            subst hd6
            obtain ⟨ax, cx, bx, ex, hBx, hDx⟩ := BS.out.vx.ex
            have xx0 := hBx.c0
            have xx1 := hBx.c1
            have xx2 := hBx.c2
            have xx3 := hBx.c3
            have xxl := hBx.lt
            obtain ⟨ad, cd, bd, ed, hBd, hDd⟩ := BS.out.vd.ex
            have xd0 := hBd.c0
            have xd1 := hBd.c1
            have xd2 := hBd.c2
            have xd3 := hBd.c3
            have xdl := hBd.lt
            have xdf := hBd.fz
            have HDd := Lib.hid hDd
            clear hBd hDd
            have R : Hid (TzRel w gd X5 (k : Int) (.int .i64 (k : Int)) (put4 wu gd (.slice ax X5.secs.length cx) (.slice bx X5.pend.length ex) X5.left X5.down)) := ⟨_, rfl, rfl, BS.out.vd.put hDx, below_put BS.out.bel BS.out.vd.lo _ _ _ _⟩
            clear hBx hDx
            go_wp2_with fail
            go_meet
            exact R.out
        case rest =>
        as_aux_lemma =>
        clear BS HCK hd6 HU
        obtain ⟨wt, hw, rfl, hV, hB⟩ := hcut
        subst hw
        have Vd := Lib.hid hV
        have BB := Lib.hid hB
        clear hV hB
        obtain ⟨⟨l6, e6⟩, hl6⟩ : ∃ p, allV d6 = p := ⟨_, rfl⟩
        have H6 := Lib.hid hl6
        have fw6 := Lib.hid (fit_right HCK6.out)
        have len6 : l6.length ≤ 500 := all_few hl6
        have LEN6 : Hid (l6.length ≤ 1099511627776) := by show _ ≤ _; omega
        clear hl6
        obtain ⟨ad, cd, bd, ed, hBd, hDd⟩ := Vd.out.ex
        have xd0 := hBd.c0
        have xd1 := hBd.c1
        have xd2 := hBd.c2
        have xd3 := hBd.c3
        have xdl := hBd.lt
        have xdf := hBd.fz
        have HDd := Lib.hid hDd
        clear hBd hDd
        have HC1 := Lib.hid (conv_all (All_x _ d6 _ HDd.out fw6.out) H6.out)
        go_wp2_with fail
        refine HC1.out.mono ?_
        rintro r w1 ⟨a1, c1, rfl, h1, b1⟩
        have V1 := Lib.hid (Vd.out.next b1)
        have B1 := Lib.hid (chain BB.out b1)
        have L1 := Lib.hid h1
        clear h1 b1 HC1 Vd BB
        clear xd0 xd1 xd2 xd3 xdl xdf HDd
        obtain ⟨ad, cd, bd, ed, hBd, hDd⟩ := V1.out.ex
        have xd0 := hBd.c0
        have xd1 := hBd.c1
        have xd2 := hBd.c2
        have xd3 := hBd.c3
        have xdl := hBd.lt
        have xdf := hBd.fz
        have HDd := Lib.hid hDd
        clear hBd hDd
        have HC2 := Lib.hid (conv_all (jk.all _ d6 _ HDd.out fw6.out) H6.out)
        go_wp2_with fail
        refine HC2.out.mono ?_
        rintro r w2 ⟨a2, c2, rfl, h2, b2⟩
        have V2 := Lib.hid (V1.out.next b2)
        have B2 := Lib.hid (chain B1.out b2)
        have M1 := Lib.hid (L1.out.next b2)
        have M2 := Lib.hid h2
        clear h2 b2 HC2 V1 B1 L1
        clear xd0 xd1 xd2 xd3 xdl xdf HDd
        obtain ⟨ad, cd, bd, ed, hBd, hDd⟩ := V2.out.ex
        have xd0 := hBd.c0
        have xd1 := hBd.c1
        have xd2 := hBd.c2
        have xd3 := hBd.c3
        have xdl := hBd.lt
        have xdf := hBd.fz
        have HDd := Lib.hid hDd
        clear hBd hDd
        have HC3 : Hid (Calls Tryd.prog 22 #[.agg #[.slice ad d6.secs.length cd, .slice bd d6.pend.length ed, .int .i64 d6.left, .bool d6.down]] w2 fun r w' => r = .returned (.tuple #[.int .i64 (l6.length : Int), .int .i64 e6]) ∧ Below w2.heap.size w2 w') := by
          have h := jk.len _ d6 w2 HDd.out fw6.out
          rw [H6.out] at h
          exact h
        go_wp2_with fail
        refine HC3.out.mono ?_
        rintro r w3 ⟨rfl, b3⟩
        have V3 := Lib.hid (V2.out.next b3)
        have B3 := Lib.hid (chain B2.out b3)
        have N1 := Lib.hid (M1.out.next b3)
        have N2 := Lib.hid (M2.out.next b3)
        clear b3 HC3 V2 B2 M1 M2
        clear xd0 xd1 xd2 xd3 xdl xdf HDd
        obtain ⟨ad, cd, bd, ed, hBd, hDd⟩ := V3.out.ex
        have xd0 := hBd.c0
        have xd1 := hBd.c1
        have xd2 := hBd.c2
        have xd3 := hBd.c3
        have xdl := hBd.lt
        have xdf := hBd.fz
        have HDd := Lib.hid hDd
        clear hBd hDd
        obtain ⟨⟨tv, te⟩, hget⟩ : ∃ p, getV d6 at_ = p := ⟨_, rfl⟩
        have HGT := Lib.hid hget
        have HC4 : Hid (Calls Tryd.prog 23 #[.agg #[.slice ad d6.secs.length cd, .slice bd d6.pend.length ed, .int .i64 d6.left, .bool d6.down], .int .i64 at_] w3 fun r w' => r = .returned (.tuple #[.string tv, .int .i64 te]) ∧ Below w3.heap.size w3 w') := by
          have h := jk.get _ d6 at_ w3 HDd.out fw6.out HAT.out
          rw [hget] at h
          exact h
        clear hget
        go_wp2_with fail
        refine HC4.out.mono ?_
        rintro r w4 ⟨rfl, b4⟩
        have V4 := Lib.hid (V3.out.next b4)
        have B4 := Lib.hid (chain B3.out b4)
        have K1 := Lib.hid (N1.out.next b4)
        have K2 := Lib.hid (N2.out.next b4)
        clear b4 HC4 V3 B3 N1 N2
        clear xd0 xd1 xd2 xd3 xdl xdf HDd
        have HSM := Lib.hid (same_b (t := true) K1.out K2.out LEN6.out LEN6.out (decide_eq_true rfl))
        go_wp2_with fail
        refine HSM.out.mono ?_
        rintro r w5 ⟨rfl, b5⟩
        have V5 := Lib.hid (V4.out.next b5)
        have B5 := Lib.hid (chain B4.out b5)
        have J1 := Lib.hid (K1.out.next b5)
        clear b5 HSM V4 B4 K1 K2
        have DONE_ : Hid (TeRel l w gd (.int .i64 ((k : Int) + 1)) w5) := ⟨k + 1, d6, by omega, by congr 1, V5.out, HCK6.out, B5.out⟩
        rcases get_cases HGT.out H6.out with ⟨he, rfl, rfl⟩ | ⟨rfl, hi, rfl, rfl⟩ | ⟨rfl, i, x, rfl, hx, rfl, rfl⟩
        · have q1 : (e6 == 0) = false := by simpa using he
          have q2 : (e6 != 0) = true := by simpa using he
          clear he
          go_wp2_with fail
          all_goals go_roundw
          all_goals first | exact DONE_.out | (simp [intOf]; omega)
        · rcases hi with hi | hi
          · go_wp2_with fail
            go_roundw
            case rel => exact DONE_.out
            case measure => simp [intOf]; omega
          · have hi2 : ¬ at_ < 0 := by omega
            go_wp2_with fail
            go_roundw
            case rel => exact DONE_.out
            case measure => simp [intOf]; omega
        · obtain ⟨a', c', e', hg⟩ := lat_at J1.out
          injection e' with e1 _ e3
          subst e1
          subst e3
          obtain ⟨g, off, rfl, g1, g2⟩ := hg.out i x hx
          have i1 : (i : Int) < (l6.length : Int) := by have := (List.getElem?_eq_some_iff.1 hx).1; omega
          have i0 : (0 : Int) ≤ (i : Int) := by omega
          have i2 : ¬ (i : Int) < 0 := by omega
          have i3 : ¬ (l6.length : Int) ≤ (i : Int) := by omega
          clear hx hg
          go_wp2_with fail
          go_roundw
          case rel => exact DONE_.out
          case measure => simp [intOf]; omega

end Go.Proofs.YtemldlhhlneleaaDoor.Jn
