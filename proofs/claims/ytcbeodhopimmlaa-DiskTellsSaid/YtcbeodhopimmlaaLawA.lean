/-
  What the laws of layer 7 ask of the program (DiskOk); few, right, contents, same.
-/
import Derived.Test.YtcbeodhopimmlaaRefG
namespace Go.Proofs.Ytcbeodhopimmlaa
open Go.RowKit Dk

/-- THE PROGRAM's CONTRACTS. -/
structure DiskOk : Prop where
  new : ∀ (n : Int) (w : World), I64 n → Calls Try.prog 10 #[.int .i64 n] w fun r w' => ∃ x, r = .returned (.tuple #[x, .int .i64 (newV n).2]) ∧ DAt w' x (newV n).1 ∧ Below w.heap.size w w'
  check : ∀ (v : Value) (d : D) (w : World), DAt w v d → Fit d → Calls Try.prog 13 #[v] w fun r w' => r = .returned (.int .i64 (chk d)) ∧ Below w.heap.size w w'
  read : ∀ (v : Value) (d : D) (n : Int) (w : World), DAt w v d → Fit d → I64 n → Calls Try.prog 15 #[v, .int .i64 n] w fun r w' => r = .returned (.tuple #[.string (rdV d n).1, .int .i64 (rdV d n).2]) ∧ Below w.heap.size w w'
  write : ∀ (v : Value) (d : D) (n : Int) (s : B) (w : World), DAt w v d → Fit d → I64 n → s.size ≤ 9223372036854775807 → Calls Try.prog 17 #[v, .int .i64 n, .string s] w fun r w' => ∃ x, r = .returned (.tuple #[x, .int .i64 (wrV d n s).2]) ∧ DAt w' x (wrV d n s).1 ∧ Below w.heap.size w w'
  flush : ∀ (v : Value) (d : D) (w : World), DAt w v d → Fit d → Calls Try.prog 19 #[v] w fun r w' => ∃ x, r = .returned (.tuple #[x, .int .i64 (flV d).2]) ∧ DAt w' x (flV d).1 ∧ Below w.heap.size w w'
  arm : ∀ (v : Value) (d : D) (n : Int) (w : World), DAt w v d → Fit d → I64 n → Calls Try.prog 21 #[v, .int .i64 n] w fun r w' => ∃ x, r = .returned (.tuple #[x, .int .i64 (armV d n).2]) ∧ DAt w' x (armV d n).1 ∧ Below w.heap.size w w'
  cut : ∀ (v : Value) (d : D) (w : World), DAt w v d → Fit d → Calls Try.prog 23 #[v] w fun r w' => ∃ x, r = .returned (.tuple #[x, .int .i64 (cutV d).2]) ∧ DAt w' x (cutV d).1 ∧ Below w.heap.size w w'
  start : ∀ (v : Value) (d : D) (w : World), DAt w v d → Fit d → Calls Try.prog 25 #[v] w fun r w' => ∃ x, r = .returned (.tuple #[x, .int .i64 (stV d).2]) ∧ DAt w' x (stV d).1 ∧ Below w.heap.size w w'

/-- a right disk fits -/
theorem fit_right {d : D} (h : checkB d = true) : Fit d := by
  obtain ⟨h1, h2, h3, -⟩ := check_iff.1 h
  refine ⟨by omega, by omega, by unfold I64; omega, fun p hp => ?_, fun s hs => by rw [h2 s hs]; decide, fun p hp => by rw [(h3 p hp).2.2]; decide⟩
  have := h3 p hp
  unfold I64
  omega
theorem fit_zero : Fit D0 := ⟨Nat.zero_le _, Nat.zero_le _, (by unfold I64; decide), fun p hp => absurd hp (List.not_mem_nil), fun s hs => absurd hs (List.not_mem_nil), fun p hp => absurd hp (List.not_mem_nil)⟩

/-- what is true of a disk that comes in, however long -/
structure FitW (d : D) : Prop where
  left : I64 d.left
  at_ : ∀ p ∈ d.pend, I64 p.1
  s1 : ∀ s ∈ d.secs, s.size ≤ 9223372036854775807
  s2 : ∀ p ∈ d.pend, p.2.size ≤ 9223372036854775807
theorem FitW.fit {d : D} (h : FitW d) (h1 : d.secs.length ≤ 1099511627776) (h2 : d.pend.length ≤ 1099511627776) : Fit d := ⟨h1, h2, h.left, h.at_, h.s1, h.s2⟩

/-! few, right -/
def fewB (d : D) : Bool := decide ((d.secs.length ≤ 40 ∨ 512 < d.secs.length) ∧ (d.pend.length ≤ 60 ∨ 512 ≤ d.pend.length) ∧ d.secs.length ≤ 600 ∧ d.pend.length ≤ 600)
set_option maxHeartbeats 6400000 in
theorem few_x (v : Value) (d : D) (w : World) (h : DAt w v d) :
    Calls Try.prog 9 #[v] w fun r w' => r = .returned (.bool (fewB d)) ∧ Below w.heap.size w w' := by
  obtain ⟨a, c, b, c2, rfl, -, -, -, -⟩ := h.form
  obtain ⟨n, hn⟩ : ∃ n, d.secs.length = n := ⟨_, rfl⟩
  obtain ⟨m, hm⟩ : ∃ m, d.pend.length = m := ⟨_, rfl⟩
  have hv0 : Hid (fewB d = decide ((n ≤ 40 ∨ 512 < n) ∧ (m ≤ 60 ∨ 512 ≤ m) ∧ n ≤ 600 ∧ m ≤ 600)) := by show _ = _; unfold fewB; rw [hn, hm]
  rw [hn, hm]
  clear h hn hm
  by_cases n1 : n ≤ 40
  · have f1 : (n : Int) ≤ 40 := by omega
    have f3 : (n : Int) ≤ 600 := by omega
    by_cases m1 : m ≤ 60
    · have g1 : (m : Int) ≤ 60 := by omega
      have g3 : (m : Int) ≤ 600 := by omega
      have hv : Hid (fewB d = true) := by show _ = _; rw [hv0.out]; exact decide_eq_true (by omega)
      go_enter Try.func9, Try.ntmps9
      go_wp2_with fail
      go_ret
      exact ⟨by rw [hv.out]; try rfl, Below.new1 _⟩
    have g1 : ¬ (m : Int) ≤ 60 := by omega
    by_cases m2 : m < 512
    · have g2 : ¬ 512 ≤ (m : Int) := by omega
      have hv : Hid (fewB d = false) := by show _ = _; rw [hv0.out]; exact decide_eq_false (by omega)
      go_enter Try.func9, Try.ntmps9
      go_wp2_with fail
      go_ret
      exact ⟨by rw [hv.out]; try rfl, Below.new1 _⟩
    have g2 : 512 ≤ (m : Int) := by omega
    by_cases m3 : m ≤ 600
    · have g3 : (m : Int) ≤ 600 := by omega
      have hv : Hid (fewB d = true) := by show _ = _; rw [hv0.out]; exact decide_eq_true (by omega)
      go_enter Try.func9, Try.ntmps9
      go_wp2_with fail
      go_ret
      exact ⟨by rw [hv.out]; try rfl, Below.new1 _⟩
    have g3 : ¬ (m : Int) ≤ 600 := by omega
    have hv : Hid (fewB d = false) := by show _ = _; rw [hv0.out]; exact decide_eq_false (by omega)
    go_enter Try.func9, Try.ntmps9
    go_wp2_with fail
    go_ret
    exact ⟨by rw [hv.out]; try rfl, Below.new1 _⟩
  have f1 : ¬ (n : Int) ≤ 40 := by omega
  by_cases n2 : n ≤ 512
  · have f2 : ¬ 512 < (n : Int) := by omega
    have hv : Hid (fewB d = false) := by show _ = _; rw [hv0.out]; exact decide_eq_false (by omega)
    go_enter Try.func9, Try.ntmps9
    go_wp2_with fail
    go_ret
    exact ⟨by rw [hv.out]; try rfl, Below.new1 _⟩
  have f2 : 512 < (n : Int) := by omega
  by_cases n3 : n ≤ 600
  · have f3 : (n : Int) ≤ 600 := by omega
    by_cases m1 : m ≤ 60
    · have g1 : (m : Int) ≤ 60 := by omega
      have g3 : (m : Int) ≤ 600 := by omega
      have hv : Hid (fewB d = true) := by show _ = _; rw [hv0.out]; exact decide_eq_true (by omega)
      go_enter Try.func9, Try.ntmps9
      go_wp2_with fail
      go_ret
      exact ⟨by rw [hv.out]; try rfl, Below.new1 _⟩
    have g1 : ¬ (m : Int) ≤ 60 := by omega
    by_cases m2 : m < 512
    · have g2 : ¬ 512 ≤ (m : Int) := by omega
      have hv : Hid (fewB d = false) := by show _ = _; rw [hv0.out]; exact decide_eq_false (by omega)
      go_enter Try.func9, Try.ntmps9
      go_wp2_with fail
      go_ret
      exact ⟨by rw [hv.out]; try rfl, Below.new1 _⟩
    have g2 : 512 ≤ (m : Int) := by omega
    by_cases m3 : m ≤ 600
    · have g3 : (m : Int) ≤ 600 := by omega
      have hv : Hid (fewB d = true) := by show _ = _; rw [hv0.out]; exact decide_eq_true (by omega)
      go_enter Try.func9, Try.ntmps9
      go_wp2_with fail
      go_ret
      exact ⟨by rw [hv.out]; try rfl, Below.new1 _⟩
    have g3 : ¬ (m : Int) ≤ 600 := by omega
    have hv : Hid (fewB d = false) := by show _ = _; rw [hv0.out]; exact decide_eq_false (by omega)
    go_enter Try.func9, Try.ntmps9
    go_wp2_with fail
    go_ret
    exact ⟨by rw [hv.out]; try rfl, Below.new1 _⟩
  have f3 : ¬ (n : Int) ≤ 600 := by omega
  by_cases m1 : m ≤ 60
  · have g1 : (m : Int) ≤ 60 := by omega
    have hv : Hid (fewB d = false) := by show _ = _; rw [hv0.out]; exact decide_eq_false (by omega)
    go_enter Try.func9, Try.ntmps9
    go_wp2_with fail
    go_ret
    exact ⟨by rw [hv.out]; try rfl, Below.new1 _⟩
  have g1 : ¬ (m : Int) ≤ 60 := by omega
  by_cases m2 : m < 512
  · have g2 : ¬ 512 ≤ (m : Int) := by omega
    have hv : Hid (fewB d = false) := by show _ = _; rw [hv0.out]; exact decide_eq_false (by omega)
    go_enter Try.func9, Try.ntmps9
    go_wp2_with fail
    go_ret
    exact ⟨by rw [hv.out]; try rfl, Below.new1 _⟩
  have g2 : 512 ≤ (m : Int) := by omega
  have hv : Hid (fewB d = false) := by show _ = _; rw [hv0.out]; exact decide_eq_false (by omega)
  go_enter Try.func9, Try.ntmps9
  go_wp2_with fail
  go_ret
  exact ⟨by rw [hv.out]; try rfl, Below.new1 _⟩
def okB (d : D) : Bool := decide (d.secs.length ≤ 40 ∧ d.pend.length ≤ 60) && (checkB d && !d.down)
theorem ok_iff {d : D} : okB d = true ↔ (d.secs.length ≤ 40 ∧ d.pend.length ≤ 60) ∧ checkB d = true ∧ d.down = false := by
  unfold okB
  rw [Bool.and_eq_true, Bool.and_eq_true, decide_eq_true_iff, Bool.not_eq_true']
set_option maxHeartbeats 6400000 in
theorem right_x (v : Value) (d : D) (w : World) (h : DAt w v d) (hf : FitW d) :
    Calls Try.prog 27 #[v] w fun r w' => r = .returned (.bool (okB d)) ∧ Below w.heap.size w w' := by
  obtain ⟨a, c, b, c2, rfl, -, -, -, -⟩ := h.form
  obtain ⟨dl, hdl⟩ : ∃ x, d.left = x := ⟨_, rfl⟩
  obtain ⟨dd, hdd⟩ : ∃ x, d.down = x := ⟨_, rfl⟩
  rw [hdl, hdd] at h
  have HC0 := Lib.hid (fun (q : d.secs.length ≤ 40 ∧ d.pend.length ≤ 60) => Check_x _ d _ (h.next (Below.new1 (.cells #[.slice a d.secs.length c, .slice b d.pend.length c2, .int .i64 dl, .bool dd] 25))) (hf.fit (by omega) (by omega)))
  rw [hdl, hdd]
  have HDN := Lib.hid hdd
  clear h hf hdl hdd
  by_cases t1 : 40 < d.secs.length
  · have f1 : ¬ (d.secs.length : Int) ≤ 40 := by omega
    have hv : Hid (okB d = false) := by show _ = _; rw [← Bool.not_eq_true, ok_iff]; intro h; omega
    go_enter Try.func27, Try.ntmps27
    go_wp2_with fail
    go_ret
    exact ⟨by rw [hv.out]; try rfl, Below.new1 _⟩
  have f1 : (d.secs.length : Int) ≤ 40 := by omega
  by_cases t2 : 60 < d.pend.length
  · have f2 : ¬ (d.pend.length : Int) ≤ 60 := by omega
    have hv : Hid (okB d = false) := by show _ = _; rw [← Bool.not_eq_true, ok_iff]; intro h; omega
    go_enter Try.func27, Try.ntmps27
    go_wp2_with fail
    go_ret
    exact ⟨by rw [hv.out]; try rfl, Below.new1 _⟩
  have f2 : (d.pend.length : Int) ≤ 60 := by omega
  have HC := Lib.hid (HC0.out ⟨by omega, by omega⟩)
  clear HC0
  have hv0 : Hid (okB d = (checkB d && !d.down)) := by show _ = _; unfold okB; rw [decide_eq_true (show d.secs.length ≤ 40 ∧ d.pend.length ≤ 60 by omega), Bool.true_and]
  obtain ⟨cb, hcb⟩ : ∃ x, checkB d = x := ⟨_, rfl⟩
  have HCB := Lib.hid hcb
  clear hcb
  go_enter Try.func27, Try.ntmps27
  go_wp2_with fail
  refine HC.out.mono ?_
  rintro r w1 ⟨rfl, b1⟩
  have x3 := ((Bx.new w (.slice a d.secs.length c) (.slice b d.pend.length c2) dl dd 25).next b1).c3
  have xl := ((Bx.new w (.slice a d.secs.length c) (.slice b d.pend.length c2) dl dd 25).next b1).lt
  have B1 := Lib.hid (chain (Below.new1 _) b1)
  clear b1 HC
  cases cb with
  | false =>
    have hc : chk d = 1 := chk_no HCB.out
    have hv : Hid (okB d = false) := by show _ = _; rw [hv0.out, HCB.out]; rfl
    rw [hc]
    clear hc
    go_wp2_with fail
    go_ret
    exact ⟨by rw [hv.out]; try rfl, B1.out⟩
  | true =>
    have hc : chk d = 0 := chk_yes HCB.out
    have hv : Hid (okB d = !dd) := by show _ = _; rw [hv0.out, HCB.out, HDN.out]; rfl
    rw [hc]
    clear hc
    go_wp2_with fail
    go_ret
    exact ⟨by rw [hv.out]; try rfl, B1.out⟩

/-! what is read of all sectors -/
def view (d : D) : List B := perf d.secs d.pend
structure Ct (d : D) (k : Nat) (sv pv : Value) (w : World) (v : Value) (wr : World) : Prop where
  own : wr.ownsRow (w.heap.size + 1) 9 1 v k (stk (view d) k)
  bx : Bx sv pv d.left d.down w.heap.size wr
  below : Below w.heap.size w wr
def CtRel (d : D) (sv pv : Value) (w : World) (v i : Value) (wr : World) : Prop := ∃ (k : Nat) (la : Option Addr) (lc : Nat), k ≤ d.secs.length ∧ i = .int .i64 (k : Int) ∧ v = .slice la k lc ∧ Ct d k sv pv w (.slice la k lc) wr

set_option maxHeartbeats 6400000 in
set_option maxRecDepth 100000 in
theorem contents_x (ok : DiskOk) (v : Value) (d : D) (w : World) (h : DAt w v d) (hr : checkB d = true) (hd : d.down = false) :
    Calls Try.prog 28 #[v] w fun r w' => ∃ x, r = .returned (.tuple #[x, .bool true]) ∧ SAt w' x (strs (view d)) ∧ Below w.heap.size w w' := by
  obtain ⟨a, c, b, c2, rfl, -, -, HS, HP⟩ := h.form
  have HD := Lib.hid h
  have HCK := Lib.hid hr
  have HDN := Lib.hid hd
  have sl := (check_iff.1 hr).1.2.1
  obtain ⟨rj, hj, hy0, hy1, hy2⟩ := info_parts infoS
  have Hj := Lib.hid hj
  have Hy0 := Lib.hid hy0
  have Hy1 := Lib.hid hy1
  have Hy2 := Lib.hid hy2
  have C0 : Hid (Ct d 0 (.slice a d.secs.length c) (.slice b d.pend.length c2) w (.slice (some ⟨w.heap.size + 1, 0, none⟩) 0 0) ((w.alloc (.cells #[.slice a d.secs.length c, .slice b d.pend.length c2, .int .i64 d.left, .bool d.down] 25)).alloc (.cells #[] 9))) :=
    ⟨own_none _ _ _ _ (by simp) (Nat.le_refl _), (Bx.new _ _ _ _ _ _).next (Below.new1 _), chain (Below.new1 _) (Below.new1 _)⟩
  clear h hr hd hj hy0 hy1 hy2
  go_enter Try.func28, Try.ntmps28
  go_wp2_with fail
  go_loopw [4, 5] (fun v i wr => CtRel d (.slice a d.secs.length c) (.slice b d.pend.length c2) w v i wr) (fun _ i _ => d.secs.length - (intOf i).toNat)
  case atStart => exact ⟨0, _, _, Nat.zero_le _, rfl, rfl, C0.out⟩
  case round =>
    clear C0
    obtain ⟨k, la, lc, hk, rfl, rfl, hC⟩ := hrel
    have HC := Lib.hid hC
    have x0 := hC.bx.c0
    have x1 := hC.bx.c1
    have x2 := hC.bx.c2
    have x3 := hC.bx.c3
    have xl := hC.bx.lt
    have k0 : (0 : Int) ≤ (k : Int) := by omega
    clear hC
    by_cases cc : k < d.secs.length
    case neg =>
      have cc0 : ¬ (k : Int) < (d.secs.length : Int) := by omega
      obtain rfl : k = d.secs.length := by omega
      go_wp2_with fail
      go_ret2
      refine ⟨_, rfl, ?_, HC.out.below⟩
      have h := SAt.own HC.out.own (by rw [stk_len (by unfold view; rw [perf_len]; exact Nat.le_refl _)])
      rw [stk_all (by unfold view; rw [perf_len]; exact Nat.le_refl _)] at h
      exact h
    case pos =>
      have cc0 : (k : Int) < (d.secs.length : Int) := by omega
      obtain ⟨s, hs, hrd, hsz⟩ := rd_view HCK.out HDN.out cc
      have HSS : Hid ((view d)[k]? = some s) := hs
      have hrd1 : (rdV d (k : Int)).1 = s := by rw [hrd]
      have hrd2 : (rdV d (k : Int)).2 = 0 := by rw [hrd]
      have HRD := Lib.hid (ok.read _ d (k : Int) wr (HD.out.next HC.out.below) (fit_right HCK.out) (by unfold I64; omega))
      rw [hrd1, hrd2] at HRD
      have e1 : ((s.size : Int) != 16) = false := by simp; omega
      have sb : s.size ≤ 16 := by omega
      clear hs hrd hrd1 hrd2 hsz
      go_wp2_with fail
      refine HRD.out.mono ?_
      rintro r w5 ⟨rfl, b5⟩
      have C5 : Hid (Ct d k (.slice a d.secs.length c) (.slice b d.pend.length c2) w (.slice la k lc) w5) := ⟨by
        refine ⟨HC.out.own.1, ?_⟩
        rcases HC.out.own.2 with ⟨h1, h2⟩ | ⟨g, cap, cur, h1, h2, h3, h4⟩
        · exact .inl ⟨h1, h2⟩
        · exact .inr ⟨g, cap, cur, h1, h2, by rw [b5.block g (Array.getElem?_eq_some_iff.1 h3).1]; exact h3, h4⟩, HC.out.bx.next b5, chain HC.out.below b5⟩
      clear b5 HRD
      have xl5 := C5.out.bx.lt
      go_wp2_with (at_builtin; refine wpList_append_own _ rfl (.tmp 30) (.tmp 32) 22 rfl (w.heap.size + 1) 9 rj (.string ⟨#[]⟩) 1 16 Try.underlying22 Hj.out Hy0.out Hy1.out Hy2.out rfl (by decide) _ k (stk (view d) k) rfl (C5.out.own.alloc _) ⟨w5.heap.size, 0, none⟩ 1 1 [.string s] rfl rfl ?f1 ?f2 ?f3 ?f4 ?f5 ?_)
      case f1 => exact cell_new1 _ _ _ _ rfl
      case f2 => intro u hu; simp at hu; subst hu; rfl
      case f3 => unfold maxLen; omega
      case f4 => omega
      case f5 => simp; omega
      intro v6 w6 hown6 hgrow6 _
      have B6 : Below (w.heap.size + 1) w5 w6 := ((Below.refl (w.heap.size + 1) w5).alloc xl5 _).grown hgrow6 (by simp; omega) (fun j hj => (C5.out.own.lt j hj).1)
      have C6 : Hid (Ct d (k + 1) (.slice a d.secs.length c) (.slice b d.pend.length c2) w v6 w6) := by
        refine ⟨?_, C5.out.bx.nextB B6 (Nat.lt_succ_self _), C5.out.below.trans (B6.mono (Nat.le_succ _))⟩
        rw [stk_next HSS.out]
        exact hown6
      obtain ⟨la', lc', e6, -, -⟩ := SAt.own hown6 (by rw [List.length_append, stk_len (by unfold view; rw [perf_len]; exact hk)]; rfl)
      rw [List.length_append, stk_len (by unfold view; rw [perf_len]; exact hk), List.length_singleton] at e6
      subst e6
      clear hown6 hgrow6 B6
      go_wp2_with fail
      go_roundw
      case rel => exact ⟨k + 1, la', lc', by omega, by congr 1, rfl, C6.out⟩
      case measure => simp [intOf]; omega

set_option maxHeartbeats 3200000 in
/-- equal lists -/
theorem same_x (x y : Value) (l : List B) (w : World) (hx : SAt w x (strs l)) (hy : SAt w y (strs l)) (hl : l.length ≤ 1099511627776) :
    Calls Try.prog 29 #[x, y] w fun r w' => r = .returned (.bool true) ∧ Below w.heap.size w w' := by
  obtain ⟨a, c, rfl, -, hc⟩ := hx
  obtain ⟨a', c', rfl, -, hc'⟩ := hy
  rw [strs_len]
  have HC := Lib.hid hc
  have HC' := Lib.hid hc'
  have f1 : ((l.length : Int) != (l.length : Int)) = false := by simp
  clear hc hc'
  go_enter Try.func29, Try.ntmps29
  go_wp2_with fail
  go_loopw [5] (fun i wr => SaRel l.length w i wr) (fun i _ => l.length - (intOf i).toNat)
  case atStart => exact ⟨0, Nat.zero_le _, rfl, Below.refl _ _⟩
  case round =>
    obtain ⟨k, hk, rfl, hb⟩ := hrel
    have HB := Lib.hid hb
    have k0 : (0 : Int) ≤ (k : Int) := by omega
    clear hb
    by_cases cc : k < l.length
    case neg =>
      have cc0 : ¬ (k : Int) < (l.length : Int) := by omega
      go_wp2_with fail
      go_ret
      exact ⟨rfl, HB.out⟩
    case pos =>
      have cc0 : (k : Int) < (l.length : Int) := by omega
      obtain ⟨s, hs⟩ : ∃ s, l[k]? = some s := ⟨_, List.getElem?_eq_getElem cc⟩
      obtain ⟨g, off, rfl, g1, g2⟩ := HC.out k _ (strs_get hs)
      obtain ⟨g', off', rfl, g1', g2'⟩ := HC'.out k _ (strs_get hs)
      have z1 : wr.cell? ⟨g, off + k, none⟩ = some (.string s) := by rw [HB.out.cell (p := ⟨g, off + k, none⟩) g1]; exact g2
      have z2 : wr.cell? ⟨g', off' + k, none⟩ = some (.string s) := by rw [HB.out.cell (p := ⟨g', off' + k, none⟩) g1']; exact g2'
      have z3 : g < wr.heap.size := Nat.lt_of_lt_of_le g1 HB.out.size
      have z4 : g' < wr.heap.size := Nat.lt_of_lt_of_le g1' HB.out.size
      have e1 : (s.data.toList != s.data.toList) = false := by simp
      clear hs g1 g2 g1' g2'
      go_wp2_with fail
      go_quiet (fail)
      go_wp2_with fail
      go_roundw
      case rel => exact ⟨k + 1, by omega, by congr 1, below_drewN HB.out _⟩
      case measure => simp [intOf]; omega

end Go.Proofs.Ytcbeodhopimmlaa
