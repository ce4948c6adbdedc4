/-
  The program: Read (a range over an iterator).
-/
import Derived.RangeFuncNested
import Derived.RangeFuncFrom
import Derived.RangeFuncBound
import Derived.RangeFuncCalls
import Derived.RangeFuncLeaves
import Derived.Shelf.Abstract
import Derived.Shelf.RegionOpen
import Derived.OwnWalkIn
import Derived.TacticsInMore
import Derived.LoopNIn
import Derived.LoopIn
import Derived.Test.YtcbeodhopimmlaaProD
namespace Go.Proofs.Ytcbeodhopimmlaa
open Go.RowKit Go.Shelf Dk

attribute [local go_sem] Oper.semAt_some

/-! what comes of the writes, from the last to the first -/
abbrev Ev := Int × (Int × B)
def bk (p : List (Int × B)) : Nat → List Ev
  | 0 => []
  | k + 1 => ((k : Int), (p[k]?).getD (0, ⟨#[]⟩)) :: bk p k
theorem bk_len (p : List (Int × B)) : ∀ k, (bk p k).length = k
  | 0 => rfl
  | k + 1 => by simp only [bk, List.length_cons, bk_len p k]
theorem bk_yes {p : List (Int × B)} {t : Int} {T : Nat} {q : Int × B} (ht : t = T) (hq : p[T]? = some q) : bk p (t + 1).toNat = (t, q) :: bk p (t - 1 + 1).toNat := by
  subst ht
  rw [show ((T : Int) + 1).toNat = T + 1 by omega, show ((T : Int) - 1 + 1).toNat = T by omega]
  simp only [bk, hq, Option.getD_some]
theorem last_none {p : List (Int × B)} {a : Int} {s : B} : ∀ {k : Nat}, k ≤ p.length → (∀ x ∈ bk p k, x.2.1 ≠ a) → lastW a (p.take k) s = s
  | 0, _, _ => by simp [lastW]
  | k + 1, hk, h => by
    have hp := List.getElem?_eq_getElem (show k < p.length by omega)
    have h1 : ¬ (p[k]).1 = a := by have h2 := h _ (List.mem_cons_self); rw [hp] at h2; exact h2
    rw [last_next hp, if_neg h1]
    exact last_none (by omega) (fun x hx => h x (List.mem_cons_of_mem _ hx))
theorem last_some {p : List (Int × B)} {a : Int} {s : B} {x : Ev} : ∀ {k : Nat} {pre : List Ev}, k ≤ p.length → pre ++ [x] <+: bk p k → (∀ y ∈ pre, y.2.1 ≠ a) → x.2.1 = a → lastW a (p.take k) s = x.2.2
  | 0, pre, _, h, _, _ => by
    have := h.length_le
    simp [bk] at this
  | k + 1, [], hk, h, _, hx => by
    have hp := List.getElem?_eq_getElem (show k < p.length by omega)
    obtain ⟨t, ht⟩ := h
    simp only [bk, List.nil_append, List.singleton_append, List.cons.injEq] at ht
    rw [last_next hp]
    rw [hp, Option.getD_some] at ht
    rw [ht.1] at hx ⊢
    rw [if_pos hx]
  | k + 1, y :: pre, hk, h, hy, hx => by
    have hp := List.getElem?_eq_getElem (show k < p.length by omega)
    obtain ⟨t, ht⟩ := h
    simp only [bk, List.cons_append, List.cons.injEq] at ht
    have h1 : ¬ (p[k]).1 = a := by have h2 := hy y (List.mem_cons_self); rw [ht.1, hp] at h2; exact h2
    rw [last_next hp, if_neg h1]
    exact last_some (by omega) ⟨t, ht.2⟩ (fun z hz => hy z (List.mem_cons_of_mem _ hz)) hx

theorem back_x (a : Option Addr) (n c : Nat) (w : World) :
    Calls Try.prog 37 #[.slice a n c] w fun e w' => e = .returned (.func (.func 46) #[] #[.pointer (some ⟨w.heap.size, 0, none⟩)]) ∧ w' = w.alloc (.cells #[.slice a n c] 23) := by
  go_enter Try.func37, Try.ntmps37
  go_wp2_with fail
  go_ret
  exact ⟨rfl, rfl⟩

abbrev encE (x : Ev) : Array Value := #[.int .i64 x.1, .agg #[.int .i64 x.2.1, .string x.2.2]]
def BkRel (p : List (Int × B)) (w0 : World) (Kp : World → World → Prop) (J : List Ev → World → Prop) (i : Value) (wr : World) : Prop :=
  ∃ (t : Int) (pre : List Ev), i = .int .i64 t ∧ -1 ≤ t ∧ t < (p.length : Int) ∧ bk p p.length = pre ++ bk p (t + 1).toNat ∧ J pre wr ∧ Kp w0 wr

set_option maxRecDepth 100000 in
set_option maxHeartbeats 2000000 in
theorem back1_in (n : Nat) (hn : 1 ≤ n) (l A1 c : Nat) (a : Option Addr) (p : List (Int × B)) (hp : p.length ≤ 512) (w0 : World) (Kp : World → World → Prop)
    (hKt : ∀ {A B C : World}, Kp A B → Kp B C → Kp A C)
    (hKw : ∀ W, Kp w0 W → W.cell? ⟨A1, 0, none⟩ = some (.slice a p.length c) ∧ WNe W A1 a p)
    (J Jx : List Ev → World → Prop) (W : World)
    (hY : ∀ pre x W, J pre W → pre.length < p.length → YieldAt Fence.wide (n - 1) Try.prog l (encE x) W fun e W' =>
      (e = .returned (.bool true) ∧ J (pre ++ [x]) W' ∧ Kp W W') ∨ (e = .returned (.bool false) ∧ Jx (pre ++ [x]) W'))
    (hW : Kp w0 W) (h0 : J [] W) :
    CallsIn Fence.wide n Try.prog 46 #[.func (.yield l) #[] #[], .pointer (some ⟨A1, 0, none⟩)] W fun e W' => (∃ v, e = .returned v) ∧
      ((∃ ys, ys = bk p p.length ∧ J ys W') ∨ (∃ pre, pre <+: bk p p.length ∧ Jx pre W')) := by
  have hro : Fence.wide.round = none := rfl
  obtain ⟨c1, -⟩ := hKw W hW
  have HW := Lib.hid hKw
  have HY := Lib.hid hY
  clear hKw hY
  refine callsIn_of_wp Try.func46 rfl trivial ?_ hro
  simp only [Try.ntmps46, List.size_toArray, List.length_cons, List.length_nil, Nat.reduceAdd, Nat.reduceSub, Array.replicate_succ, Array.replicate_zero, List.push_toArray, List.append_toArray, List.nil_append, List.cons_append]
  gi_wp2
  gi_loopw [3] (fun i wr => BkRel p w0 Kp J i wr) (fun i _ => (intOf i + 1).toNat)
  case atStart => exact ⟨(p.length : Int) - 1, [], rfl, by omega, by omega, by rw [show ((p.length : Int) - 1 + 1).toNat = p.length by omega]; rfl, h0, hW⟩
  case round =>
    clear c1
    obtain ⟨t, pre, rfl, ht0, ht1, hx, hJs, hKs⟩ := hrel
    obtain ⟨c1, hne⟩ := HW.out wr hKs
    have Hx := Lib.hid hx
    have HJs := Lib.hid hJs
    have HKs := Lib.hid hKs
    have HN := Lib.hid hne
    clear hx hJs hKs hne
    by_cases k : 0 ≤ t
    · obtain ⟨T, rfl⟩ : ∃ T : Nat, t = T := ⟨t.toNat, by omega⟩
      have t2 : (T : Int) < (p.length : Int) := by omega
      have t3 : (0 : Int) ≤ (T : Int) := by omega
      obtain ⟨q, hq⟩ : ∃ q, p[T]? = some q := ⟨_, List.getElem?_eq_getElem (by omega)⟩
      obtain ⟨b, off, rfl, g1, g2, g3, g4⟩ := HN.out T q hq
      have Hx2 : Hid (bk p p.length = pre ++ ((T : Int), q) :: bk p ((T : Int) - 1 + 1).toNat) := by show _ = _; rw [Hx.out, bk_yes rfl hq]
      have hlen : pre.length < p.length := by have := congrArg List.length Hx2.out; rw [bk_len] at this; simp at this; omega
      obtain ⟨fn, tmps, assign, body, hy, hR⟩ := HY.out pre ((T : Int), q) wr HJs.out hlen
      try dsimp only at hy
      clear hlen hq
      gi_wp2
      refine hR.mono ?_
      rintro e W3 (⟨rfl, hJ3, hk3⟩ | ⟨rfl, hJx3⟩)
      · gi_wp2
        go_roundw
        case rel => exact ⟨(T : Int) - 1, pre ++ [((T : Int), q)], rfl, by omega, by omega, by rw [Hx2.out]; simp, hJ3, hKt HKs.out hk3⟩
        case measure => first | (simp [intOf]; done) | (simp [intOf]; omega)
      · gi_wp2
        refine bodyPost_ret (results_none rfl _ _ _) rfl ?_
        exact ⟨⟨_, rfl⟩, .inr ⟨pre ++ [((T : Int), q)], ⟨bk p ((T : Int) - 1 + 1).toNat, by rw [Hx2.out]; simp⟩, hJx3⟩⟩
    · clear c1
      gi_wp2
      go_end0
      exact ⟨⟨_, rfl⟩, .inl (by rw [Hx.out, show (t + 1).toNat = 0 by omega, bk, List.append_nil]; exact HJs.out)⟩

theorem back_stops (n : Nat) (hn : 1 ≤ n) (A1 c : Nat) (a : Option Addr) (p : List (Int × B)) (hp : p.length ≤ 512) (w0 : World) (Kp : World → World → Prop)
    (hKt : ∀ {A B C : World}, Kp A B → Kp B C → Kp A C) (hKB : ∀ W, Below w0.heap.size w0 W → Kp w0 W)
    (hKw : ∀ W, Kp w0 W → W.cell? ⟨A1, 0, none⟩ = some (.slice a p.length c) ∧ WNe W A1 a p) :
    SeqStopsK Fence.wide n Try.prog 46 #[.pointer (some ⟨A1, 0, none⟩)] encE Kp
      (fun ys => ys = bk p p.length) (fun pre => pre <+: bk p p.length) p.length w0 := fun l J Jx W hW _ _ hY h0 =>
  back1_in n hn l A1 c a p hp w0 Kp hKt hKw J Jx W hY (hKB W hW) h0

theorem cell_of_boxL {W : World} {B : Nat} {v : Value} {t : TypeId} (h : W.heap[B]? = some (.cells #[v] t (0, 0))) : W.cell? ⟨B, 0, none⟩ = some v ∧ W.frozen? ⟨B, 0, none⟩ = false := by
  constructor <;> simp [World.cell?, World.frozen?, h]
theorem cell_newL (W : World) (v : Value) (t : TypeId) : (W.alloc (.cells #[v] t)).cell? ⟨W.heap.size, 0, none⟩ = some v ∧ (W.alloc (.cells #[v] t)).frozen? ⟨W.heap.size, 0, none⟩ = false :=
  cell_of_boxL (World.alloc_heap_new W _)
theorem two_cells {W : World} {a b : Nat} {u v : Value} (x y : Value) (hne : a ≠ b) (ha : W.cell? ⟨a, 0, none⟩ = some u) (hb : W.cell? ⟨b, 0, none⟩ = some v) :
    ((W.setCell ⟨a, 0, none⟩ x).setCell ⟨b, 0, none⟩ y).cell? ⟨a, 0, none⟩ = some x ∧ ((W.setCell ⟨a, 0, none⟩ x).setCell ⟨b, 0, none⟩ y).cell? ⟨b, 0, none⟩ = some y := by
  constructor
  · rw [World.cell?_of_block (heap_setCell_other (W.setCell ⟨a, 0, none⟩ x) ⟨b, 0, none⟩ a y hne)]
    exact World.cell?_setCell_same' W ⟨a, 0, none⟩ x (by rw [ha]; rfl)
  · exact World.cell?_setCell_same' _ ⟨b, 0, none⟩ y (by rw [World.cell?_of_block (heap_setCell_other W ⟨a, 0, none⟩ b x (Ne.symm hne)), hb]; rfl)
/-- the boxes of Read: the disk, the sector's number, the two results -/
structure Rb (sv pv : Value) (l : Int) (dn : Bool) (at_ : Int) (g : Nat) (W : World) : Prop where
  c0 : W.cell? ⟨g, 0, none⟩ = some sv
  c1 : W.cell? ⟨g, 1, none⟩ = some pv
  c2 : W.cell? ⟨g, 2, none⟩ = some (.int .i64 l)
  c3 : W.cell? ⟨g, 3, none⟩ = some (.bool dn)
  n0 : W.cell? ⟨g + 1, 0, none⟩ = some (.int .i64 at_)
  r0 : W.cell? ⟨g + 1 + 1, 0, none⟩ = some (.string ⟨#[]⟩)
  r1 : W.cell? ⟨g + 1 + 1 + 1, 0, none⟩ = some (.int .i64 0)
  f0 : W.frozen? ⟨g + 1 + 1, 0, none⟩ = false
  f1 : W.frozen? ⟨g + 1 + 1 + 1, 0, none⟩ = false
theorem Rb.next {sv pv : Value} {l : Int} {dn : Bool} {at_ : Int} {g n : Nat} {W W' : World} (h : Rb sv pv l dn at_ g W) (hb : Below n W W') (hg : g + 1 + 1 + 1 < n) : Rb sv pv l dn at_ g W' := by
  have hc : ∀ b o, b < n → W'.cell? ⟨b, o, none⟩ = W.cell? ⟨b, o, none⟩ := fun b o h => hb.cell (p := ⟨b, o, none⟩) h
  refine ⟨?_, ?_, ?_, ?_, ?_, ?_, ?_, ?_, ?_⟩
  · rw [hc _ _ (by omega)]; exact h.c0
  · rw [hc _ _ (by omega)]; exact h.c1
  · rw [hc _ _ (by omega)]; exact h.c2
  · rw [hc _ _ (by omega)]; exact h.c3
  · rw [hc _ _ (by omega)]; exact h.n0
  · rw [hc _ _ (by omega)]; exact h.r0
  · rw [hc _ _ (by omega)]; exact h.r1
  · rw [hb.frozen (p := ⟨g + 1 + 1, 0, none⟩) (by show g + 1 + 1 < n; omega)]; exact h.f0
  · rw [hb.frozen (p := ⟨g + 1 + 1 + 1, 0, none⟩) (by show g + 1 + 1 + 1 < n; omega)]; exact h.f1
theorem Rb.new (w : World) (sv pv : Value) (l : Int) (dn : Bool) (at_ : Int) : Rb sv pv l dn at_ w.heap.size ((((w.alloc (.cells #[sv, pv, .int .i64 l, .bool dn] 25)).alloc (.cells #[.int .i64 at_] 3)).alloc (.cells #[.string ⟨#[]⟩] 9)).alloc (.cells #[.int .i64 0] 28)) := by
  have hb : Bx sv pv l dn w.heap.size _ := (((Bx.new w sv pv l dn 25).next (Below.new1 (.cells #[.int .i64 at_] 3))).next (Below.new1 (.cells #[.string ⟨#[]⟩] 9))).next (Below.new1 (.cells #[.int .i64 0] 28))
  have q1 := cell_newL (w.alloc (.cells #[sv, pv, .int .i64 l, .bool dn] 25)) (.int .i64 at_) 3
  have q2 := cell_newL ((w.alloc (.cells #[sv, pv, .int .i64 l, .bool dn] 25)).alloc (.cells #[.int .i64 at_] 3)) (.string ⟨#[]⟩) 9
  have q3 := cell_newL (((w.alloc (.cells #[sv, pv, .int .i64 l, .bool dn] 25)).alloc (.cells #[.int .i64 at_] 3)).alloc (.cells #[.string ⟨#[]⟩] 9)) (.int .i64 0) 28
  rw [World.size_alloc] at q1
  rw [World.size_alloc, World.size_alloc] at q2
  rw [World.size_alloc, World.size_alloc, World.size_alloc] at q3
  refine ⟨hb.c0, hb.c1, hb.c2, hb.c3, ?_, ?_, q3.1, ?_, q3.2⟩
  · rw [(chain (Below.new1 _) (Below.new1 _)).cell (p := ⟨w.heap.size + 1, 0, none⟩) (by simp)]; exact q1.1
  · rw [(Below.new1 _).cell (p := ⟨w.heap.size + 1 + 1, 0, none⟩) (by simp)]; exact q2.1
  · rw [(Below.new1 _).frozen (p := ⟨w.heap.size + 1 + 1, 0, none⟩) (by simp)]; exact q2.2
theorem rd_below (w : World) (sv pv : Value) (l : Int) (dn : Bool) (at_ : Int) : Below w.heap.size w ((((w.alloc (.cells #[sv, pv, .int .i64 l, .bool dn] 25)).alloc (.cells #[.int .i64 at_] 3)).alloc (.cells #[.string ⟨#[]⟩] 9)).alloc (.cells #[.int .i64 0] 28)) :=
  chain (chain (chain (Below.new1 _) (Below.new1 _)) (Below.new1 _)) (Below.new1 _)

theorem WNe.next {w w' : World} {g : Nat} {a : Option Addr} {p : List (Int × B)} (h : WNe w g a p) (hb : Below w.heap.size w w') : WNe w' g a p := by
  intro j q hq
  obtain ⟨b, off, e, h1, h2, h3, h4⟩ := h j q hq
  exact ⟨b, off, e, Nat.lt_of_lt_of_le h1 hb.size, h2, by rw [hb.cell (p := ⟨b, off + j * 2, none⟩) h1]; exact h3, by rw [hb.cell (p := ⟨b, off + j * 2 + 1, none⟩) h1]; exact h4⟩

set_option maxHeartbeats 3200000 in
set_option maxRecDepth 100000 in
theorem pRead_x (v : Value) (d : D) (at_ : Int) (w : World) (h : DAt w v d) (hf : Fit d) (hat : I64 at_) :
    Calls Try.prog 15 #[v, .int .i64 at_] w fun r w' => r = .returned (.tuple #[.string (rdV d at_).1, .int .i64 (rdV d at_).2]) ∧ Below w.heap.size w w' := by
  unfold I64 at hat
  obtain ⟨a, c, b, c2, rfl, -, -, HS, HP⟩ := h.form
  obtain ⟨dl, hdl⟩ : ∃ x, d.left = x := ⟨_, rfl⟩
  obtain ⟨dd, hdd⟩ : ∃ x, d.down = x := ⟨_, rfl⟩
  rw [hdl, hdd] at h
  have HD := Lib.hid h
  have BW := Lib.hid (rd_below w (.slice a d.secs.length c) (.slice b d.pend.length c2) dl dd at_)
  have RB := Lib.hid (Rb.new w (.slice a d.secs.length c) (.slice b d.pend.length c2) dl dd at_)
  have HU := Lib.hid (pUp_x _ d _ (h.next BW.out) hf)
  rw [hdl, hdd]
  have HDL := Lib.hid hdl
  have HDN := Lib.hid hdd
  obtain ⟨ue, hue⟩ : ∃ x, upE d = x := ⟨_, rfl⟩
  have HUE := Lib.hid hue
  clear h hf hdl hdd hue
  rw [HUE.out] at HU
  by_cases u : ue = 0
  case neg =>
    have u0 : (ue != 0) = true := by simpa using u
    have hv : Hid (rdV d at_ = (⟨#[]⟩, ue)) := by show _ = _; unfold rdV; rw [HUE.out, if_neg u]
    clear u
    go_enter Try.func15, Try.ntmps15
    go_wp2_with fail
    refine HU.out.mono ?_
    rintro r w1 ⟨rfl, b1⟩
    have R1 := RB.out.next b1 (by simp)
    have r0 := R1.r0
    have r1 := R1.r1
    have f0 := R1.f0
    have f1 := R1.f1
    have BE := Lib.hid (chain BW.out b1)
    have TC := two_cells (.string ⟨#[]⟩) (.int .i64 ue) (by omega) r0 r1
    clear R1 b1 HU BW RB
    go_wp2_with fail
    exact bodyPost_ret (v := .tuple #[.string ⟨#[]⟩, .int .i64 ue]) (by simp [results, Try.results15, go_sem, TC.1, TC.2]) rfl ⟨by rw [hv.out], (BE.out.setCell (by show _ ≤ _ + 1 + 1; omega) _).setCell (by show _ ≤ _ + 1 + 1 + 1; omega) _⟩
  case pos =>
    subst u
    have HCK := Lib.hid (upE_zero.1 HUE.out).1
    have HH := Lib.hid (fun (W : World) (hb : Below w.heap.size w W) => hasSector_x _ d at_ W (HD.out.next hb))
    obtain ⟨hs, hhs⟩ : ∃ x, hasB d at_ = x := ⟨_, rfl⟩
    have HHS := Lib.hid hhs
    rw [hhs] at HH
    clear hhs
    cases hs with
    | false =>
      have hv : Hid (rdV d at_ = (⟨#[]⟩, 1)) := by show _ = _; unfold rdV; rw [HUE.out, if_pos rfl, if_neg (of_decide_eq_false HHS.out)]
      go_enter Try.func15, Try.ntmps15
      go_wp2_with fail
      refine HU.out.mono ?_
      rintro r w1 ⟨rfl, b1⟩
      have R1 := RB.out.next b1 (by simp)
      have x0 := R1.c0
      have x1 := R1.c1
      have x2 := R1.c2
      have x3 := R1.c3
      have xn := R1.n0
      have BE := Lib.hid (chain BW.out b1)
      have xs : w.heap.size + 1 + 1 + 1 < w1.heap.size := Nat.lt_of_lt_of_le (by simp) b1.size
      have RR := Lib.hid R1
      clear b1 HU BW RB R1
      go_wp2_with fail
      refine (HH.out w1 BE.out).mono ?_
      rintro r w2 ⟨rfl, b2⟩
      have R2 := RR.out.next b2 xs
      have r0 := R2.r0
      have r1 := R2.r1
      have f0 := R2.f0
      have f1 := R2.f1
      have BF := Lib.hid (chain BE.out b2)
      have TC := two_cells (.string ⟨#[]⟩) (.int .i64 1) (by omega) r0 r1
      clear x0 x1 x2 x3 xn xs R2 b2
      go_wp2_with fail
      exact bodyPost_ret (v := .tuple #[.string ⟨#[]⟩, .int .i64 1]) (by simp [results, Try.results15, go_sem, TC.1, TC.2]) rfl ⟨by rw [hv.out], (BF.out.setCell (by show _ ≤ _ + 1 + 1; omega) _).setCell (by show _ ≤ _ + 1 + 1 + 1; omega) _⟩
    | true =>
      have hro : Fence.wide.round = none := rfl
      obtain ⟨h0, h1⟩ := of_decide_eq_true HHS.out
      obtain ⟨m, rfl⟩ := Int.eq_ofNat_of_zero_le h0
      have mN : m < d.secs.length := by omega
      obtain ⟨s, hs⟩ : ∃ s, d.secs[m]? = some s := ⟨_, List.getElem?_eq_getElem mN⟩
      have hpl : d.pend.length ≤ 512 := (check_iff.1 HCK.out).1.2.2.1
      have hv : Hid (rdV d (m : Int) = (lastW (m : Int) d.pend s, 0)) := by show _ = _; unfold rdV; rw [HUE.out, if_pos rfl, if_pos ⟨h0, h1⟩, Int.toNat_natCast, hs]; rfl
      have HSS := Lib.hid (HS.out m s hs)
      clear HCK HHS hs
      refine (callsIn_wide (n := 3)).1 ?_
      refine callsIn_of_wp_marks Try.func15 rfl trivial ?_ hro
      simp only [Try.ntmps15, List.size_toArray, List.length_cons, List.length_nil, Nat.reduceAdd, Nat.reduceSub, Array.replicate_succ, Array.replicate_zero, List.push_toArray, List.append_toArray, List.nil_append, List.cons_append]
      gi_wp2
      refine ⟨trivial, (callsIn_wide.2 HU.out).mono ?_⟩
      rintro e w1 ⟨rfl, b1⟩
      have R1 := RB.out.next b1 (by simp)
      have x0 := R1.c0
      have x1 := R1.c1
      have x2 := R1.c2
      have x3 := R1.c3
      have xn := R1.n0
      have BE := Lib.hid (chain BW.out b1)
      have xs : w.heap.size + 1 + 1 + 1 < w1.heap.size := Nat.lt_of_lt_of_le (by simp) b1.size
      have RR := Lib.hid R1
      clear b1 HU BW RB R1
      gi_wp2
      refine ⟨trivial, (callsIn_wide.2 (HH.out w1 BE.out)).mono ?_⟩
      rintro e w2 ⟨rfl, b2⟩
      have R2 := Lib.hid (RR.out.next b2 xs)
      have BF := Lib.hid (chain BE.out b2)
      have xs2 : w.heap.size + 1 + 1 + 1 < w2.heap.size := Nat.lt_of_lt_of_le xs b2.size
      clear x0 x1 x2 x3 xn xs b2 HH BE RR
      have x1 := R2.out.c1
      gi_wp2
      refine ⟨trivial, (callsIn_wide.2 (back_x _ _ _ _)).mono ?_⟩
      rintro e w3 ⟨rfl, hw3⟩
      have b3 : Below w2.heap.size w2 w3 := by rw [hw3]; exact Below.new1 _
      have R3 := Lib.hid (R2.out.next b3 xs2)
      have BG := Lib.hid (chain BF.out b3)
      have xs3 : w.heap.size + 1 + 1 + 1 < w3.heap.size := Nat.lt_of_lt_of_le xs2 b3.size
      have s3 : w2.heap.size < w3.heap.size := by rw [hw3]; simp
      have A3 : w3.cell? ⟨w2.heap.size, 0, none⟩ = some (.slice b d.pend.length c2) := by rw [hw3]; exact (cell_newL w2 _ _).1
      have WN : WNe w3 w2.heap.size b d.pend := by
        intro j q hq
        obtain ⟨g, off, e, h1, h2, h3⟩ := HP.out j q hq
        exact ⟨g, off, e, Nat.lt_of_lt_of_le h1 BG.out.size, by omega, by rw [BG.out.cell (p := ⟨g, off + j * 2, none⟩) h1]; exact h2, by rw [BG.out.cell (p := ⟨g, off + j * 2 + 1, none⟩) h1]; exact h3⟩
      have HQ : Hid (SeqStopsK Fence.wide 2 Try.prog 46 #[.pointer (some ⟨w2.heap.size, 0, none⟩)] encE (Below w3.heap.size) (fun ys => ys = bk d.pend d.pend.length) (fun pre => pre <+: bk d.pend d.pend.length) d.pend.length w3) :=
        back_stops 2 (by omega) w2.heap.size c2 b d.pend hpl w3 (Below w3.heap.size) (fun h k => h.trans k) (fun _ h => h) (fun W hB => ⟨(hB.cell (p := ⟨w2.heap.size, 0, none⟩) s3).trans A3, WN.next hB⟩)
      clear x1 hw3 b3 R2 BF A3 WN
      gi_wp2
      refine wpIn_rangeFunc_ownH hro (by decide) (gf := 46) (lb := #[.pointer (some ⟨w2.heap.size, 0, none⟩)]) rfl trivial
        (enters_of Try.func46 (by kernel_rfl) rfl) HQ.out (fun h k => h.trans k) (belowK_b (Nat.le_refl _)) (Below.refl _ _) (fun _ => rfl)
        (fun pre W => (∀ x ∈ pre, x.2.1 ≠ (m : Int)) ∧ Below w3.heap.size w3 W)
        (fun c pre W => (c = .ret ∧ ∃ pre' x, pre = pre' ++ [x] ∧ (∀ y ∈ pre', y.2.1 ≠ (m : Int)) ∧ x.2.1 = (m : Int) ∧ W.cell? ⟨w.heap.size + 1 + 1, 0, none⟩ = some (.string x.2.2) ∧ W.cell? ⟨w.heap.size + 1 + 1 + 1, 0, none⟩ = some (.int .i64 0)) ∧ Below w.heap.size w W)
        (OwnFrom.and (Own.from (fun s A B row hs hg hr => hs) _) (ownFrom_below (Nat.le_refl _) (Nat.le_refl _)))
        (fun c => OwnFrom.and (Own.from (fun s A B row hs hg hr => ⟨hs.1, by obtain ⟨p', x, e, h1, h2, h3, h4⟩ := hs.2; exact ⟨p', x, e, h1, h2, cell_kept h3 hg hr, cell_kept h4 hg hr⟩⟩) _) (ownFrom_below (Nat.le_refl _) (by omega)))
        ⟨fun x hx => absurd hx (List.not_mem_nil), Below.refl _ _⟩
        (fun x a' W => ∃ X, w.heap.size + 1 + 1 + 1 < X ∧ X < W.heap.size ∧ W.cell? ⟨X, 0, none⟩ = some (.int .i64 x.2.1) ∧ W.cell? ⟨X, 1, none⟩ = some (.string x.2.2) ∧ a' = { tmps := #[.agg #[.slice a d.secs.length c, .slice b d.pend.length c2, .int .i64 dl, .bool dd], .int .i64 (m : Int), .pointer (some ⟨w.heap.size, 0, none⟩), .pointer (some ⟨w.heap.size + 1, 0, none⟩), .pointer (some ⟨w.heap.size + 1 + 1, 0, none⟩), .pointer (some ⟨w.heap.size + 1 + 1 + 1, 0, none⟩), .int .i64 0, undef, .pointer (some ⟨X, 0, none⟩), .agg #[.slice a d.secs.length c, .slice b d.pend.length c2, .int .i64 dl, .bool dd], .int .i64 0, .int .i64 0, .bool false, undef, .agg #[.slice a d.secs.length c, .slice b d.pend.length c2, .int .i64 dl, .bool dd], .int .i64 (m : Int), .bool true, .bool false, .pointer (some ⟨w.heap.size, 1, none⟩), .slice b d.pend.length c2, .func (.func 46) #[] #[.pointer (some ⟨w2.heap.size, 0, none⟩)], .int .i64 x.1, .agg #[.int .i64 x.2.1, .string x.2.2], undef, undef, undef, undef, undef, undef, undef, undef, undef, undef, undef], defers := [] })
        (fun x a' s W W' row hs hg hr => by obtain ⟨X, k1, k2, k3, k4, k5⟩ := hs; exact ⟨X, k1, Nat.lt_of_lt_of_le k2 hg.size, cell_kept k3 hg (fun r e => (hr r e).2), cell_kept k4 hg (fun r e => (hr r e).2), k5⟩)
        ?assign ?body ?done ?stop
      case assign =>
        intro l pre x W K hi hK
        gi_wp2
        have hb := (Below.refl w3.heap.size W).alloc hi.2.size (.cells #[.int .i64 x.2.1, .string x.2.2] 44)
        exact hK _ _ ((KeepsOthers.alloc _ _).from _) hb ⟨hi.1, hi.2.trans hb⟩ ⟨W.heap.size, Nat.lt_of_lt_of_le xs3 hi.2.size, by simp, by rw [World.cell?_alloc_new]; rfl, by rw [World.cell?_alloc_new]; rfl, rfl⟩
      case body =>
        rintro l pre x a' W hl ⟨r, hr⟩ ⟨hpre, hB⟩ ⟨X, k1, k2, k3, k4, rfl⟩ hlt
        have RW := R3.out.next hB xs3
        have z0 := RW.n0
        have r0 := RW.r0
        have r1 := RW.r1
        have f0 := RW.f0
        have f1 := RW.f1
        have HB := Lib.hid hB
        have HPRE := Lib.hid hpre
        clear RW hB hpre
        by_cases e : x.2.1 = (m : Int)
        · have e1 : (x.2.1 == (m : Int)) = true := by simpa using e
          have TC := Lib.hid (two_cells (.string x.2.2) (.int .i64 0) (show w.heap.size + 1 + 1 ≠ w.heap.size + 1 + 1 + 1 by omega) r0 r1)
          have HE := Lib.hid e
          clear e
          gi_wp2
          exact ⟨((KeepsOthers.setCell _ _ _).trans (KeepsOthers.setCell _ _ _)).from _, ⟨rfl, pre, x, rfl, HPRE.out, HE.out, TC.out.1, TC.out.2⟩, ((chain BG.out HB.out).setCell (p := ⟨w.heap.size + 1 + 1, 0, none⟩) (by show _ ≤ _ + 1 + 1; omega) _).setCell (p := ⟨w.heap.size + 1 + 1 + 1, 0, none⟩) (by show _ ≤ _ + 1 + 1 + 1; omega) _⟩
        · have e1 : (x.2.1 == (m : Int)) = false := by simpa using e
          have HE := Lib.hid e
          clear e
          gi_wp2
          refine ⟨(KeepsOthers.refl _).from _, Below.refl _ _, ?_, HB.out⟩
          intro y hy
          rcases List.mem_append.1 hy with k | k
          · exact HPRE.out y k
          · rw [List.mem_singleton] at k; subst k; exact HE.out
      case done =>
        rintro D' ys W hD rfl ⟨hpre, hB⟩ hK
        have hl := last_none (s := s) (Nat.le_refl _) hpre
        rw [List.take_length] at hl
        have HL := Lib.hid hl
        obtain ⟨g, off, rfl, g1, g2⟩ := HSS.out
        have BX := chain BG.out hB
        have y1 : W.cell? ⟨g, off + m, none⟩ = some (.string s) := by rw [BX.cell (p := ⟨g, off + m, none⟩) g1]; exact g2
        have RW := R3.out.next hB xs3
        have x0 := RW.c0
        have xn := RW.n0
        have r0 := RW.r0
        have r1 := RW.r1
        have f0 := RW.f0
        have f1 := RW.f1
        have hw := Lib.hid (two_cells (.string s) (.int .i64 0) (show w.heap.size + 1 + 1 ≠ w.heap.size + 1 + 1 + 1 by omega) r0 r1)
        have hK' := Lib.hid (((KeepsOthers.setCell W ⟨w.heap.size + 1 + 1, 0, none⟩ (.string s)).trans (KeepsOthers.setCell _ ⟨w.heap.size + 1 + 1 + 1, 0, none⟩ (.int .i64 0))).same D' _ hK rfl)
        have HBX := Lib.hid BX
        clear hl hpre hB RW BX g1 g2
        gi_wp2
        refine ⟨by simp, .inl ⟨_, _, rfl, run_takeDeferred hK'.out, ?_⟩⟩
        have c0 := cell_kept hw.out.1 (grownBy_putObj' _ D' (.deferred none)) (fun r e => by cases e; exact ⟨_, hK'.out, rfl⟩)
        have c1 := cell_kept hw.out.2 (grownBy_putObj' _ D' (.deferred none)) (fun r e => by cases e; exact ⟨_, hK'.out, rfl⟩)
        refine ⟨.tuple #[.string s, .int .i64 0], ?_, ?_, ?_⟩
        · simp [results, Try.f15, go_sem, c0, c1]
        · rw [hv.out, HL.out]
        · exact ((HBX.out.setCell (p := ⟨w.heap.size + 1 + 1, 0, none⟩) (by show _ ≤ _ + 1 + 1; omega) _).setCell (p := ⟨w.heap.size + 1 + 1 + 1, 0, none⟩) (by show _ ≤ _ + 1 + 1 + 1; omega) _).trans (belowK_b (w := w) (Nat.le_refl _) _ D' _ _ (by omega) hK'.out rfl rfl)
      case stop =>
        rintro D' cc pre W hD hpre ⟨⟨rfl, p', x, rfl, hy, hx, q0, q1⟩, hB⟩ hK
        gi_wp2
        refine ⟨by simp, .inl ⟨_, _, rfl, run_takeDeferred hK, ?_⟩⟩
        have c0 := cell_kept q0 (grownBy_putObj' _ D' (.deferred none)) (fun r e => by cases e; exact ⟨_, hK, rfl⟩)
        have c1 := cell_kept q1 (grownBy_putObj' _ D' (.deferred none)) (fun r e => by cases e; exact ⟨_, hK, rfl⟩)
        refine ⟨.tuple #[.string x.2.2, .int .i64 0], ?_, ?_, ?_⟩
        · simp [results, Try.f15, go_sem, c0, c1]
        · have hl := last_some (s := s) (Nat.le_refl _) hpre hy hx
          rw [List.take_length] at hl
          rw [hv.out, hl]
        · exact hB.trans (belowK_b (w := w) (Nat.le_refl _) W D' _ _ (by omega) hK rfl rfl)

end Go.Proofs.Ytcbeodhopimmlaa
