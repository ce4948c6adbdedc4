/-
  The reference's sectors, Read, Same.
-/
import Derived.Test.YtemldlhhlneleaaDoorRefB
import Derived.Test.YtemldlhhlneleaaDoorHand
namespace Go.Proofs.YtemldlhhlneleaaDoor
open Go.RowKit Dk

theorem infoS : (Tryd.prog.info? 9).map (fun i => (i.zero, i.size, i.bytes)) = some (some (.string ⟨#[]⟩), 1, 16) := by kernel_rfl
theorem info_parts {P : Program} {e : TypeId} {z : Value} {n b : Nat} (h : (P.info? e).map (fun i => (i.zero, i.size, i.bytes)) = some (some z, n, b)) : ∃ i, P.info? e = some i ∧ i.zero = some z ∧ i.size = n ∧ i.bytes = b := by
  obtain ⟨i, hi, h1⟩ := Option.map_eq_some_iff.1 h
  simp only [Prod.mk.injEq] at h1
  exact ⟨i, hi, h1.1, h1.2.1, h1.2.2⟩
theorem add_plain (g o j : Nat) : (⟨g, o, none⟩ : Addr).add j = ⟨g, o + j, none⟩ := by unfold Addr.add; split <;> simp_all
theorem own_none (W : World) (T : TypeId) (base n : Nat) (hn : n = W.heap.size) (hb : base ≤ n) : (W.alloc (.cells #[] T)).ownsRow base T 1 (.slice (some ⟨n, 0, none⟩) 0 0) 0 [] := by
  subst hn
  exact World.ownsRow_lit W #[] 0 hb (by decide) rfl
theorem cell_new1 (w : World) (x : Value) (T : TypeId) (n : Nat) (hn : n = w.heap.size) : ∀ j u, [x][j]? = some u → (w.alloc (.cells #[x] T)).cell? ((⟨n, 0, none⟩ : Addr).add j) = some u := by
  subst hn
  intro j u hu
  cases j with
  | succ j => simp at hu
  | zero =>
    simp at hu
    subst hu
    show (w.alloc (.cells #[x] T)).cell? ⟨w.heap.size, 0, none⟩ = _
    rw [World.cell?_alloc_new]
    rfl
/-- a block of the call's own, of one-cell values -/
structure Row (w : World) (g : Nat) (l : List Value) : Prop where
  lt : g < w.heap.size
  c : ∀ j v, l[j]? = some v → w.cell? ⟨g, j, none⟩ = some v
  fz : ∀ j, j < l.length → w.frozen? ⟨g, j, none⟩ = false
theorem Row.below {w w' : World} {g B : Nat} {l : List Value} (h : Row w g l) (hb : Below B w w') (hB : g < B) : Row w' g l := by
  refine ⟨Nat.lt_of_lt_of_le h.lt hb.size, fun j v hv => ?_, fun j hj => ?_⟩
  · rw [hb.cell (p := ⟨g, j, none⟩) hB]; exact h.c j v hv
  · rw [hb.frozen (p := ⟨g, j, none⟩) hB]; exact h.fz j hj
theorem Row.next {w w' : World} {g : Nat} {l : List Value} (h : Row w g l) (hb : Below w.heap.size w w') : Row w' g l := h.below hb h.lt
theorem Row.set {w : World} {g : Nat} {l : List Value} (h : Row w g l) (k : Nat) (v : Value) (hk : k < l.length) : Row (w.setCell ⟨g, k, none⟩ v) g (l.set k v) := by
  have hc := h.c k _ (List.getElem?_eq_getElem hk)
  refine ⟨by simpa using h.lt, fun j u hu => ?_, fun j hj => by simpa using h.fz j (by simpa using hj)⟩
  rw [List.getElem?_set] at hu
  by_cases hjk : k = j
  · subst hjk
    rw [if_pos rfl, if_pos hk] at hu
    simp only [Option.some.injEq] at hu
    subst hu
    exact World.cell?_setCell_same _ _ _ hc
  · rw [if_neg hjk] at hu
    rw [World.cell?_setCell_other _ _ _ _ (by intro e; injection e with _ e _; exact hjk e)]
    exact h.c j u hu
theorem Row.at {w : World} {g : Nat} {l : List Value} (h : Row w g l) {n cap : Nat} (hn : n = l.length) (hc : n ≤ cap) : SAt w (.slice (some ⟨g, 0, none⟩) n cap) l := by
  subst hn
  exact ⟨_, cap, rfl, hc, fun j x hx => ⟨g, 0, rfl, h.lt, by rw [Nat.zero_add]; exact h.c j x hx⟩⟩
theorem Row.own {w : World} {base g n cap : Nat} {T : TypeId} {l : List Value} (h : w.ownsRow base T 1 (.slice (some ⟨g, 0, none⟩) n cap) n l) (hl : n = l.length) : Row w g l :=
  ⟨(h.lt g rfl).2, fun j v hv => by
    have hj := (List.getElem?_eq_some_iff.1 hv).1
    rw [h.cellAt j (by omega)]
    exact hv, fun j _ => h.frozenAt j⟩
/-- what the call owns reads as a list -/
theorem SAt.own {w : World} {base n : Nat} {T : TypeId} {v : Value} {l : List Value} (h : w.ownsRow base T 1 v n l) (hn : n = l.length) : SAt w v l := by
  subst hn
  rcases h.2 with ⟨rfl, h0⟩ | ⟨g, cap, cur, rfl, hg, hh, h1, h2, h3, h4⟩
  · exact ⟨none, 0, by rw [h0], by omega, fun j r hj => by
      have := (List.getElem?_eq_some_iff.1 hj).1
      omega⟩
  · exact (Row.own h rfl).at rfl h1
theorem own_some {w : World} {base n : Nat} {T : TypeId} {v : Value} {l : List Value} (h : w.ownsRow base T 1 v n l) (hn : n = l.length) (h0 : 0 < n) : ∃ g cap, v = .slice (some ⟨g, 0, none⟩) n cap ∧ base ≤ g ∧ n ≤ cap ∧ Row w g l := by
  rcases h.2 with ⟨rfl, h1⟩ | ⟨g, cap, cur, rfl, hg, hh, h1, h2, h3, h4⟩
  · omega
  · exact ⟨g, cap, rfl, hg, h1, Row.own h hn⟩

def stk (l : List B) (k : Nat) : List Value := strs (l.take k)
theorem stk_len {l : List B} {k : Nat} (h : k ≤ l.length) : (stk l k).length = k := by unfold stk; rw [List.length_map, List.length_take]; omega
theorem stk_next {l : List B} {k : Nat} {s : B} (h : l[k]? = some s) : stk l (k + 1) = stk l k ++ [.string s] := by
  unfold stk
  rw [List.take_add_one, h, strs, List.map_append]
  rfl
theorem stk_all {l : List B} {k : Nat} (h : l.length ≤ k) : stk l k = strs l := by unfold stk; rw [List.take_of_length_le h]
/-- the copy of the sectors -/
structure Cp (d : D) (k : Nat) (sv pv : Value) (dl : Int) (dd : Bool) (w : World) (v : Value) (wr : World) : Prop where
  own : wr.ownsRow (w.heap.size + 1) 9 1 v k (stk d.secs k)
  bx : Bx sv pv dl dd w.heap.size wr
  below : Below w.heap.size w wr
def CpRel (d : D) (sv pv : Value) (dl : Int) (dd : Bool) (w : World) (v i : Value) (wr : World) : Prop := ∃ (k : Nat) (la : Option Addr) (lc : Nat), k ≤ d.secs.length ∧ i = .int .i64 (k : Int) ∧ v = .slice la k lc ∧ Cp d k sv pv dl dd w (.slice la k lc) wr
/-- the writes performed -/
structure Pf (d : D) (k g : Nat) (sv pv : Value) (dl : Int) (dd : Bool) (w wr : World) : Prop where
  row : Row wr g (strs (perf d.secs (d.pend.take k)))
  bx : Bx sv pv dl dd w.heap.size wr
  below : Below w.heap.size w wr
def PfRel (d : D) (n g : Nat) (sv pv : Value) (dl : Int) (dd : Bool) (w : World) (i : Value) (wr : World) : Prop := ∃ k : Nat, k ≤ n ∧ i = .int .i64 (k : Int) ∧ Pf d k g sv pv dl dd w wr
theorem strs_len (l : List B) : (strs l).length = l.length := List.length_map _
theorem strs_set (l : List B) (k : Nat) (s : B) : (strs l).set k (.string s) = strs (l.set k s) := by unfold strs; rw [List.map_set]

set_option maxHeartbeats 6400000 in
set_option maxRecDepth 100000 in
theorem sectors_x (v : Value) (d : D) (n : Nat) (w : World) (h : DAt w v d) (hr : checkB d = true) (hn : n ≤ d.pend.length) :
    Calls Tryd.prog 53 #[v, .int .i64 (n : Int)] w fun r w' => ∃ g c, r = .returned (.slice (some ⟨g, 0, none⟩) d.secs.length c) ∧ d.secs.length ≤ c ∧ w.heap.size ≤ g ∧ Row w' g (strs (perf d.secs (d.pend.take n))) ∧ Below w.heap.size w w' := by
  obtain ⟨a, c, b, c2, rfl, -, -, HS, HP⟩ := h.form
  obtain ⟨⟨h1, h2, h3, -, -⟩, hsz, hpd, -⟩ := check_iff.1 hr
  have HPD := Lib.hid hpd
  obtain ⟨dl, hdl⟩ : ∃ x, d.left = x := ⟨_, rfl⟩
  obtain ⟨dd, hdd⟩ : ∃ x, d.down = x := ⟨_, rfl⟩
  rw [hdl, hdd]
  obtain ⟨rj, hj, hy0, hy1, hy2⟩ := info_parts infoS
  have Hj := Lib.hid hj
  have Hy0 := Lib.hid hy0
  have Hy1 := Lib.hid hy1
  have Hy2 := Lib.hid hy2
  clear h hr hsz hpd hdl hdd hj hy0 hy1 hy2
  have C0 : Hid (Cp d 0 (.slice a d.secs.length c) (.slice b d.pend.length c2) dl dd w (.slice (some ⟨w.heap.size + 1, 0, none⟩) 0 0) ((w.alloc (.cells #[.slice a d.secs.length c, .slice b d.pend.length c2, .int .i64 dl, .bool dd] 27)).alloc (.cells #[] 9))) :=
    ⟨own_none _ _ _ _ (by simp) (Nat.le_refl _), (Bx.new _ _ _ _ _ _).next (Below.new1 _), chain (Below.new1 _) (Below.new1 _)⟩
  go_enter Tryd.func53, Tryd.ntmps53
  go_wp2_with fail
  go_loopw [5, 6] (fun v i wr => CpRel d (.slice a d.secs.length c) (.slice b d.pend.length c2) dl dd w v i wr) (fun _ i _ => d.secs.length - (intOf i).toNat)
  case atStart => exact ⟨0, _, _, Nat.zero_le _, rfl, rfl, C0.out⟩
  case round =>
    clear C0
    obtain ⟨k, la, lc, hk, rfl, rfl, hC⟩ := hrel
    have HC := Lib.hid hC
    have x0 := hC.bx.c0
    have x1 := hC.bx.c1
    have xl := hC.bx.lt
    have k0 : (0 : Int) ≤ (k : Int) := by omega
    clear hC
    by_cases cc : k < d.secs.length
    case pos =>
      have cc0 : (k : Int) < (d.secs.length : Int) := by omega
      obtain ⟨s, hs⟩ : ∃ s, d.secs[k]? = some s := ⟨_, List.getElem?_eq_getElem cc⟩
      obtain ⟨g, off, rfl, g1, g2⟩ := HS.out k s hs
      have g3 : wr.cell? ⟨g, off + k, none⟩ = some (.string s) := by rw [HC.out.below.cell (p := ⟨g, off + k, none⟩) g1]; exact g2
      have g4 : g < wr.heap.size := Nat.lt_of_lt_of_le g1 HC.out.below.size
      have HSS := Lib.hid hs
      have BN : Hid (Below wr.heap.size wr (wr.alloc (.cells #[.string s] 9))) := Below.new1 _
      clear hs g1 g2
      go_wp2_with (at_builtin; refine wpList_append_own _ rfl (.tmp 16) (.tmp 22) 24 rfl (w.heap.size + 1) 9 rj (.string ⟨#[]⟩) 1 16 Tryd.underlying24 Hj.out Hy0.out Hy1.out Hy2.out rfl (by decide) _ k (stk d.secs k) rfl (HC.out.own.alloc _) ⟨wr.heap.size, 0, none⟩ 1 1 [.string s] rfl rfl ?f1 ?f2 ?f3 ?f4 ?f5 ?_)
      case f1 => exact cell_new1 _ _ _ _ rfl
      case f2 => intro u hu; simp at hu; subst hu; rfl
      case f3 => unfold maxLen; omega
      case f4 => omega
      case f5 => simp; omega
      intro v5 w5 hown5 hgrow5 _
      have hrow : ∀ j, (Value.slice la k lc).ownBlock = some j → w.heap.size + 1 ≤ j := fun j hj => (HC.out.own.lt j hj).1
      have B5 : Below (w.heap.size + 1) wr w5 := ((Below.refl (w.heap.size + 1) wr).alloc (by omega) _).grown hgrow5 (by simp; omega) hrow
      have C5 : Hid (Cp d (k + 1) (.slice (some ⟨g, off, none⟩) d.secs.length c) (.slice b d.pend.length c2) dl dd w v5 w5) := by
        refine ⟨?_, HC.out.bx.nextB B5 (Nat.lt_succ_self _), HC.out.below.trans (B5.mono (Nat.le_succ _))⟩
        rw [stk_next HSS.out]
        exact hown5
      obtain ⟨la', lc', e5, -, -⟩ := SAt.own hown5 (by rw [List.length_append, stk_len hk]; rfl)
      rw [List.length_append, stk_len hk, List.length_singleton] at e5
      subst e5
      clear hown5 hgrow5 B5 hrow
      go_wp2_with fail
      go_roundw
      case rel => exact ⟨k + 1, la', lc', by omega, by congr 1, rfl, C5.out⟩
      case measure => simp [intOf]; omega
    case neg =>
      have cc0 : ¬ (k : Int) < (d.secs.length : Int) := by omega
      obtain rfl : k = d.secs.length := by omega
      obtain ⟨g, cap, e, gb, gc, hrow⟩ := own_some HC.out.own (stk_len (Nat.le_refl _)).symm (by omega)
      simp only [Value.slice.injEq] at e
      obtain ⟨rfl, -, rfl⟩ := e
      have P0 : Hid (Pf d 0 g (.slice a d.secs.length c) (.slice b d.pend.length c2) dl dd w wr) := by
        refine ⟨?_, HC.out.bx, HC.out.below⟩
        rw [stk_all (Nat.le_refl _)] at hrow
        exact hrow
      clear hrow HC
      go_wp2_with fail
      go_loopw [7] (fun i wr => PfRel d n g (.slice a d.secs.length c) (.slice b d.pend.length c2) dl dd w i wr) (fun i _ => n - (intOf i).toNat)
      case atStart => exact ⟨0, Nat.zero_le _, rfl, P0.out⟩
      case round =>
        clear P0 x0 x1 xl
        obtain ⟨j, hj, rfl, hP⟩ := hrel
        have HQ := Lib.hid hP
        have x1 := hP.bx.c1
        have xl := hP.bx.lt
        have gl := hP.row.lt
        have j0 : (0 : Int) ≤ (j : Int) := by omega
        clear hP
        by_cases dd1 : j < n
        case neg =>
          have dd0 : ¬ (j : Int) < (n : Int) := by omega
          obtain rfl : j = n := by omega
          go_wp2_with fail
          go_ret
          exact ⟨g, lc, rfl, gc, by omega, HQ.out.row, HQ.out.below⟩
        case pos =>
          have dd0 : (j : Int) < (n : Int) := by omega
          have jp : (j : Int) < (d.pend.length : Int) := by omega
          obtain ⟨p, hp⟩ : ∃ p, d.pend[j]? = some p := ⟨_, List.getElem?_eq_getElem (by omega)⟩
          obtain ⟨p0, p1, -⟩ := HPD.out p (List.mem_of_getElem? hp)
          obtain ⟨q, off, rfl, g1, g2, g3⟩ := HP.out j p hp
          obtain ⟨p1', s⟩ := p
          simp only at p0 p1 g2 g3
          obtain ⟨m, rfl⟩ := Int.eq_ofNat_of_zero_le p0
          have HPP := Lib.hid hp
          have y1 : wr.cell? ⟨q, off + j * 2, none⟩ = some (.int .i64 (m : Int)) := by rw [HQ.out.below.cell (p := ⟨q, off + j * 2, none⟩) g1]; exact g2
          have y2 : wr.cell? ⟨q, off + j * 2 + 1, none⟩ = some (.string s) := by rw [HQ.out.below.cell (p := ⟨q, off + j * 2 + 1, none⟩) g1]; exact g3
          have y3 : q < wr.heap.size := Nat.lt_of_lt_of_le g1 HQ.out.below.size
          have ml : m < (strs (perf d.secs (d.pend.take j))).length := by rw [strs_len, perf_len]; omega
          have r1 := HQ.out.row.c m _ (List.getElem?_eq_getElem ml)
          have r2 := HQ.out.row.fz m ml
          have qw : q ≠ g := by omega
          have wg : w.heap.size ≠ g := by omega
          have P5 : Hid (Pf d (j + 1) g (.slice a d.secs.length c) (.slice (some ⟨q, off, none⟩) d.pend.length c2) dl dd w (wr.setCell ⟨g, m, none⟩ (.string s))) := by
            refine ⟨?_, HQ.out.bx.nextB ((Below.refl (w.heap.size + 1) wr).setCell (by show w.heap.size + 1 ≤ g; omega) _) (Nat.lt_succ_self _), HQ.out.below.setCell (by show w.heap.size ≤ g; omega) _⟩
            rw [perf_next HPP.out, ← strs_set]
            have h := HQ.out.row.set m (.string s) ml
            exact h
          have z1 := P5.out.bx.c1
          have z2 : (wr.setCell ⟨g, m, none⟩ (.string s)).cell? ⟨q, off + j * 2, none⟩ = some (.int .i64 (m : Int)) := by rw [World.cell?_of_block (Below.heap_setCell _ _ _ _ (by show q ≠ g; exact qw))]; exact y1
          have z3 : (wr.setCell ⟨g, m, none⟩ (.string s)).cell? ⟨q, off + j * 2 + 1, none⟩ = some (.string s) := by rw [World.cell?_of_block (Below.heap_setCell _ _ _ _ (by show q ≠ g; exact qw))]; exact y2
          clear hp g1 g2 g3
          go_wp2_with fail
          refine wp_region_held_drew (S := fun w' => w'.cell? ⟨w.heap.size, 1, none⟩ = some (.slice (some ⟨q, off, none⟩) d.pend.length c2) ∧ w'.cell? ⟨q, off + j * 2, none⟩ = some (.int .i64 (m : Int)) ∧ w'.cell? ⟨q, off + j * 2 + 1, none⟩ = some (.string s)) (by kernel_rfl) ?_ (fun hHeld => ?_)
          · exact ⟨x1, y1, y2⟩
          refine takeN0 (v := ?_) (by kernel_rfl) (by kernel_rfl) (by kernel_rfl) (fun _ _ _ h => h) (by rfl) ?_ (by assumption) ?_
          rotate_left
          · intro wz hSw
            try dsimp only at hSw
            go_simp
            try with_reducible rfl
          try simp only [Act.put, List.setIfInBounds_toArray, List.set_cons_zero, List.set_cons_succ]
          refine takeN1 (v := ?_) (by kernel_rfl) (by kernel_rfl) (by kernel_rfl) (fun _ _ _ h => h) (by rfl) ?_ (by assumption) ?_
          rotate_left
          · intro wz hSw
            try dsimp only at hSw
            go_simp
            try with_reducible rfl
          try simp only [Act.put, List.setIfInBounds_toArray, List.set_cons_zero, List.set_cons_succ]
          refine takeN2 (v := ?_) (by kernel_rfl) (by kernel_rfl) (by kernel_rfl) (fun _ _ _ h => h) (by rfl) ?_ (by assumption) ?_
          rotate_left
          · intro wz hSw
            try dsimp only at hSw
            go_simp
            try with_reducible rfl
          try simp only [Act.put, List.setIfInBounds_toArray, List.set_cons_zero, List.set_cons_succ]
          refine takeN3 (v := ?_) (by kernel_rfl) (by kernel_rfl) (by kernel_rfl) (fun _ _ _ h => h) (by rfl) ?_ (by assumption) ?_
          rotate_left
          · intro wz hSw
            try dsimp only at hSw
            go_simp
            try with_reducible rfl
          try simp only [Act.put, List.setIfInBounds_toArray, List.set_cons_zero, List.set_cons_succ]
          refine takeN4 (v := ?_) (by kernel_rfl) (by kernel_rfl) (by kernel_rfl) (fun _ _ _ h => h) (by rfl) ?_ (by assumption) ?_
          rotate_left
          · intro wz hSw
            try dsimp only at hSw
            go_simp
            try with_reducible rfl
          try simp only [Act.put, List.setIfInBounds_toArray, List.set_cons_zero, List.set_cons_succ]
          refine takeN5 (v := ?_) (by kernel_rfl) (by kernel_rfl) (by kernel_rfl) (fun _ _ _ h => h) (by rfl) ?_ (by assumption) ?_
          rotate_left
          · intro wz hSw
            try dsimp only at hSw
            go_simp
            try with_reducible rfl
          try simp only [Act.put, List.setIfInBounds_toArray, List.set_cons_zero, List.set_cons_succ]
          refine takeN6 (v := ?_) (by kernel_rfl) (by kernel_rfl) (by kernel_rfl) (fun _ _ _ h => h) (by rfl) ?_ (by assumption) ?_
          rotate_left
          · intro wz hSw
            try dsimp only at hSw
            go_simp
            try with_reducible rfl
          try simp only [Act.put, List.setIfInBounds_toArray, List.set_cons_zero, List.set_cons_succ]
          refine takeN7 (v := ?_) (by kernel_rfl) (by kernel_rfl) (by kernel_rfl) (fun _ _ _ h => h) (by rfl) ?_ (by assumption) ?_
          rotate_left
          · intro wz hSw
            try dsimp only at hSw
            go_simp
            try with_reducible rfl
          try simp only [Act.put, List.setIfInBounds_toArray, List.set_cons_zero, List.set_cons_succ]
          refine takeN8 (v := ?_) (by kernel_rfl) (by kernel_rfl) (by kernel_rfl) (fun _ _ _ h => h) (by rfl) ?_ (by assumption) ?_
          rotate_left
          · intro wz hSw
            try dsimp only at hSw
            go_simp
            try with_reducible rfl
          try simp only [Act.put, List.setIfInBounds_toArray, List.set_cons_zero, List.set_cons_succ]
          refine takeN9 (v := ?_) (by kernel_rfl) (by kernel_rfl) (by kernel_rfl) (fun _ _ _ h => h) (by rfl) ?_ (by assumption) ?_
          rotate_left
          · intro wz hSw
            try dsimp only at hSw
            go_simp
            try with_reducible rfl
          try simp only [Act.put, List.setIfInBounds_toArray, List.set_cons_zero, List.set_cons_succ]
          refine takeN10 (v := ?_) (by kernel_rfl) (by kernel_rfl) (by kernel_rfl) (fun _ _ _ h => h) (by rfl) ?_ (by assumption) ?_
          rotate_left
          · intro wz hSw
            try dsimp only at hSw
            go_simp
            try with_reducible rfl
          try simp only [Act.put, List.setIfInBounds_toArray, List.set_cons_zero, List.set_cons_succ]
          refine takeN11 (v := ?_) (by kernel_rfl) (by kernel_rfl) (by kernel_rfl) (fun _ _ _ h => h) (by rfl) ?_ (by assumption) ?_
          rotate_left
          · intro wz hSw
            try dsimp only at hSw
            go_simp
            try with_reducible rfl
          try simp only [Act.put, List.setIfInBounds_toArray, List.set_cons_zero, List.set_cons_succ]
          refine takeN12 (v := ?_) (by kernel_rfl) (by kernel_rfl) (by kernel_rfl) (fun _ _ _ h => h) (by rfl) ?_ (by assumption) ?_
          rotate_left
          · intro wz hSw
            try dsimp only at hSw
            go_simp
            try with_reducible rfl
          try simp only [Act.put, List.setIfInBounds_toArray, List.set_cons_zero, List.set_cons_succ]
          refine takeN13 (v := ?_) (by kernel_rfl) (by kernel_rfl) (by kernel_rfl) (fun _ _ _ h => h) (by rfl) ?_ (by assumption) ?_
          rotate_left
          · intro wz hSw
            try dsimp only at hSw
            go_simp
            try with_reducible rfl
          try simp only [Act.put, List.setIfInBounds_toArray, List.set_cons_zero, List.set_cons_succ]
          refine comeN14 (by kernel_rfl) (by rfl) (fun K hK => ?_)
          go_simp
          refine hK.out _ _ ?_ (fun hHeld => ?_)
          · exact ⟨z1, z2, z3⟩
          clear hK K
          try simp only [Act.put, List.setIfInBounds_toArray, List.set_cons_zero, List.set_cons_succ]
          refine wpAnyH_done (by kernel_rfl) ?_ _
          clear z1 z2 z3 hHeld r1 r2
          go_wp2_with fail
          go_roundw
          case rel => exact ⟨j + 1, by omega, by congr 1, ⟨P5.out.row.next (Below.refl _ _).drew, P5.out.bx.next (Below.refl _ _).drew, chain P5.out.below (Below.refl _ _).drew⟩⟩
          case measure => simp [intOf]; omega

end Go.Proofs.YtemldlhhlneleaaDoor
