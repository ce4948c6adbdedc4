/-
  The reference of journal: ready, Log, Current, Size.
-/
import Derived.Test.YtemldlhhlneleaaDoorJrA
namespace Go.Proofs.YtemldlhhlneleaaDoor.Jn
open Go.RowKit Dk Wi

theorem mkB_app (l : S) (x : B) : mkB l ++ x = mkB (l ++ x.data.toList) := by
  show mkB l ++ mkB x.data.toList = _
  exact ByteArray.mk_append_mk _ _
theorem mkB_size (l : S) : (mkB l).size = l.length := rfl
theorem lg_next {l : List B} {k : Nat} {x : B} (hk : 2 ≤ k) (h : l[k]? = some x) : lg (l.take (k + 1)) = lg (l.take k) ++ x.data.toList := by
  have hl := (List.getElem?_eq_some_iff.1 h).1
  unfold lg
  rw [List.take_add_one, h, List.drop_append_of_le_length (by rw [List.length_take]; omega)]
  simp
theorem lg_two (l : List B) : lg (l.take 2) = [] := by
  unfold lg
  rw [List.drop_eq_nil_of_le (by rw [List.length_take]; omega)]
  rfl
theorem lg_take_len {l : List B} (h : ∀ b ∈ l, b.size = 16) (k : Nat) : (lg (l.take k)).length ≤ 16 * l.length := by
  rw [lg_len (fun b hb => h b (List.mem_of_mem_take hb)), List.length_take]
  omega

theorem ready_x (v : Value) (d : D) (w : World) (h : DAt w v d) (hf : Fit d) :
    Calls Tryd.prog 35 #[v] w fun r w' => r = .returned (.int .i64 (rdy d)) ∧ Below w.heap.size w w' := by
  have hl := hf.pend
  obtain ⟨a, c, b, c2, rfl, -, -, -, -⟩ := h.form
  obtain ⟨dl, hdl⟩ : ∃ x, d.left = x := ⟨_, rfl⟩
  obtain ⟨dd, hdd⟩ : ∃ x, d.down = x := ⟨_, rfl⟩
  rw [hdl, hdd] at h
  have HC := Lib.hid (Check_x _ d _ (h.next (Below.new1 (.cells #[.slice a d.secs.length c, .slice b d.pend.length c2, .int .i64 dl, .bool dd] 27))) hf)
  rw [hdl, hdd]
  have HDN := Lib.hid hdd
  clear h hf hdl hdd
  obtain ⟨cb, hcb⟩ : ∃ x, checkB d = x := ⟨_, rfl⟩
  have HCB := Lib.hid hcb
  clear hcb
  go_enter Tryd.func35, Tryd.ntmps35
  go_wp2_with fail
  refine HC.out.mono ?_
  rintro r w1 ⟨rfl, b1⟩
  have BX := (Bx.new w (.slice a d.secs.length c) (.slice b d.pend.length c2) dl dd 27).next b1
  have x1 := BX.c1
  have x3 := BX.c3
  have xl := BX.lt
  have B1 := Lib.hid (chain (Below.new1 _) b1)
  clear b1 HC BX
  cases cb with
  | false =>
    have hc : chk d = 1 := chk_no HCB.out
    have hv : Hid (rdy d = 1) := by show _ = _; unfold rdy upE; rw [HCB.out]; rfl
    rw [hc]
    clear hc
    go_wp2_with fail
    go_ret
    exact ⟨by rw [hv.out]; try rfl, B1.out⟩
  | true =>
    have hc : chk d = 0 := chk_yes HCB.out
    rw [hc]
    clear hc
    cases dd with
    | true =>
      have hv : Hid (rdy d = 8) := by show _ = _; unfold rdy upE; rw [HCB.out, HDN.out]; rfl
      go_wp2_with fail
      go_ret
      exact ⟨by rw [hv.out]; try rfl, B1.out⟩
    | false =>
      have hu : Hid (upE d = 0) := by show _ = _; unfold upE; rw [HCB.out, HDN.out]; rfl
      by_cases e : 0 < d.pend.length
      · have e1 : 0 < (d.pend.length : Int) := by omega
        have hv : Hid (rdy d = 7) := by
          show _ = _
          unfold rdy
          rw [if_pos hu.out, if_neg (fun q => by rw [q] at e; simp at e)]
        clear e
        go_wp2_with fail
        go_ret
        exact ⟨by rw [hv.out]; try rfl, B1.out⟩
      · have e1 : ¬ 0 < (d.pend.length : Int) := by omega
        have hv : Hid (rdy d = 0) := by
          show _ = _
          unfold rdy
          rw [if_pos hu.out, if_pos (List.eq_nil_of_length_eq_zero (by omega))]
        clear e
        go_wp2_with fail
        go_ret
        exact ⟨by rw [hv.out]; try rfl, B1.out⟩

def LgRel (d : D) (w : World) (s i : Value) (wr : World) : Prop := ∃ k : Nat, 2 ≤ k ∧ (k ≤ d.secs.length ∨ k = 2) ∧ i = .int .i64 (k : Int) ∧ s = .string (mkB (lg (d.secs.take k))) ∧ w = wr
set_option maxRecDepth 100000 in
theorem Log_x (v : Value) (d : D) (w : World) (h : DAt w v d) (hc : checkB d = true) :
    Calls Tryd.prog 31 #[v] w fun r w' => r = .returned (.string (mkB (lg d.secs))) ∧ Below w.heap.size w w' := by
  obtain ⟨hn, hs, -, -⟩ := check_iff.1 hc
  have HS16 := Lib.hid hs
  obtain ⟨a, c, b, c2, rfl, -, -, HS, -⟩ := h.form
  obtain ⟨dl, hdl⟩ : ∃ x, d.left = x := ⟨_, rfl⟩
  obtain ⟨dd, hdd⟩ : ∃ x, d.down = x := ⟨_, rfl⟩
  have n5 : d.secs.length ≤ 512 := hn.2.1
  rw [hdl, hdd]
  clear h hc hdl hdd hs hn
  go_enter Tryd.func31, Tryd.ntmps31
  go_wp2_with fail
  go_loopw [3, 4] (fun s i wr => LgRel d (w.alloc (.cells #[.slice a d.secs.length c, .slice b d.pend.length c2, .int .i64 dl, .bool dd] 27)) s i wr) (fun _ i _ => d.secs.length - (intOf i).toNat)
  case atStart => exact ⟨2, Nat.le_refl _, .inr rfl, rfl, by rw [lg_two]; rfl, rfl⟩
  case round =>
    obtain ⟨k, hk2, hk, rfl, rfl, rfl⟩ := hrel
    have k0 : (0 : Int) ≤ (k : Int) := by omega
    by_cases cc : k < d.secs.length
    case pos =>
      have cc0 : (k : Int) < (d.secs.length : Int) := by omega
      obtain ⟨s, hs⟩ : ∃ s, d.secs[k]? = some s := ⟨_, List.getElem?_eq_getElem cc⟩
      obtain ⟨g, off, rfl, g1, g2⟩ := HS.out k s hs
      have sb := HS16.out s (List.mem_of_getElem? hs)
      have sz : (mkB (lg (d.secs.take k))).size ≤ 8192 := by rw [mkB_size]; have := lg_take_len HS16.out k; omega
      have HN := Lib.hid (lg_next hk2 hs)
      clear hs
      go_wp2_with fail
      go_roundw
      case rel => exact ⟨k + 1, by omega, by omega, by congr 1, by rw [HN.out, ← mkB_app], rfl⟩
      case measure => simp [intOf]; omega
    case neg =>
      have cc0 : ¬ (k : Int) < (d.secs.length : Int) := by omega
      have hv : Hid (lg (d.secs.take k) = lg d.secs) := by show _ = _; rw [List.take_of_length_le (by omega)]
      go_wp2_with fail
      go_ret
      exact ⟨by rw [← hv.out]; try rfl, Below.new1 _⟩

set_option maxRecDepth 100000 in
theorem Current_x (v : Value) (d : D) (w : World) (h : DAt w v d) (hc : checkB d = true) (h2 : 2 ≤ d.secs.length) :
    Calls Tryd.prog 39 #[v] w fun r w' => r = .returned (.int .i64 (curI d.secs)) ∧ Below w.heap.size w w' := by
  obtain ⟨-, hs, -, -⟩ := check_iff.1 hc
  obtain ⟨a, c, b, c2, rfl, -, -, HS, -⟩ := h.form
  obtain ⟨dl, hdl⟩ : ∃ x, d.left = x := ⟨_, rfl⟩
  obtain ⟨dd, hdd⟩ : ∃ x, d.down = x := ⟨_, rfl⟩
  rw [hdl, hdd]
  obtain ⟨s0, q0⟩ : ∃ s, d.secs[0]? = some s := ⟨_, List.getElem?_eq_getElem (by omega)⟩
  obtain ⟨s1, q1⟩ : ∃ s, d.secs[1]? = some s := ⟨_, List.getElem?_eq_getElem (by omega)⟩
  obtain ⟨g, off, rfl, g1, g2⟩ := HS.out 0 s0 q0
  obtain ⟨g', off', e, -, g3⟩ := HS.out 1 s1 q1
  have g2 : w.cell? ⟨g, off, none⟩ = some (.string s0) := g2
  injection e with e
  injection e with e1 e2 _
  subst e1
  subst e2
  have sb0 := hs s0 (List.mem_of_getElem? q0)
  have sb1 := hs s1 (List.mem_of_getElem? q1)
  obtain ⟨n0, hn0⟩ : ∃ x, num s0 = x := ⟨_, rfl⟩
  obtain ⟨n1, hn1⟩ : ∃ x, num s1 = x := ⟨_, rfl⟩
  have c0 : hn d.secs 0 = n0 := by unfold hn; rw [q0]; exact hn0
  have c1 : hn d.secs 1 = n1 := by unfold hn; rw [q1]; exact hn1
  have HV : Hid (curI d.secs = if n0 < 0 ∧ n1 < 0 then -1 else if n0 < n1 then 1 else 0) := by show _ = _; unfold curI; rw [c0, c1]
  have p0 : (0 : Int) < (d.secs.length : Int) := by omega
  have p1 : (1 : Int) < (d.secs.length : Int) := by omega
  have H0 : Hid (∀ W, Calls Tryd.prog 33 #[.string s0] W fun e w' => e = .returned (.int .i64 n0) ∧ Below W.heap.size W w') := by
    show ∀ W, _
    intro W
    rw [← hn0]
    exact Number_x s0 W (by rw [sb0]; decide)
  have H1 : Hid (∀ W, Calls Tryd.prog 33 #[.string s1] W fun e w' => e = .returned (.int .i64 n1) ∧ Below W.heap.size W w') := by
    show ∀ W, _
    intro W
    rw [← hn1]
    exact Number_x s1 W (by rw [sb1]; decide)
  clear h hc hdl hdd hs c0 c1 hn0 hn1 q0 q1 HS sb0 sb1 h2
  go_enter Tryd.func39, Tryd.ntmps39
  go_wp2_with fail
  refine (H0.out _).mono ?_
  rintro r w1 ⟨rfl, b1⟩
  have BX := (Bx.new w (.slice (some ⟨g, off, none⟩) d.secs.length c) (.slice b d.pend.length c2) dl dd 27).next b1
  have B1 := Lib.hid (chain (Below.new1 _) b1)
  have HX := Lib.hid BX
  have x0 := BX.c0
  have xl := BX.lt
  have g4 : w1.cell? ⟨g, off + 1, none⟩ = some (.string s1) := by rw [B1.out.cell (p := ⟨g, off + 1, none⟩) g1]; exact g3
  have g5 : g < w1.heap.size := Nat.lt_of_lt_of_le g1 B1.out.size
  clear b1 BX H0
  go_wp2_with fail
  refine (H1.out _).mono ?_
  rintro r w2 ⟨rfl, b2⟩
  have B2 := Lib.hid (chain B1.out b2)
  clear b2 H1
  by_cases t0 : n0 < 0
  · by_cases t1 : n1 < 0
    · have hv : Hid (curI d.secs = -1) := by show _ = _; rw [HV.out, if_pos ⟨t0, t1⟩]
      go_wp2_with fail
      go_ret
      exact ⟨by rw [hv.out]; try rfl, B2.out⟩
    · have t2 : n0 < n1 := by omega
      have hv : Hid (curI d.secs = 1) := by show _ = _; rw [HV.out, if_neg (fun q => t1 q.2), if_pos t2]
      go_wp2_with fail
      go_ret
      exact ⟨by rw [hv.out]; try rfl, B2.out⟩
  · by_cases t2 : n0 < n1
    · have hv : Hid (curI d.secs = 1) := by show _ = _; rw [HV.out, if_neg (fun q => t0 q.1), if_pos t2]
      go_wp2_with fail
      go_ret
      exact ⟨by rw [hv.out]; try rfl, B2.out⟩
    · have hv : Hid (curI d.secs = 0) := by show _ = _; rw [HV.out, if_neg (fun q => t0 q.1), if_neg t2]
      go_wp2_with fail
      go_ret
      exact ⟨by rw [hv.out]; try rfl, B2.out⟩

/-! Size -/
def SzRel (l : List B) (w : World) (n i : Value) (wr : World) : Prop := ∃ k : Nat, k ≤ l.length ∧ i = .int .i64 (k : Int) ∧ n = .int .i64 ((encA ((l.take k).map fun b => b.data.toList)).length : Int) ∧ w = wr
theorem enc_next {l : List B} {k : Nat} {x : B} (h : l[k]? = some x) : encA ((l.take (k + 1)).map fun b => b.data.toList) = encA ((l.take k).map fun b => b.data.toList) ++ Wm.encS x.data.toList := by
  rw [List.take_add_one, h, List.map_append]
  exact encA_snoc _ _
theorem enc_small (x : S) (h : x.length ≤ 1099511627776) : (Wm.encS x).length ≤ 1099511627798 := by
  have := (Wm.encI_len (x.length : Int)).2
  unfold Wm.encS
  rw [List.length_append]
  omega
theorem enc_le {l : List B} {m : Nat} (h : (encA (l.map fun b => b.data.toList)).length ≤ m) (k : Nat) : (encA ((l.take k).map fun b => b.data.toList)).length ≤ m := by
  refine Nat.le_trans ?_ h
  have e : l.map (fun b => b.data.toList) = (l.take k).map (fun b => b.data.toList) ++ (l.drop k).map fun b => b.data.toList := by rw [← List.map_append, List.take_append_drop]
  rw [e]
  unfold encA
  rw [List.map_append, List.flatten_append, List.length_append]
  omega
set_option maxRecDepth 100000 in
theorem Size_x (v : Value) (l : List B) (w : World) (h : SAt w v (strs l)) (hl : l.length ≤ 1099511627776) (hs : ∀ s ∈ l, s.size ≤ 1099511627776) (hm : (encA (l.map fun b => b.data.toList)).length ≤ 1099511627776) :
    Calls Tryd.prog 37 #[v] w fun r w' => r = .returned (.int .i64 ((encA (l.map fun b => b.data.toList)).length : Int)) ∧ w = w' := by
  obtain ⟨a, c, rfl, -, hg⟩ := h
  have HG : Hid (∀ (j : Nat) (x : B), l[j]? = some x → ∃ g off, a = some ⟨g, off, none⟩ ∧ g < w.heap.size ∧ w.cell? ⟨g, off + j, none⟩ = some (.string x)) := fun j x hx => hg j _ (strs_get hx)
  have ll : (strs l).length = l.length := by simp
  rw [ll]
  have HM := Lib.hid (enc_le hm)
  have HSZ := Lib.hid hs
  clear hg ll hm hs
  go_enter Tryd.func37, Tryd.ntmps37
  go_wp2_with fail
  go_loopw [3, 4] (fun n i wr => SzRel l w n i wr) (fun _ i _ => l.length - (intOf i).toNat)
  case atStart => exact ⟨0, Nat.zero_le _, rfl, rfl, rfl⟩
  case round =>
    obtain ⟨k, hk, rfl, rfl, rfl⟩ := hrel
    have k0 : (0 : Int) ≤ (k : Int) := by omega
    by_cases cc : k < l.length
    case pos =>
      have cc0 : (k : Int) < (l.length : Int) := by omega
      obtain ⟨s, hs⟩ : ∃ s, l[k]? = some s := ⟨_, List.getElem?_eq_getElem cc⟩
      obtain ⟨g, off, rfl, g1, g2⟩ := HG.out k s hs
      have hsz := HSZ.out s (List.mem_of_getElem? hs)
      have HR := Lib.hid (RString_x s w hsz)
      have he := HM.out (k + 1)
      have HE : Hid _ := Lib.hid (enc_next hs)
      rw [enc_next hs, List.length_append] at he
      obtain ⟨m, hm⟩ : ∃ m, (encA ((l.take k).map fun b => b.data.toList)).length = m := ⟨_, rfl⟩
      obtain ⟨t, ht⟩ : ∃ t, Wm.encS s.data.toList = t := ⟨_, rfl⟩
      rw [hm, ht] at he
      have HT := Lib.hid ht
      have HMM := Lib.hid hm
      rw [hm]
      clear hs hm ht
      go_wp2_with fail
      refine HR.out.mono ?_
      rintro r w1 ⟨rfl, rfl⟩
      rw [HT.out]
      have e5 : (mk t).size = t.length := rfl
      have w5 : IntKind.i64.wrap ((m : Int) + (t.length : Int)) = (m : Int) + (t.length : Int) := IntWalk.i64_in _ (by omega)
      go_wp2_with fail
      go_roundw
      case rel => exact ⟨k + 1, by omega, by congr 1, by rw [HE.out, List.length_append, HMM.out, HT.out]; congr 1, rfl⟩
      case measure => simp [intOf]; omega
    case neg =>
      have cc0 : ¬ (k : Int) < (l.length : Int) := by omega
      have hv : Hid ((l.map fun b => b.data.toList).take k = l.map fun b => b.data.toList) := List.take_of_length_le (by rw [List.length_map]; omega)
      go_wp2_with fail
      go_ret
      exact ⟨by rw [hv.out]; try rfl, rfl⟩

end Go.Proofs.YtemldlhhlneleaaDoor.Jn
