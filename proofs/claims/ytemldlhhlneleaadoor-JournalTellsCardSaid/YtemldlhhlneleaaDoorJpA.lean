/-
  The program's journal: checkReady, readHeader, currentHeader.
-/
import Derived.Test.YtemldlhhlneleaaDoorJrC
import Derived.Laws.IdiomStrings
namespace Go.Proofs.YtemldlhhlneleaaDoor.Jn
open Go.RowKit Dk Wi

theorem checkReady_x (ok : DiskOk) (v : Value) (d : D) (w : World) (h : DAt w v d) (hf : Fit d) :
    Calls Tryd.prog 45 #[v] w fun r w' => r = .returned (.int .i64 (rdy d)) ∧ Below w.heap.size w w' := by
  have hl := hf.pend
  obtain ⟨a, c, b, c2, rfl, -, -, -, -⟩ := h.form
  obtain ⟨dl, hdl⟩ : ∃ x, d.left = x := ⟨_, rfl⟩
  obtain ⟨dd, hdd⟩ : ∃ x, d.down = x := ⟨_, rfl⟩
  rw [hdl, hdd] at h
  have HC := Lib.hid (ok.check _ d _ (h.next (Below.new1 (.cells #[.slice a d.secs.length c, .slice b d.pend.length c2, .int .i64 dl, .bool dd] 27))) hf)
  rw [hdl, hdd]
  have HDN := Lib.hid hdd
  clear h hf hdl hdd
  obtain ⟨cb, hcb⟩ : ∃ x, checkB d = x := ⟨_, rfl⟩
  have HCB := Lib.hid hcb
  clear hcb
  go_enter Tryd.func45, Tryd.ntmps45
  go_wp2_with fail
  refine HC.out.mono ?_
  rintro r w1 ⟨rfl, b1⟩
  have BX := (Bx.new w (.slice a d.secs.length c) (.slice b d.pend.length c2) dl dd 27).next b1
  have x1 := BX.c1
  have x3 := BX.c3
  have xl := BX.lt
  have B1 := Lib.hid (chain (Below.new1 _) b1)
  clear b1 HC BX
  cases cb with
  | false =>
    have hc : chk d = 1 := chk_no HCB.out
    have hv : Hid (rdy d = 1) := by show _ = _; unfold rdy upE; rw [HCB.out]; rfl
    rw [hc]
    clear hc
    go_wp2_with fail
    go_ret
    exact ⟨by rw [hv.out]; try rfl, B1.out⟩
  | true =>
    have hc : chk d = 0 := chk_yes HCB.out
    rw [hc]
    clear hc
    cases dd with
    | true =>
      have hv : Hid (rdy d = 8) := by show _ = _; unfold rdy upE; rw [HCB.out, HDN.out]; rfl
      go_wp2_with fail
      go_ret
      exact ⟨by rw [hv.out]; try rfl, B1.out⟩
    | false =>
      have hu : Hid (upE d = 0) := by show _ = _; unfold upE; rw [HCB.out, HDN.out]; rfl
      by_cases e : 0 < d.pend.length
      · have e1 : 0 < (d.pend.length : Int) := by omega
        have hv : Hid (rdy d = 7) := by
          show _ = _
          unfold rdy
          rw [if_pos hu.out, if_neg (fun q => by rw [q] at e; simp at e)]
        clear e
        go_wp2_with fail
        go_ret
        exact ⟨by rw [hv.out]; try rfl, B1.out⟩
      · have e1 : ¬ 0 < (d.pend.length : Int) := by omega
        have hv : Hid (rdy d = 0) := by
          show _ = _
          unfold rdy
          rw [if_pos hu.out, if_pos (List.eq_nil_of_length_eq_zero (by omega))]
        clear e
        go_wp2_with fail
        go_ret
        exact ⟨by rw [hv.out]; try rfl, B1.out⟩


/-! readHeader -/
def rhN (b : B) : Int := if num b < 0 then 0 else num b
def rhB (b : B) : Bool := decide (0 ≤ num b)
theorem rh_no {b : B} (h : num b = -1) : rhN b = 0 ∧ rhB b = false := by unfold rhN rhB; rw [h]; exact ⟨rfl, rfl⟩
theorem rh_yes {b : B} {v : Nat} (h : num b = (v : Int)) : rhN b = (v : Int) ∧ rhB b = true := by
  unfold rhN rhB
  rw [h]
  exact ⟨if_neg (by omega), decide_eq_true (by omega)⟩
def RhRel (A : S) (w : World) (n i : Value) (wr : World) : Prop := ∃ k v : Nat, k ≤ 8 ∧ i = .int .i64 (k : Int) ∧ n = .int .i64 (v : Int) ∧ v < 10 ^ k ∧ digs 0 (A.take k) = some v ∧ Below w.heap.size w wr

theorem toList_data (b : B) : b.toList = b.data.toList := toList_mk b.data.toList
theorem bytes_new (b : B) (w : World) : ∃ c W', (convert 9 71 (.string b)).run Tryd.prog w = .ok (.slice (some ⟨w.heap.size, 0, none⟩) b.size c) W' ∧ Below w.heap.size w W' ∧ w.heap.size < W'.heap.size ∧
    Hid (∀ (k : Nat) (h : k < b.size), W'.cell? ⟨w.heap.size, k, none⟩ = some (.int .u8 (b[k].toNat : Int))) := by
  refine ⟨_, _, run_bytes_of_string (P := Tryd.prog) w 9 71 5 b Tryd.underlying9 Tryd.underlying71 Tryd.underlying5, ((Below.refl w.heap.size w).drew).alloc (Nat.le_refl _) _, by simp, fun k h => ?_⟩
  have e := World.cell?_alloc_mark w.drew (bytesRow b (grownCap w b.size 0 5)) 5 ((bytesRow b (grownCap w b.size 0 5)).size, (bytesRow b (grownCap w b.size 0 5)).size + 1) k
  refine Eq.trans e ?_
  exact bytesRow_at b _ k h

set_option maxHeartbeats 3200000 in
set_option maxRecDepth 100000 in
theorem readHeader_x (b : B) (w : World) (h16 : b.size = 16) :
    Calls Tryd.prog 73 #[.string b] w fun r w' => r = .returned (.tuple #[.int .i64 (rhN b), .bool (rhB b)]) ∧ Below w.heap.size w w' := by
  have H16 := Lib.hid h16
  obtain ⟨p, hp⟩ : ∃ p, b.extract 0 8 = p := ⟨_, rfl⟩
  obtain ⟨q, hq⟩ : ∃ q, b.extract 8 16 = q := ⟨_, rfl⟩
  have hpl : p.data.toList = b.data.toList.take 8 := by rw [← hp, ByteArray.data_extract, Array.toList_extract, List.extract_eq_take_drop]; rfl
  have hql : q.data.toList = b.data.toList.drop 8 := by
    rw [← hq, ByteArray.data_extract, Array.toList_extract, List.extract_eq_take_drop, List.take_of_length_le]
    rw [List.length_drop, size_list, h16]
    exact Nat.le_refl _
  have HPL := Lib.hid hpl
  have HQL := Lib.hid hql
  have ps : p.size = 8 := by rw [← size_list, hpl, List.length_take, size_list, h16]; rfl
  have hpk : ∀ (k : Nat) (h : k < p.size), p[k] = b[k]'(by omega) := by
    intro k h
    have h1 := ba_list h
    have h2 := ba_list (t := b) (i := k) (by omega)
    rw [hpl, List.getElem?_take_of_lt (by omega), h2] at h1
    exact (Option.some.inj h1).symm
  have HPK := Lib.hid hpk
  clear hpl hql hpk
  by_cases e : p = q
  case neg =>
    have e1 : (!p.toList == q.toList) = true := by
      rw [Bool.not_eq_true', beq_eq_false_iff_ne]
      intro h
      rw [toList_data, toList_data] at h
      exact e (ByteArray.ext (Array.ext' h))
    have hv : Hid (num b = -1) := by
      show _ = _
      unfold num numL
      split
      · next v' hv' =>
        split at hv'
        · next u => exact absurd (ByteArray.ext (Array.ext' (by rw [HPL.out, HQL.out]; exact u.2))) e
        · cases hv'
      · rfl
    have hr := Lib.hid (rh_no hv.out)
    clear e
    go_enter Tryd.func73, Tryd.ntmps73
    go_wp2_with fail
    go_ret2
    exact ⟨by rw [hr.out.1, hr.out.2]; try rfl, Below.refl _ _⟩
  case pos =>
  have e1 : (!p.toList == q.toList) = false := by rw [e]; simp
  have HE : Hid (b.data.toList.take 8 = (b.data.toList.drop 8).take 8) := by
    show _ = _
    rw [← HPL.out, e, HQL.out]
    symm
    apply List.take_of_length_le
    rw [List.length_drop, size_list, h16]
    decide
  clear e
  obtain ⟨c, wb, hcv, bb, lb, HC⟩ := bytes_new p w
  have BB := Lib.hid bb
  have LB := Lib.hid lb
  clear bb
  go_enter Tryd.func73, Tryd.ntmps73
  go_wp2_with fail
  go_loopw [2, 16] (fun n i wr => RhRel p.data.toList w n i wr ∧ wr = wb) (fun _ i _ => 8 - (intOf i).toNat)
  case atStart => exact ⟨⟨0, 0, Nat.zero_le _, rfl, rfl, by decide, rfl, BB.out⟩, rfl⟩
  case round =>
    obtain ⟨⟨k, v, hk, rfl, rfl, hv10, hv, -⟩, rfl⟩ := hrel
    have k0 : (0 : Int) ≤ (k : Int) := by omega
    have v8 : v < 100000000 := Nat.lt_of_lt_of_le hv10 (Nat.pow_le_pow_right (by omega) hk)
    have HV := Lib.hid hv
    have H10 := Lib.hid hv10
    clear hv hv10
    by_cases c : k < 8
    case neg =>
      have c0 : ¬ (k : Int) < 8 := by omega
      obtain rfl : k = 8 := by omega
      have hr : Hid (num b = (v : Int)) := num_done H16.out (by have := HV.out; rw [HPL.out, List.take_take] at this; exact this) HE.out
      have hr2 := Lib.hid (rh_yes hr.out)
      clear c c0
      go_wp2_with fail
      go_ret2
      exact ⟨by rw [hr2.out.1, hr2.out.2]; try rfl, BB.out⟩
    case pos =>
      have c0 : (k : Int) < 8 := by omega
      have kp : k < p.size := by omega
      have g2 := HC.out k kp
      have gl := LB.out
      obtain ⟨x, hx⟩ : ∃ x, p[k] = x := ⟨_, rfl⟩
      rw [hx] at g2
      have HX : Hid (b[k]'(by omega) = x) := by show _ = _; rw [← HPK.out k kp]; exact hx
      have HXL : Hid (p.data.toList[k]? = some x) := by show _ = _; rw [← hx]; exact ba_list kp
      have x255 : x.toNat ≤ 255 := by have := x.toNat_lt; omega
      clear hx
      by_cases l1 : x.toNat < 48
      · have hr : Hid (num b = -1) := num_bad H16.out c (by have := HV.out; rw [HPL.out, List.take_take, Nat.min_eq_left (by omega)] at this; exact this) (by rw [HX.out]; omega)
        have hr2 := Lib.hid (rh_no hr.out)
        have lo1 : ((x.toNat : Int) < 48) := by omega
        have lo2 : (x.toNat < 48) := by omega
        clear l1
        go_wp2_with fail
        go_ret2
        exact ⟨by rw [hr2.out.1, hr2.out.2]; try rfl, BB.out⟩
      by_cases l2 : 57 < x.toNat
      · have hr : Hid (num b = -1) := num_bad H16.out c (by have := HV.out; rw [HPL.out, List.take_take, Nat.min_eq_left (by omega)] at this; exact this) (by rw [HX.out]; omega)
        have hr2 := Lib.hid (rh_no hr.out)
        have lo1 : ¬ ((x.toNat : Int) < 48) := by omega
        have lo2 : ¬ (x.toNat < 48) := by omega
        have hi1 : (57 < (x.toNat : Int)) := by omega
        have hi2 : (57 < x.toNat) := by omega
        clear l1 l2
        go_wp2_with fail
        go_ret2
        exact ⟨by rw [hr2.out.1, hr2.out.2]; try rfl, BB.out⟩
      · have HV2 := Lib.hid (digs_next HV.out HXL.out ⟨by omega, by omega⟩)
        have H102 : Hid (10 * v + (x.toNat - 48) < 10 ^ (k + 1)) := by
          show _ < _
          have := H10.out
          rw [Nat.pow_succ]
          omega
        have lo1 : ¬ ((x.toNat : Int) < 48) := by omega
        have lo2 : ¬ (x.toNat < 48) := by omega
        have hi1 : ¬ (57 < (x.toNat : Int)) := by omega
        have hi2 : ¬ (57 < x.toNat) := by omega
        have u8 : IntKind.u8.wrap ((x.toNat : Int) - 48) = (x.toNat : Int) - 48 := IntWalk.u8_in _ (by omega)
        clear l1 l2
        go_wp2_with fail
        go_roundw
        case rel => exact ⟨⟨k + 1, 10 * v + (x.toNat - 48), by omega, by congr 1, by congr 1; omega, H102.out, HV2.out, BB.out⟩, by first | rfl | trivial⟩
        case measure => simp [intOf]; omega

/-! currentHeader -/
def stp (r : Int × Int × Bool) (i : Int) (s : B) : Int × Int × Bool := if rhB s = true ∧ (r.2.2 = false ∨ r.2.1 < rhN s) then (i, rhN s, true) else r
def chS (s0 s1 : B) : Nat → Int × Int × Bool
  | 0 => (0, 0, false)
  | 1 => stp (0, 0, false) 0 s0
  | _ => stp (stp (0, 0, false) 0 s0) 1 s1
theorem chS_all {l : List B} {s0 s1 : B} (h0 : l[0]? = some s0) (h1 : l[1]? = some s1) : chS s0 s1 2 = if curI l < 0 then (0, 0, false) else (curI l, curN l, true) := by
  have e0 : hn l 0 = num s0 := by unfold hn; rw [h0]; rfl
  have e1 : hn l 1 = num s1 := by unfold hn; rw [h1]; rfl
  unfold curI curN
  rw [e0, e1]
  unfold chS stp rhB rhN
  generalize num s0 = a
  generalize num s1 = b
  have ea : (0 ≤ a) = ¬ a < 0 := by rw [Int.not_lt]
  have eb : (0 ≤ b) = ¬ b < 0 := by rw [Int.not_lt]
  simp only [decide_eq_true_iff, ea, eb]
  by_cases x : a < 0 <;> by_cases y : b < 0 <;> by_cases z : a < b <;> simp [x, y, z] <;> omega
theorem chS_next (s0 s1 : B) (k : Nat) (hk : k < 2) : chS s0 s1 (k + 1) = stp (chS s0 s1 k) (k : Int) (if k = 0 then s0 else s1) := by
  match k, hk with
  | 0, _ => rfl
  | 1, _ => rfl
def ChRel (s0 s1 : B) (w : World) (a n b i : Value) (wr : World) : Prop := ∃ (k : Nat) (x y : Int) (z : Bool), k ≤ 2 ∧ i = .int .i64 (k : Int) ∧ a = .int .i64 x ∧ n = .int .i64 y ∧ b = .bool z ∧ chS s0 s1 k = (x, y, z) ∧ Below w.heap.size w wr

set_option maxHeartbeats 3200000 in
set_option maxRecDepth 100000 in
theorem currentHeader_x (g off c : Nat) (s0 s1 : B) (w : World) (h0 : w.cell? ⟨g, off, none⟩ = some (.string s0)) (h1 : w.cell? ⟨g, off + 1, none⟩ = some (.string s1)) (hg : g < w.heap.size) (z0 : s0.size = 16) (z1 : s1.size = 16) :
    Calls Tryd.prog 55 #[.slice (some ⟨g, off, none⟩) 2 c] w fun r w' => r = .returned (.tuple #[.int .i64 (chS s0 s1 2).1, .int .i64 (chS s0 s1 2).2.1, .bool (chS s0 s1 2).2.2]) ∧ Below w.heap.size w w' := by
  have HG := Lib.hid hg
  have HZ : Hid (∀ k : Nat, k < 2 → w.cell? ⟨g, off + k, none⟩ = some (.string (if k = 0 then s0 else s1)) ∧ (if k = 0 then s0 else s1).size = 16) := by
    show ∀ k : Nat, _
    intro k hk
    match k, hk with
    | 0, _ => exact ⟨h0, z0⟩
    | 1, _ => exact ⟨h1, z1⟩
  clear h0 h1 z0 z1 hg
  go_enter Tryd.func55, Tryd.ntmps55
  go_wp2_with fail
  go_loopw [2, 3, 4, 11] (fun a n b i wr => ChRel s0 s1 w a n b i wr) (fun _ _ _ i _ => 2 - (intOf i).toNat)
  case atStart => exact ⟨0, 0, 0, false, Nat.zero_le _, rfl, rfl, rfl, rfl, rfl, Below.refl _ _⟩
  case round =>
    obtain ⟨k, x, y, z, hk, rfl, rfl, rfl, rfl, hc, hB⟩ := hrel
    have HB := Lib.hid hB
    have HC := Lib.hid hc
    have k0 : (0 : Int) ≤ (k : Int) := by omega
    clear hB hc
    by_cases c : k < 2
    case neg =>
      have c0 : ¬ (k : Int) < 2 := by omega
      obtain rfl : k = 2 := by omega
      clear c c0
      go_wp2_with fail
      go_ret3
      exact ⟨by rw [HC.out]; try rfl, HB.out⟩
    case pos =>
      have c0 : (k : Int) < 2 := by omega
      obtain ⟨hz, hz16⟩ := HZ.out k c
      have HN := Lib.hid (chS_next s0 s1 k c)
      obtain ⟨s, hs⟩ : ∃ s, (if k = 0 then s0 else s1) = s := ⟨_, rfl⟩
      rw [hs] at hz hz16 HN
      clear hs
      have g2 : wr.cell? ⟨g, off + k, none⟩ = some (.string s) := by rw [HB.out.cell (p := ⟨g, off + k, none⟩) HG.out]; exact hz
      have g3 : g < wr.heap.size := Nat.lt_of_lt_of_le HG.out HB.out.size
      have HRH := Lib.hid (readHeader_x s wr hz16)
      obtain ⟨m, hm⟩ : ∃ m, rhN s = m := ⟨_, rfl⟩
      obtain ⟨b, hb⟩ : ∃ b, rhB s = b := ⟨_, rfl⟩
      rw [hm, hb] at HRH
      unfold stp at HN
      rw [HC.out, hm, hb] at HN
      clear hz hz16 hm hb
      go_wp2_with fail
      refine HRH.out.mono ?_
      rintro r w1 ⟨rfl, b1⟩
      have HB1 := Lib.hid (chain HB.out b1)
      clear b1 HRH
      cases b with
      | false =>
        have HN2 : Hid (chS s0 s1 (k + 1) = (x, y, z)) := by show _ = _; rw [HN.out, if_neg (by intro q; cases q.1)]
        go_wp2_with fail
        go_roundw
        case rel => exact ⟨k + 1, x, y, z, by omega, by congr 1, rfl, rfl, rfl, HN2.out, HB1.out⟩
        case measure => simp [intOf]; omega
      | true =>
        cases z with
        | false =>
          have HN2 : Hid (chS s0 s1 (k + 1) = ((k : Int), m, true)) := by show _ = _; rw [HN.out, if_pos ⟨rfl, .inl rfl⟩]
          go_wp2_with fail
          go_roundw
          case rel => exact ⟨k + 1, _, _, _, by omega, by congr 1, rfl, rfl, rfl, HN2.out, HB1.out⟩
          case measure => simp [intOf]; omega
        | true =>
          by_cases t : y < m
          · have HN2 : Hid (chS s0 s1 (k + 1) = ((k : Int), m, true)) := by show _ = _; rw [HN.out, if_pos ⟨rfl, .inr t⟩]
            go_wp2_with fail
            go_roundw
            case rel => exact ⟨k + 1, _, _, _, by omega, by congr 1, rfl, rfl, rfl, HN2.out, HB1.out⟩
            case measure => simp [intOf]; omega
          · have HN2 : Hid (chS s0 s1 (k + 1) = (x, y, true)) := by show _ = _; rw [HN.out, if_neg (by intro q; rcases q.2 with j | j; cases j; exact t j)]
            go_wp2_with fail
            go_roundw
            case rel => exact ⟨k + 1, x, y, true, by omega, by congr 1, rfl, rfl, rfl, HN2.out, HB1.out⟩
            case measure => simp [intOf]; omega

end Go.Proofs.YtemldlhhlneleaaDoor.Jn
