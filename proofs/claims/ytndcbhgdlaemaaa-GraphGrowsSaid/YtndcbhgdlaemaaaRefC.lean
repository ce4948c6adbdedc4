/-
  The reference's Reach.
-/
import Derived.Test.YtndcbhgdlaemaaaRefB
namespace Go.Proofs.Ytndcbhgdlaemaaa
open Go.RowKit Gr

theorem SAt.nil (w : World) : SAt w (.slice none 0 0) [] := ⟨none, 0, rfl, Nat.le_refl _, fun j x h => by simp at h⟩
theorem infoB : (Try.prog.info? 4).map (fun i => (i.zero, i.size, i.bytes)) = some (some (.bool false), 1, 1) := by kernel_rfl
theorem infoI : (Try.prog.info? 3).map (fun i => (i.zero, i.size, i.bytes)) = some (some (.int .i64 0), 1, 8) := by kernel_rfl
theorem made_bools (N : Nat) : (madeCells #[Value.bool false] N).toList = bools (List.replicate N false) := by
  rw [toList_madeCells_one]
  simp
theorem bools_set (l : List Bool) (k : Nat) (b : Bool) : (bools l).set k (.bool b) = bools (l.set k b) := by simp [bools, List.map_set]
theorem bools_get {l : List Bool} {k : Nat} {b : Bool} (h : l[k]? = some b) : (bools l)[k]? = some (.bool b) := by rw [List.getElem?_map, h]; rfl
/-- the set so far, after k sweeps and i edges more -/
structure RR (e : E) (l : List Bool) (w : World) (W : World) : Prop where
  row : Row W w.heap.size (bools l)
  below : Below w.heap.size w W
def OutR (n : Int) (e : E) (a : Int) (w : World) (k : Value) (wr : World) : Prop := ∃ j : Nat, j ≤ n.toNat ∧ k = .int .i64 (j : Int) ∧ RR e (sweeps e (seed n a) j) w wr
def InR (e : E) (l : List Bool) (w : World) (k : Value) (wr : World) : Prop := ∃ j : Nat, j ≤ e.length ∧ k = .int .i64 (j : Int) ∧ RR e (sweep (e.take j) l) w wr
theorem RR.set {e : E} {l : List Bool} {w W : World} (h : RR e l w W) (k : Nat) (hk : k < l.length) (b : Bool) : RR e (l.set k b) w (W.setCell ⟨w.heap.size, k, none⟩ (.bool b)) :=
  ⟨by rw [← bools_set]; exact h.row.set k _ (by simpa using hk), h.below.setCell (Nat.le_refl _) _⟩

set_option maxHeartbeats 6400000 in
theorem Reach_x (v : Value) (n a : Int) (e : E) (w : World) (hat : EAt w v e) (hl : e.length ≤ 1152921504606846976) :
    Calls Try.prog 16 #[.int .i64 n, v, .int .i64 a] w fun r w' => ∃ x, r = .returned x ∧ SAt w' x (bools (reachC n e a)) ∧ Below w.heap.size w w' := by
  have HAT := Lib.hid hat
  obtain ⟨ad, cap, rfl, -, -⟩ := id hat
  obtain ⟨rb, hrb⟩ : ∃ rb, rightB n e = rb := ⟨_, rfl⟩
  have RB := Lib.hid hrb
  cases rb with
  | false =>
    have hv : Hid (reachC n e a = []) := if_neg (by rw [hrb]; simp)
    clear hrb
    go_enter Try.func16, Try.ntmps16
    go_wp2_with fail
    refine (Right_x _ _ e _ hat hl).mono ?_
    rintro r w1 ⟨rfl, rfl⟩
    rw [RB.out]
    go_wp2_with fail
    go_ret
    exact ⟨_, rfl, by rw [hv.out]; exact SAt.nil _, Below.refl _ _⟩
  | true =>
    by_cases a0 : a < 0
    · have hv : Hid (reachC n e a = []) := if_neg (fun h => by have := of_decide_eq_true h.2; omega)
      clear hrb
      go_enter Try.func16, Try.ntmps16
      go_wp2_with fail
      refine (Right_x _ _ e _ hat hl).mono ?_
      rintro r w1 ⟨rfl, rfl⟩
      rw [RB.out]
      go_wp2_with fail
      go_ret
      exact ⟨_, rfl, by rw [hv.out]; exact SAt.nil _, Below.refl _ _⟩
    by_cases a1 : n ≤ a
    · have hv : Hid (reachC n e a = []) := if_neg (fun h => by have := of_decide_eq_true h.2; omega)
      clear hrb
      go_enter Try.func16, Try.ntmps16
      go_wp2_with fail
      refine (Right_x _ _ e _ hat hl).mono ?_
      rintro r w1 ⟨rfl, rfl⟩
      rw [RB.out]
      go_wp2_with fail
      go_ret
      exact ⟨_, rfl, by rw [hv.out]; exact SAt.nil _, Below.refl _ _⟩
    obtain ⟨⟨n0, n300⟩, e2000, hedge⟩ := right_iff.1 hrb
    have HE := Lib.hid hedge
    have hv : Hid (reachC n e a = sweeps e (seed n a) n.toNat) := if_pos ⟨hrb, decide_eq_true ⟨by omega, by omega⟩⟩
    obtain ⟨N, rfl⟩ := Int.eq_ofNat_of_zero_le n0
    obtain ⟨A, rfl⟩ := Int.eq_ofNat_of_zero_le (show 0 ≤ a by omega)
    have hsl := Lib.hid (sweeps_len e (seed N A))
    have hsd := Lib.hid (seed_len (N : Int) (A : Int))
    clear hedge hrb
    obtain ⟨ri, hi, hz0, hz1, hz2⟩ := info_parts infoB
    have an : (A : Int) < (N : Int) := by omega
    go_enter Try.func16, Try.ntmps16
    go_wp2_with fail
    refine (Right_x _ _ e _ hat hl).mono ?_
    rintro r w1 ⟨rfl, rfl⟩
    rw [RB.out]
    go_wp2_with (at_make; refine wpList_make_full _ rfl (.tmp 23) (.tmp 23) 30 rfl w.heap.size 4 ri (.bool false) 1 Try.underlying30 hi hz0 hz1 .i64 .i64 N N N rfl rfl rfl rfl ?f1 ?f2 ?f3 ?_)
    case f1 => rw [hz2]; omega
    case f2 => unfold maxLen; omega
    case f3 => exact Nat.le_refl _
    intro w2 hown hgrow
    rw [made_bools] at hown
    have R0 : RR e (List.replicate N false) w w2 := ⟨Row.own hown (by simp), (Below.refl _ _).grown hgrow (Nat.le_refl _) (fun k hk => by cases hk)⟩
    clear hown hgrow hi hz0 hz1 hz2
    have y0 := R0.row.lt
    have y1 := R0.row.c A (.bool false) (bools_get (by rw [List.getElem?_replicate]; exact if_pos (by omega)))
    have y2 := R0.row.fz A (by simp; omega)
    have HR0 := Lib.hid R0
    clear R0
    go_wp2_with fail
    go_loopw [8] (fun k wr => OutR N e A w k wr) (fun k _ => N - (intOf k).toNat)
    case atStart => exact ⟨0, Nat.zero_le _, rfl, by first | exact HR0.out.set A (by simp; omega) true | skip⟩
    case round =>
      clear y0 y1 y2
      obtain ⟨j, hj, rfl, hR⟩ := hrel
      have HJ := Lib.hid hj
      have j0 : (0 : Int) ≤ (j : Int) := by omega
      have jn : (j : Int) ≤ (N : Int) := by simp at hj; omega
      clear hj
      by_cases c : (j : Int) < (N : Int)
      case neg =>
        obtain rfl : j = N := by omega
        have HR := Lib.hid hR
        clear hR c
        go_wp2_with fail
        go_ret
        refine ⟨_, rfl, ?_, HR.out.below⟩
        rw [hv.out]
        exact HR.out.row.at (by rw [List.length_map, hsl.out, hsd.out]; simp) (Nat.le_refl _)
      case pos =>
        have HR := Lib.hid hR
        clear hR
        go_wp2_with fail
        go_loopw [9] (fun i wr => InR e (sweeps e (seed N A) j) w i wr) (fun i _ => e.length - (intOf i).toNat)
        case atStart => exact ⟨0, Nat.zero_le _, rfl, by simpa [sweep] using HR.out⟩
        case round =>
          obtain ⟨i, hi, rfl, hR2⟩ := hrel
          have i0 : (0 : Int) ≤ (i : Int) := by omega
          by_cases d : i < e.length
          case neg =>
            have d0 : ¬ (i : Int) < (e.length : Int) := by omega
            have HR2 : Hid (RR e (sweeps e (seed N A) (j + 1)) w wr) := by
              have h := hR2
              rw [List.take_of_length_le (by omega)] at h
              exact h
            clear hR2
            go_wp2_with fail
            go_roundw
            case rel => exact ⟨j + 1, by simp; omega, by congr 1, HR2.out⟩
            case measure => simp [intOf]; omega
          case pos =>
            have d0 : (i : Int) < (e.length : Int) := by omega
            obtain ⟨p, hp⟩ : ∃ p, e[i]? = some p := ⟨e[i], List.getElem?_eq_getElem d⟩
            obtain ⟨a', cap', e', -, hc⟩ := HAT.out.below hR2.below (Nat.le_refl _)
            injection e' with e1 e2 e3
            subst e1 e3
            obtain ⟨b, off, rfl, hlt, p0, p1⟩ := hc i p hp
            have hpe := HE.out p (List.mem_of_getElem? hp)
            have Hp := Lib.hid hp
            obtain ⟨px, py⟩ := p
            simp only at hpe p0 p1
            obtain ⟨x, rfl⟩ := Int.eq_ofNat_of_zero_le hpe.1.1
            obtain ⟨y, rfl⟩ := Int.eq_ofNat_of_zero_le hpe.2.1
            have x0 : (0 : Int) ≤ (x : Int) := by omega
            have y0 : (0 : Int) ≤ (y : Int) := by omega
            have xn : (x : Int) < (N : Int) := hpe.1.2
            have yn : (y : Int) < (N : Int) := hpe.2.2
            have len : Hid ((sweep (e.take i) (sweeps e (seed N A) j)).length = N) := by show _ = _; rw [sweep_len, hsl.out, hsd.out]; simp
            obtain ⟨u, hu⟩ : ∃ u, (sweep (e.take i) (sweeps e (seed N A) j))[x]? = some u := ⟨_, List.getElem?_eq_getElem (by rw [len.out]; omega)⟩
            obtain ⟨t, ht⟩ : ∃ t, (sweep (e.take i) (sweeps e (seed N A) j))[y]? = some t := ⟨_, List.getElem?_eq_getElem (by rw [len.out]; omega)⟩
            have q0 := hR2.row.lt
            have q1 := hR2.row.c x (.bool u) (bools_get hu)
            have q2 := hR2.row.c y (.bool t) (bools_get ht)
            have q3 := hR2.row.fz y (by rw [List.length_map, len.out]; omega)
            have HR2 := Lib.hid hR2
            have Hnext : Hid (sweep (e.take (i + 1)) (sweeps e (seed N A) j) = stepS (sweep (e.take i) (sweeps e (seed N A) j)) ((x : Int), (y : Int))) := sweep_take Hp.out _
            have Hu := Lib.hid hu
            clear hp hR2 hc hpe e2 hu ht
            cases u with
            | false =>
              have Hs : Hid (stepS (sweep (e.take i) (sweeps e (seed N A) j)) ((x : Int), (y : Int)) = sweep (e.take i) (sweeps e (seed N A) j)) := by
                show _ = _
                unfold stepS
                rw [if_neg (by simp only [Int.toNat_natCast]; rw [Hu.out]; simp)]
              clear q2 q3
              go_wp2_with fail
              go_roundw
              case rel => exact ⟨i + 1, by omega, by congr 1, by rw [Hnext.out, Hs.out]; exact HR2.out⟩
              case measure => simp [intOf]; omega
            | true =>
              have Hs : Hid (stepS (sweep (e.take i) (sweeps e (seed N A) j)) ((x : Int), (y : Int)) = (sweep (e.take i) (sweeps e (seed N A) j)).set y true) := by
                show _ = _
                unfold stepS
                rw [if_pos (by simp only [Int.toNat_natCast]; rw [Hu.out]; simp)]
                simp only [Int.toNat_natCast]
              go_wp2_with fail
              go_roundw
              case rel => exact ⟨i + 1, by omega, by congr 1, by rw [Hnext.out, Hs.out]; exact HR2.out.set y (by rw [len.out]; omega) true⟩
              case measure => simp [intOf]; omega

end Go.Proofs.Ytndcbhgdlaemaaa
