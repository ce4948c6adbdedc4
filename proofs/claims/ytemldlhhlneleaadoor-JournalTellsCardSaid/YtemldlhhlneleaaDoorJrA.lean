/-
  The reference of journal: Header, Number, ready, Log, Current, Size.
-/
import Derived.Test.YtemldlhhlneleaaDoorJouA
import Derived.Test.YtemldlhhlneleaaDoorDkOk
import Derived.Test.YtemldlhhlneleaaDoorWiSame
namespace Go.Proofs.YtemldlhhlneleaaDoor.Jn
open Go.RowKit Dk Wi

theorem hd_front : ∀ (k n : Nat), hd (k + 1) n = UInt8.ofNat (48 + n / 10 ^ k % 10) :: hd k n
  | 0, n => by simp [hd]
  | k + 1, n => by
    show hd (k + 1) (n / 10) ++ [_] = _
    rw [hd_front k (n / 10), Nat.div_div_eq_div_mul, Nat.pow_succ, Nat.mul_comm 10]
    rfl
theorem dg (q a b : Nat) (t : S) (ha : a = q % 10) (hb : b = q % 10 + 1) : (⟨#[48, 49, 50, 51, 52, 53, 54, 55, 56, 57]⟩ : ByteArray).extract a b ++ mkB t = mkB (UInt8.ofNat (48 + q % 10) :: t) := by
  subst ha
  subst hb
  rw [digit_at _ (by omega)]
  exact ByteArray.mk_append_mk _ _
def HdRel (n : Nat) (w : World) (a s i : Value) (wr : World) : Prop := ∃ k q : Nat, k ≤ 8 ∧ i = .int .i64 (k : Int) ∧ q = n / 10 ^ k ∧ a = .int .i64 (q : Int) ∧ s = .string (mkB (hd k n)) ∧ w = wr
theorem Header_x (n : Nat) (w : World) (hn : n ≤ 1000000000) :
    Calls Tryd.prog 32 #[.int .i64 (n : Int)] w fun e w' => e = .returned (.string (header n)) ∧ w = w' := by
  have HN := Lib.hid hn
  clear hn
  go_enter Tryd.func32, Tryd.ntmps32
  go_wp2_with fail
  go_loopw [0, 3, 4] (fun a s i wr => HdRel n w a s i wr) (fun _ _ i _ => 8 - (intOf i).toNat)
  case atStart => exact ⟨0, n, Nat.zero_le _, rfl, by simp, rfl, rfl, rfl⟩
  case round =>
    obtain ⟨k, q, hk, rfl, hq, rfl, rfl, rfl⟩ := hrel
    have k0 : (0 : Int) ≤ (k : Int) := by omega
    have q0 : (0 : Int) ≤ (q : Int) := by omega
    have q1 : q ≤ 1000000000 := by rw [hq]; exact Nat.le_trans (Nat.div_le_self _ _) HN.out
    have sz : (mkB (hd k n)).size ≤ 8 := by show (hd k n).length ≤ 8; rw [hd_len]; exact hk
    have HQ := Lib.hid hq
    clear hq
    by_cases c : k < 8
    case pos =>
      have c0 : (k : Int) < 8 := by omega
      have HS := Lib.hid (hd_front k n)
      have HQ2 : Hid (q / 10 = n / 10 ^ (k + 1)) := by show _ = _; rw [HQ.out, Nat.div_div_eq_div_mul, ← Nat.pow_succ]
      go_wp2_with fail
      go_roundw
      case rel => exact ⟨k + 1, q / 10, by omega, by congr 1, HQ2.out, by congr 1 <;> omega, by rw [HS.out, ← HQ.out]; congr 1; exact dg q _ _ _ (by omega) (by omega), rfl⟩
      case measure => simp [intOf]; omega
    case neg =>
      have c0 : ¬ (k : Int) < 8 := by omega
      obtain rfl : k = 8 := by omega
      clear c c0
      go_wp2_with fail
      go_ret
      exact ⟨by congr 2; try exact ByteArray.mk_append_mk _ _, rfl⟩

theorem digs_app : ∀ (a b : S) (acc : Nat), digs acc (a ++ b) = (digs acc a).bind fun v => digs v b
  | [], b, acc => rfl
  | c :: t, b, acc => by
    simp only [List.cons_append, digs]
    split
    · exact digs_app t b _
    · rfl
theorem ba_list {t : B} {i : Nat} (h : i < t.size) : t.data.toList[i]? = some (t[i]) := by
  rw [Array.getElem?_toList, Array.getElem?_eq_getElem (by exact h)]
  rfl
theorem num_bad {b : B} {k v : Nat} (hb : b.size = 16) (hk : k < 8) (hv : digs 0 (b.data.toList.take k) = some v) (h : ¬ (48 ≤ (b[k]'(by omega)).toNat ∧ (b[k]'(by omega)).toNat ≤ 57)) : num b = -1 := by
  have hg := ba_list (t := b) (i := k) (by omega)
  have hd : digs 0 (b.data.toList.take 8) = none := by
    have e : b.data.toList.take 8 = b.data.toList.take k ++ (b[k]'(by omega)) :: (b.data.toList.drop (k + 1)).take (7 - k) := by
      have hl : k < b.data.toList.length := by rw [size_list]; omega
      have h2 : b.data.toList[k] = b[k]'(by omega) := by
        rw [List.getElem?_eq_getElem hl] at hg
        exact Option.some.inj hg
      rw [← h2]
      apply List.ext_getElem?
      intro j
      by_cases c1 : j < k
      · rw [List.getElem?_take_of_lt (by omega), List.getElem?_append_left (by rw [List.length_take]; omega), List.getElem?_take_of_lt c1]
      · rw [List.getElem?_append_right (by rw [List.length_take]; omega), List.length_take, Nat.min_eq_left (by omega)]
        by_cases c2 : j = k
        · subst c2
          rw [Nat.sub_self, List.getElem?_take_of_lt (by omega), List.getElem?_eq_getElem hl]
          rfl
        · obtain ⟨m, rfl⟩ : ∃ m, j = k + 1 + m := ⟨j - k - 1, by omega⟩
          rw [show k + 1 + m - k = m + 1 by omega, List.getElem?_cons_succ, List.getElem?_take, List.getElem?_take, List.getElem?_drop]
          by_cases c3 : k + 1 + m < 8
          · rw [if_pos c3, if_pos (by omega)]
          · rw [if_neg c3, if_neg (by omega)]
    rw [e, digs_app, hv, Option.bind_some]
    simp only [digs]
    rw [if_neg h]
  unfold num numL
  split
  · next v' hv' =>
    split at hv'
    · rw [hd] at hv'
      cases hv'
    · cases hv'
  · rfl
theorem num_diff {b : B} {k : Nat} (hb : b.size = 16) (hk : k < 8) (h : b[k]'(by omega) ≠ b[k + 8]'(by omega)) : num b = -1 := by
  have h1 := ba_list (t := b) (i := k) (by omega)
  have h2 := ba_list (t := b) (i := k + 8) (by omega)
  unfold num numL
  split
  · next v' hv' =>
    split at hv'
    · next q =>
      have := congrArg (fun l => l[k]?) q.2
      simp only [List.getElem?_take_of_lt hk, List.getElem?_drop] at this
      rw [Nat.add_comm 8 k, h1, h2] at this
      exact absurd (Option.some.inj this) h
    · cases hv'
  · rfl
theorem num_done {b : B} {v : Nat} (hb : b.size = 16) (hv : digs 0 (b.data.toList.take 8) = some v) (h : b.data.toList.take 8 = (b.data.toList.drop 8).take 8) : num b = (v : Int) := by
  have e : numL b.data.toList = some v := by
    have h8 : b.data.toList.take 8 = b.data.toList.drop 8 := by
      rw [h]
      apply List.take_of_length_le
      rw [List.length_drop, size_list]
      omega
    unfold numL
    rw [if_pos ⟨hb, h8⟩, hv]
  unfold num
  rw [e]
def NuRel (b : B) (w : World) (n i : Value) (wr : World) : Prop := ∃ k v q : Nat, k ≤ 8 ∧ i = .int .i64 (k : Int) ∧ n = .int .i64 (v : Int) ∧ v < 10 ^ k ∧ digs 0 (b.data.toList.take k) = some v ∧ b.data.toList.take k = (b.data.toList.drop 8).take k ∧ wr = w.drewN q
theorem digs_next {l : S} {k v : Nat} {c : UInt8} (h : digs 0 (l.take k) = some v) (hc : l[k]? = some c) (h1 : 48 ≤ c.toNat ∧ c.toNat ≤ 57) : digs 0 (l.take (k + 1)) = some (10 * v + (c.toNat - 48)) := by
  rw [List.take_add_one, hc]
  show digs 0 (l.take k ++ [c]) = _
  rw [digs_snoc, h, Option.bind_some, if_pos h1]

set_option maxHeartbeats 3200000 in
set_option maxRecDepth 100000 in
theorem Number_x (b : B) (w : World) (_hs : b.size ≤ 9223372036854775807) :
    Calls Tryd.prog 33 #[.string b] w fun e w' => e = .returned (.int .i64 (num b)) ∧ Below w.heap.size w w' := by
  by_cases h16 : b.size = 16
  case neg =>
    have hv : Hid (num b = -1) := by
      show _ = _
      unfold num numL
      split
      · next v' hv' =>
        split at hv'
        · next q => exact absurd q.1 h16
        · cases hv'
      · rfl
    have f1 : ((b.size : Int) != 16) = true := by simp; omega
    clear h16
    go_enter Tryd.func33, Tryd.ntmps33
    go_wp2_with fail
    go_ret
    exact ⟨by rw [hv.out]; try rfl, Below.refl _ _⟩
  case pos =>
    have f1 : ((b.size : Int) != 16) = false := by simp; omega
    have H16 := Lib.hid h16
    go_enter Tryd.func33, Tryd.ntmps33
    go_wp2_with fail
    go_loopw [3, 4] (fun n i wr => NuRel b w n i wr) (fun _ i _ => 8 - (intOf i).toNat)
    case atStart => exact ⟨0, 0, 0, Nat.zero_le _, rfl, rfl, by decide, rfl, by simp, rfl⟩
    case round =>
      obtain ⟨k, v, q, hk, rfl, rfl, hv10, hv, he, rfl⟩ := hrel
      have k0 : (0 : Int) ≤ (k : Int) := by omega
      have v8 : v < 100000000 := Nat.lt_of_lt_of_le hv10 (Nat.pow_le_pow_right (by omega) hk)
      have HV := Lib.hid hv
      have HE := Lib.hid he
      have H10 := Lib.hid hv10
      clear hv he hv10
      by_cases c : k < 8
      case neg =>
        have c0 : ¬ (k : Int) < 8 := by omega
        obtain rfl : k = 8 := by omega
        have hr : Hid (num b = (v : Int)) := num_done H16.out HV.out HE.out
        clear c c0
        go_wp2_with fail
        go_ret
        exact ⟨by rw [hr.out]; rfl, below_drewN (Below.refl _ _) _⟩
      case pos =>
        have c0 : (k : Int) < 8 := by omega
        have d1 : (k : Int) < (b.size : Int) := by omega
        have d5 : (k : Int) < 16 := by omega
        have d6 : (k : Int) + 8 < 16 := by omega
        have w8 : IntKind.i64.wrap ((k : Int) + 8) = (k : Int) + 8 := IntWalk.i64_in _ (by omega)
        have t8 : ((k : Int) + 8).toNat = k + 8 := by omega
        have k8 : (0 : Int) ≤ (k : Int) + 8 := by omega
        have d2 : k < b.size := by omega
        have d3 : (k : Int) + 8 < (b.size : Int) := by omega
        have d4 : k + 8 < b.size := by omega
        have hg1 := ba_list d2
        have HG1 := Lib.hid hg1
        have HG2 := Lib.hid (ba_list d4)
        clear hg1
        by_cases l1 : b[k].toNat < 48
        · have hr : Hid (num b = -1) := num_bad H16.out c HV.out (by omega)
          have lo1 : ((b[k].toNat : Int) < 48) := by omega
          have lo2 : (b[k].toNat < 48) := by omega
          have lo3 : decide ((b[k].toNat : Int) < 48) = true := decide_eq_true lo1
          have lo4 : decide (b[k].toNat < 48) = true := decide_eq_true lo2
          clear l1
          go_wp2_with fail
          go_quiet (fail)
          go_wp2_with fail
          go_ret
          exact ⟨by rw [hr.out]; try rfl, below_drewN (below_drewN (Below.refl _ _) _) _⟩
        by_cases l2 : 57 < b[k].toNat
        · have hr : Hid (num b = -1) := num_bad H16.out c HV.out (by omega)
          have lo1 : ¬ ((b[k].toNat : Int) < 48) := by omega
          have lo2 : ¬ (b[k].toNat < 48) := by omega
          have lo3 : decide ((b[k].toNat : Int) < 48) = false := decide_eq_false lo1
          have lo4 : decide (b[k].toNat < 48) = false := decide_eq_false lo2
          have hi1 : (57 < (b[k].toNat : Int)) := by omega
          have hi2 : (57 < b[k].toNat) := by omega
          have hi3 : decide (57 < (b[k].toNat : Int)) = true := decide_eq_true hi1
          have hi4 : decide (57 < b[k].toNat) = true := decide_eq_true hi2
          clear l1 l2
          go_wp2_with fail
          go_quiet (fail)
          go_wp2_with fail
          go_ret
          exact ⟨by rw [hr.out]; try rfl, below_drewN (below_drewN (Below.refl _ _) _) _⟩
        by_cases l3 : b[k] = b[k + 8]
        · have e1 : ((b[k].toNat : Int) != (b[k + 8].toNat : Int)) = false := by rw [l3]; simp
          have HV2 := Lib.hid (digs_next HV.out HG1.out ⟨by omega, by omega⟩)
          have HE2 : Hid (b.data.toList.take (k + 1) = (b.data.toList.drop 8).take (k + 1)) := by
            show _ = _
            rw [List.take_add_one, List.take_add_one, HE.out, HG1.out, List.getElem?_drop, Nat.add_comm 8 k, HG2.out, l3]
          have H102 : Hid (10 * v + (b[k].toNat - 48) < 10 ^ (k + 1)) := by
            show _ < _
            have := H10.out
            rw [Nat.pow_succ]
            omega
          have lo1 : ¬ ((b[k].toNat : Int) < 48) := by omega
          have lo2 : ¬ (b[k].toNat < 48) := by omega
          have lo3 : decide ((b[k].toNat : Int) < 48) = false := decide_eq_false lo1
          have lo4 : decide (b[k].toNat < 48) = false := decide_eq_false lo2
          have hi1 : ¬ (57 < (b[k].toNat : Int)) := by omega
          have hi2 : ¬ (57 < b[k].toNat) := by omega
          have hi3 : decide (57 < (b[k].toNat : Int)) = false := decide_eq_false hi1
          have hi4 : decide (57 < b[k].toNat) = false := decide_eq_false hi2
          clear l1 l2 l3
          go_wp2_with fail
          go_quiet (fail)
          go_wp2_with fail
          go_roundw
          case rel => exact ⟨k + 1, 10 * v + (b[k].toNat - 48), _, by omega, by congr 1, by congr 1; omega, H102.out, HV2.out, HE2.out, by first | rfl | (simp only [World.drewN_drewN]; rfl)⟩
          case measure => simp [intOf]; omega
        · have hr : Hid (num b = -1) := num_diff H16.out c l3
          have e1 : ((b[k].toNat : Int) != (b[k + 8].toNat : Int)) = true := by
            rw [bne_iff_ne]
            intro e
            exact l3 (UInt8.toNat_inj.1 (by omega))
          have lo1 : ¬ ((b[k].toNat : Int) < 48) := by omega
          have lo2 : ¬ (b[k].toNat < 48) := by omega
          have lo3 : decide ((b[k].toNat : Int) < 48) = false := decide_eq_false lo1
          have lo4 : decide (b[k].toNat < 48) = false := decide_eq_false lo2
          have hi1 : ¬ (57 < (b[k].toNat : Int)) := by omega
          have hi2 : ¬ (57 < b[k].toNat) := by omega
          have hi3 : decide (57 < (b[k].toNat : Int)) = false := decide_eq_false hi1
          have hi4 : decide (57 < b[k].toNat) = false := decide_eq_false hi2
          clear l1 l2 l3
          go_wp2_with fail
          go_quiet (fail)
          go_wp2_with fail
          go_ret
          exact ⟨by rw [hr.out]; try rfl, below_drewN (below_drewN (Below.refl _ _) _) _⟩

end Go.Proofs.YtemldlhhlneleaaDoor.Jn
