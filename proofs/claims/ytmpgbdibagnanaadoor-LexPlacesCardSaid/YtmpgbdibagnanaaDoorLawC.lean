/-
  The law LexJoins' walk: the tokens of two texts with a line feed between them.
-/
import Derived.Test.YtmpgbdibagnanaaDoorLawB
namespace Go.Proofs.YtmpgbdibagnanaaDoor
open Go.RowKit

namespace Lx
theorem join_bad {x y : List UInt8} (hx : x.length ≤ 900) (hy : y.length ≤ 900) {p c : Nat} (h : scanAll x = .error (p, c)) : scanAll (x ++ 10 :: y) = .error (p, c) := by
  rw [scanAll_short (by omega)] at h
  rw [scanAll_short (by rw [List.length_append, List.length_cons]; omega), scan_join x.length x y 0 false (Nat.le_refl _), h]
theorem join_bad2 {x y : List UInt8} (hx : x.length ≤ 900) (hy : y.length ≤ 900) {a : List Tok} {p c : Nat} (h : scanAll x = .ok a) (h2 : scanAll y = .error (p, c)) : scanAll (x ++ 10 :: y) = .error (p + (x.length + 1), c) := by
  rw [scanAll_short (by omega)] at h h2
  rw [scanAll_short (by rw [List.length_append, List.length_cons]; omega), scan_join x.length x y 0 false (Nat.le_refl _), h]
  have e := scan_move (x.length + 1) y.length y 0 false (Nat.le_refl _)
  rw [h2, ← Nat.add_assoc] at e
  simp only
  rw [e]
theorem join_good {x y : List UInt8} (hx : x.length ≤ 900) (hy : y.length ≤ 900) {a b : List Tok} (h : scanAll x = .ok a) (h2 : scanAll y = .ok b) : scanAll (x ++ 10 :: y) = .ok (a ++ b.map (move (x.length + 1))) := by
  rw [scanAll_short (by omega)] at h h2
  rw [scanAll_short (by rw [List.length_append, List.length_cons]; omega), scan_join x.length x y 0 false (Nat.le_refl _), h]
  have e := scan_move (x.length + 1) y.length y 0 false (Nat.le_refl _)
  rw [h2, ← Nat.add_assoc] at e
  simp only
  rw [e]
end Lx

theorem scan_pos {y : List UInt8} {b : List Lx.Tok} (hy : y.length ≤ 900) (h : Lx.scanAll y = .ok b) : ∀ t ∈ b, t.pos ≤ 900 := by
  rw [Lx.scanAll_short (by omega)] at h
  have key : ∀ (l : List Lx.Tok) (a : Nat), Lx.Places y a l → ∀ t ∈ l, t.pos ≤ y.length := by
    intro l
    induction l with
    | nil => intro a _ t ht; simp at ht
    | cons x l ih =>
      intro a hp t ht
      obtain ⟨h1, h2, h3, _, _, _, h7⟩ := hp
      rcases List.mem_cons.1 ht with rfl | ht
      · omega
      · exact ih _ h7 t ht
  intro t ht
  have := key b 0 (Lx.places h) t ht
  omega

/-- the joined tokens, one by one -/
theorem joined {a b : List Lx.Tok} {d : Nat} {A B C : List TI} (hA : A = a.map toI) (hB : B = b.map toI) (hC : C = (a ++ b.map (Lx.move d)).map toI) (hp : ∀ t ∈ b, t.pos ≤ 900) :
    ∀ k, k < C.length → (k < A.length → ∃ x, A[k]? = some x ∧ C[k]? = some x) ∧ (¬ k < A.length → ∃ x, B[k - A.length]? = some x ∧ 0 ≤ x.pos ∧ x.pos ≤ 900 ∧ C[k]? = some ⟨x.kind, x.text, x.n, x.pos + d⟩) := by
  subst hA; subst hB; subst hC
  intro k hk
  rw [List.length_map, List.length_append, List.length_map] at hk
  rw [List.map_append, List.length_map]
  refine ⟨fun h => ?_, fun h => ?_⟩
  · rw [List.getElem?_append_left (by rw [List.length_map]; exact h), List.getElem?_map, List.getElem?_eq_getElem h]
    exact ⟨_, rfl, rfl⟩
  · have hlt : k - a.length < b.length := by omega
    rw [List.getElem?_append_right (by rw [List.length_map]; omega), List.length_map, List.getElem?_map, List.getElem?_map, List.getElem?_map, List.getElem?_eq_getElem hlt]
    have := hp b[k - a.length] (List.getElem_mem hlt)
    refine ⟨_, rfl, ?_, ?_, rfl⟩
    · show (0 : Int) ≤ (_ : Nat); omega
    · show ((_ : Nat) : Int) ≤ 900; omega

theorem join_toList (x y : List UInt8) : (mk x ++ mk [10] ++ mk y).data.toList = x ++ 10 :: y := by
  rw [mk_append, mk_append, mk_toList, List.append_assoc]
  rfl

set_option maxHeartbeats 6400000 in
set_option maxRecDepth 100000 in
theorem LexJoins_x (h : LexOk) (s t : ByteArray) (w : World) (hsg : Sg w) (hs : s.size ≤ 140737488351232) (ht : t.size ≤ 140737488351232) :
    Calls Tryd.prog 6 #[.string s, .string t] w fun e w' => e = .returned (.bool true) ∧ Below w.heap.size w w' := by
  have Hsg := Lib.hid hsg
  clear hsg
  have hcx := cut_len s.data.toList
  have hcy := cut_len t.data.toList
  go_enter Tryd.func6, Tryd.ntmps6
  go_wp2_with fail
  refine (sane_x h _ Hsg.out).mono ?_
  rintro e w1 ⟨rfl, c1⟩
  go_wp2_with fail
  refine (cut_x s _ hs).mono ?_
  rintro e _ ⟨rfl, rfl⟩
  generalize hX : s.data.toList.take 900 = X at hcx ⊢
  go_wp2_with fail
  refine (cut_x t _ ht).mono ?_
  rintro e _ ⟨rfl, rfl⟩
  generalize hY : t.data.toList.take 900 = Y at hcy ⊢
  have hxs : (mk X).size ≤ 900 := hcx
  have hys : (mk Y).size ≤ 900 := hcy
  go_wp2_with fail
  refine (h.scan (mk X) _ (sg_of Hsg.out (by first | assumption | exact Below.refl _ _)) (by omega)).mono ?_
  intro e w2 hp2
  rw [mk_toList] at hp2
  cases hr : Lx.scanAll X with
  | error pc =>
    obtain ⟨p, c⟩ := pc
    obtain ⟨v2, rfl, t2, b2⟩ := scan_bad hp2 hr
    have c2 := chain c1 b2
    have Hj := Lib.hid (Lx.join_bad hcx hcy hr)
    have hne := int_ne' (err_not_zero hr)
    clear hp2 b2 c1 hr
    go_wp2_with fail
    refine (h.scan (mk Y) _ (sg_of Hsg.out (by first | assumption | exact Below.refl _ _)) (by omega)).mono ?_
    rintro e w3 ⟨v3, rfl, t3, b3⟩
    have c3 := chain c2 b3
    clear c2 b3 t3
    go_wp2_with fail
    refine (h.scan (mk X ++ mk [10] ++ mk Y) _ (sg_of Hsg.out (by first | assumption | exact Below.refl _ _)) (by rw [ByteArray.size_append, ByteArray.size_append, mk_size [10]]; simp only [List.length_cons, List.length_nil]; omega)).mono ?_
    intro e w4 hp4
    rw [join_toList] at hp4
    obtain ⟨v4, rfl, t4, b4⟩ := scan_bad hp4 Hj.out
    obtain ⟨a4, cap4, rfl⟩ := tat_none t4
    have c4 := chain c3 b4
    clear hp4 c3 b4 t4
    have q1 := int_eq (rfl : (p : Int) = p)
    have q2 := int_eq (rfl : (c : Int) = c)
    go_wp2_with fail
    go_ret
    exact ⟨rfl, c4⟩
  | ok a =>
    obtain ⟨v2, rfl, t2, b2⟩ := scan_good hp2 hr
    have c2 := chain c1 b2
    have Hr := Lib.hid hr
    clear hp2 b2 c1 hr
    go_wp2_with fail
    refine (h.scan (mk Y) _ (sg_of Hsg.out (by first | assumption | exact Below.refl _ _)) (by omega)).mono ?_
    intro e w3 hp3
    rw [mk_toList] at hp3
    cases hr3 : Lx.scanAll Y with
    | error pc =>
      obtain ⟨p, c⟩ := pc
      obtain ⟨v3, rfl, t3, b3⟩ := scan_bad hp3 hr3
      have c3 := chain c2 b3
      have hj := Lx.join_bad2 hcx hcy Hr.out hr3
      obtain ⟨P, hP⟩ : ∃ P, P = p + (X.length + 1) := ⟨_, rfl⟩
      rw [← hP] at hj
      have Hj := Lib.hid hj
      clear hj
      have hne := int_ne' (err_not_zero hr3)
      have hpl : p < 900 := by
        have := hr3
        rw [Lx.scanAll_short (by omega)] at this
        have := (Lx.scan_err Y.length Y 0 p c false (Nat.le_refl _) this).2.1
        omega
      clear hp3 b3 c2 hr3
      go_wp2_with fail
      refine (h.scan (mk X ++ mk [10] ++ mk Y) _ (sg_of Hsg.out (by first | assumption | exact Below.refl _ _)) (by rw [ByteArray.size_append, ByteArray.size_append, mk_size [10]]; simp only [List.length_cons, List.length_nil]; omega)).mono ?_
      intro e w4 hp4
      rw [join_toList] at hp4
      obtain ⟨v4, rfl, t4, b4⟩ := scan_bad hp4 Hj.out
      obtain ⟨a4, cap4, rfl⟩ := tat_none t4
      have c4 := chain c3 b4
      clear hp4 c3 b4 t4
      have q1 : ((P : Int) == ((mk X).size : Int) + 1 + (p : Int)) = true := int_eq (by rw [mk_size]; omega)
      have q2 := int_eq (rfl : (c : Int) = c)
      clear hP
      go_wp2_with fail
      go_ret
      exact ⟨rfl, c4⟩
    | ok b =>
      obtain ⟨v3, rfl, t3, b3⟩ := scan_good hp3 hr3
      have c3 := chain c2 b3
      have u3 := t2.below b3 (Nat.le_refl _)
      have Hj := Lib.hid (Lx.join_good hcx hcy Hr.out hr3)
      have Hp := Lib.hid (scan_pos hcy hr3)
      have hal := (Lx.scan_sizes ((Lx.scanAll_short (by omega)).symm.trans Hr.out)).1
      have hbl := (Lx.scan_sizes ((Lx.scanAll_short (by omega)).symm.trans hr3)).1
      clear hp3 b3 c2 hr3 t2
      go_wp2_with fail
      refine (h.scan (mk X ++ mk [10] ++ mk Y) _ (sg_of Hsg.out (by first | assumption | exact Below.refl _ _)) (by rw [ByteArray.size_append, ByteArray.size_append, mk_size [10]]; simp only [List.length_cons, List.length_nil]; omega)).mono ?_
      intro e w4 hp4
      rw [join_toList] at hp4
      obtain ⟨v4, rfl, t4, b4⟩ := scan_good hp4 Hj.out
      have c4 := chain c3 b4
      have t34 := t3.below b4 (Nat.le_refl _)
      have u4 := u3.below b4 (Nat.le_refl _)
      clear hp4 c3 b4 u3 t3
      have hA : ∃ A : List TI, A = a.map toI := ⟨_, rfl⟩
      have hB : ∃ B : List TI, B = b.map toI := ⟨_, rfl⟩
      have hC : ∃ C : List TI, C = (a ++ b.map (Lx.move (X.length + 1))).map toI := ⟨_, rfl⟩
      obtain ⟨A, hA⟩ := hA
      obtain ⟨B, hB⟩ := hB
      obtain ⟨C, hC⟩ := hC
      have Hab := Lib.hid (joined hA hB hC Hp.out)
      have hcl : C.length = A.length + B.length := by rw [hA, hB, hC]; simp
      have hA9 : A.length ≤ 900 := by rw [hA, List.length_map]; omega
      have hB9 : B.length ≤ 900 := by rw [hB, List.length_map]; omega
      rw [← hA] at u4
      rw [← hB] at t34
      rw [← hC] at t4
      clear hA hB hC hal hbl
      obtain ⟨a2, k2, rfl, i2⟩ := u4
      obtain ⟨a3, k3, rfl, i3⟩ := t34
      obtain ⟨a4, k4, rfl, i4⟩ := t4
      have q0 := int_eq' (show (C.length : Int) = (A.length : Int) + (B.length : Int) by omega)
      go_wp2_with fail
      go_loopw [17] (fun i wr => ∃ k : Nat, k ≤ C.length ∧ i = .int .i64 k ∧ Below w.heap.size w wr ∧ Below w4.heap.size w4 wr) (fun i _ => C.length - (intOf i).toNat)
      case atStart => exact ⟨0, Nat.zero_le _, rfl, c4, Below.refl _ _⟩
      case round =>
        obtain ⟨k, hk, rfl, c, d⟩ := hrel
        by_cases hlt : k < C.length
        · obtain ⟨ha, hb⟩ := Hab.out k hlt
          by_cases hka : k < A.length
          · obtain ⟨x, hx, hy⟩ := ha hka
            obtain ⟨b1, o1, rfl, hb1, p0, p1, p2, p3⟩ := i2 k x hx
            obtain ⟨b2, o2, rfl, hb2, r0, r1, r2, r3⟩ := i4 k x hy
            have hr1 : ∀ o, wr.cell? ⟨b1, o, none⟩ = w4.cell? ⟨b1, o, none⟩ := fun o => d.cell (p := ⟨b1, o, none⟩) hb1
            have hr2 : ∀ o, wr.cell? ⟨b2, o, none⟩ = w4.cell? ⟨b2, o, none⟩ := fun o => d.cell (p := ⟨b2, o, none⟩) hb2
            rw [← hr1] at p0 p1 p2 p3
            rw [← hr2] at r0 r1 r2 r3
            have g1 : b1 < wr.heap.size := by have := d.size; omega
            have g2 : b2 < wr.heap.size := by have := d.size; omega
            clear hr1 hr2 i2 i3 i4 ha hb hx hy
            have f1 := int_eq (rfl : x.kind = x.kind)
            have f2 := text_eq (rfl : x.text = x.text)
            have f3 := int_eq (rfl : x.n = x.n)
            have f4 := int_eq (rfl : x.pos = x.pos)
            have hws : w.heap.size ≤ wr.heap.size := c.size
            have hws4 : w4.heap.size ≤ wr.heap.size := d.size
            have Hc := Lib.hid (fun o => (c.alloc hws o))
            have Hd := Lib.hid (fun o => (d.alloc hws4 o))
            clear c d hws hws4
            go_wp2
            go_region
            all_goals go_wp2
            all_goals go_roundw
            case rel => exact ⟨k + 1, by omega, rfl, (by repeat (first | exact Hc.out _ | apply Below.drew | apply below_drewN)), (by repeat (first | exact Hd.out _ | apply Below.drew | apply below_drewN))⟩
            case measure => simp [intOf]; omega
          · obtain ⟨x, hx, hx0, hx9, hy⟩ := hb hka
            obtain ⟨m, hm⟩ : ∃ m, m = k - A.length := ⟨_, rfl⟩
            rw [← hm] at hx
            have hkm : (k : Int) - (A.length : Int) = (m : Int) := by omega
            have hmb : m < B.length := by omega
            obtain ⟨P, hP⟩ : ∃ P, P = x.pos + ((X.length + 1 : Nat) : Int) := ⟨_, rfl⟩
            rw [← hP] at hy
            obtain ⟨b1, o1, rfl, hb1, p0, p1, p2, p3⟩ := i3 m x hx
            obtain ⟨b2, o2, rfl, hb2, r0, r1, r2, r3⟩ := i4 k _ hy
            have hr1 : ∀ o, wr.cell? ⟨b1, o, none⟩ = w4.cell? ⟨b1, o, none⟩ := fun o => d.cell (p := ⟨b1, o, none⟩) hb1
            have hr2 : ∀ o, wr.cell? ⟨b2, o, none⟩ = w4.cell? ⟨b2, o, none⟩ := fun o => d.cell (p := ⟨b2, o, none⟩) hb2
            rw [← hr1] at p0 p1 p2 p3
            rw [← hr2] at r0 r1 r2 r3
            have g1 : b1 < wr.heap.size := by have := d.size; omega
            have g2 : b2 < wr.heap.size := by have := d.size; omega
            have f4 : (P == x.pos + ((mk X).size : Int) + 1) = true := int_eq (by rw [hP, mk_size]; omega)
            clear hr1 hr2 i2 i3 i4 ha hb hx hy hm hP
            have f1 := int_eq (rfl : x.kind = x.kind)
            have f2 := text_eq (rfl : x.text = x.text)
            have f3 := int_eq (rfl : x.n = x.n)
            have hws : w.heap.size ≤ wr.heap.size := c.size
            have hws4 : w4.heap.size ≤ wr.heap.size := d.size
            have Hc := Lib.hid (fun o => (c.alloc hws o))
            have Hd := Lib.hid (fun o => (d.alloc hws4 o))
            clear c d hws hws4
            go_wp2
            go_region
            all_goals go_wp2
            all_goals go_roundw
            case rel => exact ⟨k + 1, by omega, rfl, (by repeat (first | exact Hc.out _ | apply Below.drew | apply below_drewN)), (by repeat (first | exact Hd.out _ | apply Below.drew | apply below_drewN))⟩
            case measure => simp [intOf]; omega
        · clear Hab
          go_wp2
          go_ret
          exact ⟨rfl, c⟩

end Go.Proofs.YtmpgbdibagnanaaDoor
