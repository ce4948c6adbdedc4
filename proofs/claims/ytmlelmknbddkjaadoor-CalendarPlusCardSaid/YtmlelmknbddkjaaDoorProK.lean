/-
  The program's days: the open days, one after the other (an iterator).
-/
import Derived.RangeFuncNested
import Derived.RangeFuncFrom
import Derived.RangeFuncBound
import Derived.RangeFuncCalls
import Derived.RangeFuncLeaves
import Derived.Shelf.Abstract
import Derived.Shelf.RegionOpen
import Derived.WalkKit
import Derived.OwnWalkIn
import Derived.TacticsInMore
import Derived.LoopNIn
import Derived.LoopIn
import Derived.Test.YtmlelmknbddkjaaDoorProJ
namespace Go.Proofs.YtmlelmknbddkjaaDoor
open Go.RowKit Go.Shelf

attribute [local go_sem] Oper.semAt_some

/-- the open days among so many days from t on -/
def opens (C : Lists) : Nat → Int → List Int
  | 0, _ => []
  | k + 1, t => if isOpen C t then t :: opens C k (t + 1) else opens C k (t + 1)

theorem opens_yes {C : Lists} {b t : Int} (h : t ≤ b) (ho : isOpen C t = true) : opens C (b + 1 - t).toNat t = t :: opens C (b + 1 - (t + 1)).toNat (t + 1) := by
  rw [show (b + 1 - t).toNat = (b + 1 - (t + 1)).toNat + 1 by omega]
  show (if isOpen C t = true then _ else _) = _
  rw [if_pos ho]
theorem opens_no {C : Lists} {b t : Int} (h : t ≤ b) (ho : isOpen C t = false) : opens C (b + 1 - t).toNat t = opens C (b + 1 - (t + 1)).toNat (t + 1) := by
  rw [show (b + 1 - t).toNat = (b + 1 - (t + 1)).toNat + 1 by omega]
  show (if isOpen C t = true then _ else _) = _
  rw [if_neg (by rw [ho]; decide)]
theorem opens_end {C : Lists} {b t : Int} (h : ¬ t ≤ b) : opens C (b + 1 - t).toNat t = [] := by
  rw [show (b + 1 - t).toNat = 0 by omega]
  rfl

theorem daysP_x (p : Option Addr) (a b : Int) (w : World) :
    Calls Tryd.prog 40 #[.pointer p, .int .i64 a, .int .i64 b] w fun e w' =>
      e = .returned (.func (.func 46) #[] #[.pointer (some ⟨w.heap.size + 1, 0, none⟩), .pointer (some ⟨w.heap.size + 1 + 1, 0, none⟩), .pointer (some ⟨w.heap.size, 0, none⟩)]) ∧
      w' = ((w.alloc (.cells #[.pointer p] 62)).alloc (.cells #[.int .i64 a] 3)).alloc (.cells #[.int .i64 b] 3) := by
  go_enter Tryd.func40, Tryd.ntmps40
  go_wp2_with fail
  go_ret
  exact ⟨rfl, rfl⟩

def IRel (C : Lists) (a b : Int) (w0 : World) (Kp : World → World → Prop) (J : List Int → World → Prop) (d : Value) (wr : World) : Prop :=
  ∃ (t : Int) (pre : List Int), d = .int .i64 t ∧ a ≤ t ∧ t ≤ 100001 ∧ opens C (b + 1 - a).toNat a = pre ++ opens C (b + 1 - t).toNat t ∧ J pre wr ∧ Kp w0 wr

set_option maxRecDepth 100000 in
set_option maxHeartbeats 2000000 in
theorem days1_in (n : Nat) (hn : 1 ≤ n) (l o A1 A2 A3 : Nat) (C : Lists) (a b : Int) (ha0 : 0 ≤ a) (ha1 : a ≤ 100000) (hb1 : b ≤ 100000) (w0 : World) (Kp : World → World → Prop)
    (hKt : ∀ {A B C : World}, Kp A B → Kp B C → Kp A C) (hKd : ∀ A q, Kp A (World.drewN A q))
    (hKw : ∀ W, Kp w0 W → OfAt W o C ∧ Bf W ∧ W.cell? ⟨A1, 0, none⟩ = some (.int .i64 a) ∧ W.cell? ⟨A2, 0, none⟩ = some (.int .i64 b) ∧ W.cell? ⟨A3, 0, none⟩ = some (.pointer (some ⟨o, 0, none⟩)))
    (J Jx : List Int → World → Prop) (W : World) (hJ : ∀ pre W q, J pre W → J pre (World.drewN W q))
    (hY : ∀ pre x W, J pre W → pre.length < (opens C (b + 1 - a).toNat a).length → YieldAt Fence.wide (n - 1) Tryd.prog l #[.int .i64 x] W fun e W' =>
      (e = .returned (.bool true) ∧ J (pre ++ [x]) W' ∧ Kp W W') ∨ (e = .returned (.bool false) ∧ Jx (pre ++ [x]) W'))
    (hW : Kp w0 W) (h0 : J [] W) :
    CallsIn Fence.wide n Tryd.prog 46 #[.func (.yield l) #[] #[], .pointer (some ⟨A1, 0, none⟩), .pointer (some ⟨A2, 0, none⟩), .pointer (some ⟨A3, 0, none⟩)] W fun e W' => (∃ v, e = .returned v) ∧
      ((∃ ys, ys = opens C (b + 1 - a).toNat a ∧ J ys W') ∨ (∃ pre, pre <+: opens C (b + 1 - a).toNat a ∧ Jx pre W')) := by
  have hro : Fence.wide.round = none := rfl
  obtain ⟨hO, hB, c1, c2, c3⟩ := hKw W hW
  have HW := Lib.hid hKw
  have HY := Lib.hid hY
  have HJ := Lib.hid hJ
  have HKd := Lib.hid hKd
  clear hKw hY hJ hKd hO hB c2 c3
  refine callsIn_of_wp Tryd.func46 rfl trivial ?_ hro
  simp only [Tryd.ntmps46, List.size_toArray, List.length_cons, List.length_nil, Nat.reduceAdd, Nat.reduceSub, Array.replicate_succ, Array.replicate_zero, List.push_toArray, List.append_toArray, List.nil_append, List.cons_append]
  gi_wp2
  gi_loopw [5] (fun d wr => IRel C a b w0 Kp J d wr) (fun d _ => (100001 - intOf d).toNat)
  case atStart => exact ⟨a, [], rfl, Int.le_refl _, by omega, rfl, h0, hW⟩
  case round =>
    clear c1
    obtain ⟨t, pre, rfl, ht0, ht1, hx, hJs, hKs⟩ := hrel
    obtain ⟨hO, hB, c1, c2, c3⟩ := HW.out wr hKs
    have Hx := Lib.hid hx
    have HJs := Lib.hid hJs
    have HKs := Lib.hid hKs
    clear hx hJs hKs c1
    by_cases c : t ≤ b
    · obtain ⟨T, rfl⟩ : ∃ T : Nat, t = T := ⟨t.toNat, by omega⟩
      have HC : Hid (Calls Tryd.prog 37 #[.pointer (some ⟨o, 0, none⟩), .int .i64 (T : Int)] wr fun e w' => e = .returned (.bool (isOpen C T)) ∧ ∃ q, w' = wr.drewN q) := open_x o T C wr hO hB (by omega)
      clear hO hB
      have t2 : (T : Int) ≤ 100000 := by omega
      have t3 : (0 : Int) ≤ (T : Int) := by omega
      gi_wp2
      refine ⟨trivial, (callsIn_wide.2 HC.out).mono ?_⟩
      rintro e w1 ⟨rfl, q, rfl⟩
      cases g : isOpen C (T : Int) with
      | false =>
        have Hg := Lib.hid g
        clear g
        gi_wp2
        refine ⟨fun _ h => (by cases h), ?_⟩
        gi_wp2
        go_roundw
        case rel => exact ⟨(T : Int) + 1, pre, rfl, by omega, by omega, by rw [Hx.out, opens_no c Hg.out], HJ.out _ _ _ HJs.out, hKt HKs.out (HKd.out _ _)⟩
        case measure => simp [intOf]; omega
      | true =>
        have Hg := Lib.hid g
        have Hx2 : Hid (opens C (b + 1 - a).toNat a = pre ++ (T : Int) :: opens C (b + 1 - ((T : Int) + 1)).toNat ((T : Int) + 1)) := by show _ = _; rw [Hx.out, opens_yes c g]
        have hlen : pre.length < (opens C (b + 1 - a).toNat a).length := by rw [Hx2.out]; simp
        obtain ⟨fn, tmps, assign, body, hy, hR⟩ := HY.out pre (T : Int) (wr.drewN q) (HJ.out _ _ _ HJs.out) hlen
        clear g hlen
        gi_wp2
        refine hR.mono ?_
        rintro e W3 (⟨rfl, hJ3, hk3⟩ | ⟨rfl, hJx3⟩)
        · gi_wp2
          go_roundw
          case rel => exact ⟨(T : Int) + 1, pre ++ [(T : Int)], rfl, by omega, by omega, by rw [Hx2.out]; simp, hJ3, hKt (hKt HKs.out (HKd.out _ _)) hk3⟩
          case measure => simp [intOf]; omega
        · gi_wp2
          refine bodyPost_ret (results_none rfl _ _ _) rfl ?_
          exact ⟨⟨_, rfl⟩, .inr ⟨pre ++ [(T : Int)], ⟨opens C (b + 1 - ((T : Int) + 1)).toNat ((T : Int) + 1), by rw [Hx2.out]; simp⟩, hJx3⟩⟩
    · clear hO hB c3
      gi_wp2
      go_end0
      exact ⟨⟨_, rfl⟩, .inl (by rw [Hx.out, opens_end (by omega), List.append_nil]; exact HJs.out)⟩

theorem grownBy_drewN (W : World) (q : Nat) : W.grownBy (W.drewN q) none := by
  have hb : Below W.heap.size W (W.drewN q) := below_drewN (Below.refl _ _) q
  exact ⟨hb.os, hb.tape, hb.output, hb.size, fun k hk _ => hb.block k hk⟩

theorem days_stops (n : Nat) (hn : 1 ≤ n) (o A1 A2 A3 : Nat) (C : Lists) (a b : Int) (ha0 : 0 ≤ a) (ha1 : a ≤ 100000) (hb1 : b ≤ 100000) (w0 : World) (Kp : World → World → Prop)
    (hKt : ∀ {A B C : World}, Kp A B → Kp B C → Kp A C) (hKd : ∀ A q, Kp A (World.drewN A q)) (hKB : ∀ W, Below w0.heap.size w0 W → Kp w0 W)
    (hKw : ∀ W, Kp w0 W → OfAt W o C ∧ Bf W ∧ W.cell? ⟨A1, 0, none⟩ = some (.int .i64 a) ∧ W.cell? ⟨A2, 0, none⟩ = some (.int .i64 b) ∧ W.cell? ⟨A3, 0, none⟩ = some (.pointer (some ⟨o, 0, none⟩))) :
    SeqStopsK Fence.wide n Tryd.prog 46 #[.pointer (some ⟨A1, 0, none⟩), .pointer (some ⟨A2, 0, none⟩), .pointer (some ⟨A3, 0, none⟩)] (fun x : Int => #[Value.int .i64 x]) Kp
      (fun ys => ys = opens C (b + 1 - a).toNat a) (fun pre => pre <+: opens C (b + 1 - a).toNat a) (opens C (b + 1 - a).toNat a).length w0 := fun l J Jx W hW hJ _ hY h0 =>
  days1_in n hn l o A1 A2 A3 C a b ha0 ha1 hb1 w0 Kp hKt hKd hKw J Jx W (fun _ _ q hj => hJ _ _ _ none hj (grownBy_drewN _ q) (fun r e => by cases e)) hY (hKB W hW) h0

end Go.Proofs.YtmlelmknbddkjaaDoor
