/-
  The reference's Order.
-/
import Derived.Test.YtndcbhgdlaemaaaRefC
namespace Go.Proofs.Ytndcbhgdlaemaaa
open Go.RowKit Gr

def lenV : Value → Nat
  | .slice _ n _ => n
  | _ => 0
/-- which nodes stand in the list -/
def mark (N : Nat) (l : List Int) : List Bool := (nodes N).map (fun x => decide (x ∈ l))
theorem mark_len (N : Nat) (l : List Int) : (mark N l).length = N := by unfold mark; rw [List.length_map, nodes_len]; simp
theorem mark_get {N : Nat} {l : List Int} {i : Nat} (h : i < N) : (mark N l)[i]? = some (decide ((i : Int) ∈ l)) := by
  unfold mark
  rw [List.getElem?_map, nodes_get (by simpa using h)]
  rfl
theorem mark_nil (N : Nat) : mark N [] = List.replicate N false := by
  apply List.ext_getElem?
  intro i
  by_cases c : i < N
  · rw [mark_get c, List.getElem?_replicate, if_pos c]
    simp
  · rw [List.getElem?_eq_none (by rw [mark_len]; omega), List.getElem?_eq_none (by simp; omega)]
theorem mark_set {N : Nat} {l : List Int} {a : Nat} (h : a < N) : (mark N l).set a true = mark N (l ++ [(a : Int)]) := by
  apply List.ext_getElem?
  intro i
  rw [List.getElem?_set]
  by_cases c : i < N
  · rw [mark_get c, mark_get c, mark_len, if_pos h]
    by_cases d : a = i
    · subst d
      rw [if_pos rfl]
      simp
    · rw [if_neg d]
      congr 1
      apply decide_eq_decide.2
      rw [List.mem_append, List.mem_singleton]
      constructor
      · exact .inl
      · rintro (k | k)
        · exact k
        · exact absurd k (by omega)
  · have e1 : (mark N l)[i]? = none := List.getElem?_eq_none (by rw [mark_len]; omega)
    have e2 : (mark N (l ++ [(a : Int)]))[i]? = none := List.getElem?_eq_none (by rw [mark_len]; omega)
    rw [e1, e2]
    by_cases d : a = i
    · omega
    · rw [if_neg d]
theorem free_next {e : E} {l : List Int} {a : Int} {i : Nat} {p : Int × Int} (h : e[i]? = some p) : freeB (e.take (i + 1)) l a = (freeB (e.take i) l a && (decide (p.2 ≠ a) || decide (p.1 ∈ l))) := by
  unfold freeB
  rw [List.take_add_one, h, List.all_append]
  simp [Bool.and_assoc]
theorem free_start {e : E} {l : List Int} {a : Int} : freeB (e.take 0) l a = !decide (a ∈ l) := by unfold freeB; simp
theorem free_less {e : E} {l : List Int} {a : Int} (i : Nat) (h : freeB (e.take i) l a = false) : freeB e l a = false := by
  rw [← Bool.not_eq_true] at *
  rw [free_iff] at *
  exact fun k => h ⟨k.1, fun p hp => k.2 p (List.mem_of_mem_take hp)⟩
/-- the least free node behind a, or -1 -/
def Found (n : Int) (e : E) (l : List Int) (a f : Int) : Prop := (f = -1 ∧ ∀ b, a < b → b < n → freeB e l b = false) ∨ (a < f ∧ f < n ∧ freeB e l f = true ∧ ∀ b, a < b → b < f → freeB e l b = false)
theorem Found.yes {n : Int} {e : E} {l : List Int} {a : Int} (ha : a < n) (hf : freeB e l a = true) : Found n e l (a - 1) a :=
  .inr ⟨by omega, ha, hf, fun b h1 h2 => by omega⟩
theorem Found.no {n : Int} {e : E} {l : List Int} {a f : Int} (h : Found n e l a f) (hf : freeB e l a = false) : Found n e l (a - 1) f := by
  rcases h with ⟨h1, h2⟩ | ⟨h1, h2, h3, h4⟩
  · refine .inl ⟨h1, fun b hb1 hb2 => ?_⟩
    by_cases c : b = a
    · rw [c]; exact hf
    · exact h2 b (by omega) hb2
  · refine .inr ⟨by omega, h2, h3, fun b hb1 hb2 => ?_⟩
    by_cases c : b = a
    · rw [c]; exact hf
    · exact h4 b (by omega) hb2
theorem Found.pick {n : Int} {e : E} {l : List Int} {f : Int} (h : Found n e l (-1) f) : (f = -1 ∧ pickO n e l = none) ∨ (0 ≤ f ∧ f < n ∧ pickO n e l = some f) := by
  rcases h with ⟨h1, h2⟩ | ⟨h1, h2, h3, h4⟩
  · refine .inl ⟨h1, ?_⟩
    cases hp : pickO n e l with
    | none => rfl
    | some a =>
      obtain ⟨k1, k2, -⟩ := pick_some hp
      rw [h2 a (by omega) k1.2] at k2
      cases k2
  · refine .inr ⟨by omega, h2, ?_⟩
    cases hp : pickO n e l with
    | none =>
      rw [pick_none hp f (by omega) h2] at h3
      cases h3
    | some a =>
      obtain ⟨k1, k2, k3⟩ := pick_some hp
      rcases Int.lt_trichotomy a f with c | c | c
      · rw [h4 a (by omega) c] at k2
        cases k2
      · rw [c]
      · rw [k3 f (by omega) c] at h3
        cases h3
/-- the list so far in memory -/
structure OO (N : Nat) (l : List Int) (w : World) (vo : Value) (W : World) : Prop where
  row : Row W w.heap.size (bools (mark N l))
  own : W.ownsRow (w.heap.size + 1) 3 1 vo l.length (ints l)
  below : Below w.heap.size w W
def OutO (N : Nat) (e : E) (w : World) (vo : Value) (wr : World) : Prop := ∃ (l : List Int) (ga : Option Addr) (gc : Nat), vo = .slice ga l.length gc ∧ l.length ≤ N ∧ order N e = ord N e (N - l.length) l ∧ OO N l w (.slice ga l.length gc) wr
def MidO (N : Nat) (e : E) (l : List Int) (W : World) (f a : Value) (wr : World) : Prop := ∃ (b k : Int), -1 ≤ b ∧ b < N ∧ a = .int .i64 b ∧ f = .int .i64 k ∧ Found N e l b k ∧ W = wr
def InO (e : E) (l : List Int) (a : Int) (W : World) (fr i : Value) (wr : World) : Prop := ∃ j : Nat, j ≤ e.length ∧ i = .int .i64 (j : Int) ∧ fr = .bool (freeB (e.take j) l a) ∧ W = wr
theorem cell_new1 (w : World) (x : Value) (T : TypeId) (n : Nat) (hn : n = w.heap.size) : ∀ j u, [x][j]? = some u → (w.alloc (.cells #[x] T)).cell? ((⟨n, 0, none⟩ : Addr).add j) = some u := by
  subst hn
  intro j u hu
  cases j with
  | succ j => simp at hu
  | zero =>
    simp at hu
    subst hu
    show (w.alloc (.cells #[x] T)).cell? ⟨w.heap.size, 0, none⟩ = _
    rw [World.cell?_alloc_new]
    rfl
/-- what Order answers -/
def ordL (n : Int) (e : E) : List Int := (order n e).getD []
def ordB (n : Int) (e : E) : Bool := (order n e).isSome

set_option maxHeartbeats 6400000 in
theorem Order_x (v : Value) (n : Int) (e : E) (w : World) (hat : EAt w v e) (hl : e.length ≤ 1152921504606846976) :
    Calls Try.prog 12 #[.int .i64 n, v] w fun r w' => ∃ x, r = .returned (.tuple #[x, .bool (ordB n e)]) ∧ SAt w' x (ints (ordL n e)) ∧ Below w.heap.size w w' := by
  have HAT := Lib.hid hat
  obtain ⟨ad, cap, rfl, -, -⟩ := id hat
  obtain ⟨rb, hrb⟩ : ∃ rb, rightB n e = rb := ⟨_, rfl⟩
  have RB := Lib.hid hrb
  cases rb with
  | false =>
    have ho : order n e = none := if_neg (by rw [hrb]; simp)
    have hv : Hid (ordL n e = []) := by show _ = _; unfold ordL; rw [ho]; rfl
    have hb : Hid (ordB n e = false) := by show _ = _; unfold ordB; rw [ho]; rfl
    clear hrb ho
    go_enter Try.func12, Try.ntmps12
    go_wp2_with fail
    refine (Right_x _ _ e _ hat hl).mono ?_
    rintro r w1 ⟨rfl, rfl⟩
    rw [RB.out]
    go_wp2_with fail
    go_ret2
    exact ⟨_, by rw [hb.out]; try rfl, by rw [hv.out]; exact SAt.nil _, Below.refl _ _⟩
  | true =>
    obtain ⟨⟨n0, n300⟩, e2000, hedge⟩ := right_iff.1 hrb
    have HE := Lib.hid hedge
    obtain ⟨N, rfl⟩ := Int.eq_ofNat_of_zero_le n0
    have ho : Hid (order N e = ord N e N []) := by
      show _ = _
      unfold order
      rw [if_pos hrb, Int.toNat_natCast]
    clear hedge hrb
    obtain ⟨ri, hi, hz0, hz1, hz2⟩ := info_parts infoB
    obtain ⟨rj, hj, hy0, hy1, hy2⟩ := info_parts infoI
    have Hj := Lib.hid hj
    have Hy0 := Lib.hid hy0
    have Hy1 := Lib.hid hy1
    have Hy2 := Lib.hid hy2
    clear hj hy0 hy1 hy2
    go_enter Try.func12, Try.ntmps12
    go_wp2_with fail
    refine (Right_x _ _ e _ hat hl).mono ?_
    rintro r w1 ⟨rfl, rfl⟩
    rw [RB.out]
    go_wp2_with (at_make; refine wpList_make_full _ rfl (.tmp 16) (.tmp 16) 30 rfl w.heap.size 4 ri (.bool false) 1 Try.underlying30 hi hz0 hz1 .i64 .i64 N N N rfl rfl rfl rfl ?f1 ?f2 ?f3 ?_)
    case f1 => rw [hz2]; omega
    case f2 => unfold maxLen; omega
    case f3 => exact Nat.le_refl _
    intro w2 hown hgrow
    rw [made_bools] at hown
    have R0 : Hid (OO N [] w (.slice none 0 0) w2) := show OO _ _ _ _ _ from ⟨by rw [mark_nil]; exact Row.own hown (by simp), World.ownsRow_nil _ _ _ _, (Below.refl _ _).grown hgrow (Nat.le_refl _) (fun k hk => by cases hk)⟩
    clear hown hgrow hi hz0 hz1 hz2
    go_wp2_with fail
    go_loopw [7] (fun vo wr => OutO N e w vo wr) (fun vo _ => N - lenV vo)
    case atStart => exact ⟨[], none, 0, rfl, Nat.zero_le _, ho.out, R0.out⟩
    case round =>
      obtain ⟨l, ga, gc, rfl, hlN, hord, hO⟩ := hrel
      have HO := Lib.hid hO
      have Hord := Lib.hid hord
      have l0 : (0 : Int) ≤ (l.length : Int) := by omega
      clear hO hord
      by_cases c : (l.length : Int) < (N : Int)
      case neg =>
        have hlen : l.length = N := by omega
        have ho2 : order N e = some l := by rw [Hord.out, hlen, Nat.sub_self]; rfl
        have hv : Hid (ordL N e = l) := by show _ = _; unfold ordL; rw [ho2]; rfl
        have hb : Hid (ordB N e = true) := by show _ = _; unfold ordB; rw [ho2]; rfl
        clear ho2 hlen
        go_wp2_with fail
        go_ret2
        exact ⟨_, by rw [hb.out]; try rfl, by rw [hv.out]; exact SAt.own HO.out.own (by simp), HO.out.below⟩
      case pos =>
        go_wp2_with fail
        go_loopw [8, 9] (fun f a wx => MidO N e l wr f a wx) (fun _ a _ => (intOf a + 1).toNat)
        case atStart => exact ⟨(N : Int) - 1, -1, by omega, by omega, by first | rfl | congr 1, rfl, .inl ⟨rfl, fun b h1 h2 => by omega⟩, rfl⟩
        case round =>
          obtain ⟨b, k, hb1, hbN, rfl, rfl, hF, rfl⟩ := hrel
          have HF := Lib.hid hF
          clear hF
          by_cases d : b = -1
          · obtain rfl := d
            clear hb1 hbN
            rcases Found.pick (show Found N e l (-1) k from HF.out) with ⟨rfl, hp⟩ | ⟨k0, kN, hp⟩
            · have ho2 : order N e = none := by
                rw [Hord.out, show N - l.length = (N - l.length - 1) + 1 by omega]
                unfold ord
                rw [hp]
              have hv : Hid (ordL N e = []) := by show _ = _; unfold ordL; rw [ho2]; rfl
              have hb : Hid (ordB N e = false) := by show _ = _; unfold ordB; rw [ho2]; rfl
              clear ho2 hp
              go_wp2_with fail
              go_ret2
              exact ⟨_, by rw [hb.out]; try rfl, by rw [hv.out]; exact SAt.nil _, HO.out.below⟩
            · obtain ⟨f, rfl⟩ := Int.eq_ofNat_of_zero_le k0
              have Hp := Lib.hid hp
              clear hp
              have q0 := HO.out.row.lt
              have q1 := HO.out.row.c f _ (bools_get (mark_get (l := l) (show f < N by omega)))
              have q2 := HO.out.row.fz f (by rw [List.length_map, mark_len]; omega)
              have Hnew : Hid (Row (wr.setCell ⟨w.heap.size, f, none⟩ (.bool true)) w.heap.size (bools (mark N (l ++ [(f : Int)])))) := by
                show Row _ _ _
                rw [← mark_set (by omega), ← bools_set]
                exact HO.out.row.set f _ (by rw [List.length_map, mark_len]; omega)
              have Hown : Hid ((wr.setCell ⟨w.heap.size, f, none⟩ (.bool true)).ownsRow (w.heap.size + 1) 3 1 (.slice ga l.length gc) l.length (ints l)) := ownsRow_setCell_below HO.out.own (Nat.lt_succ_self _) _
              have Hbel : Hid (Below w.heap.size w (wr.setCell ⟨w.heap.size, f, none⟩ (.bool true))) := HO.out.below.setCell (Nat.le_refl _) _
              have Hord2 : Hid (order N e = ord N e (N - (l ++ [(f : Int)]).length) (l ++ [(f : Int)])) := by
                show _ = _
                rw [Hord.out, show N - l.length = (N - l.length - 1) + 1 by omega, List.length_append]
                conv => lhs; unfold ord
                rw [Hp.out]
                rfl
              go_wp2_with (at_builtin; refine wpList_append_own _ rfl (.tmp 66) (.tmp 68) 25 rfl (w.heap.size + 1) 3 rj (.int .i64 0) 1 8 Try.underlying25 Hj.out Hy0.out Hy1.out Hy2.out rfl (by decide) _ l.length (ints l) rfl (Hown.out.alloc _) ⟨wr.heap.size, 0, none⟩ 1 1 [.int .i64 (f : Int)] rfl rfl ?f1 ?f2 ?f3 ?f4 ?f5 ?_)
              case f1 => exact cell_new1 _ _ _ _ (by simp)
              case f2 => intro u hu; simp at hu; subst hu; rfl
              case f3 => unfold maxLen; omega
              case f4 => omega
              case f5 => simp; omega
              intro v5 w5 hown5 hgrow5 _
              have bel5 : Below (w.heap.size + 1) (wr.setCell ⟨w.heap.size, f, none⟩ (.bool true)) w5 := ((Below.refl _ _).alloc (by simp; omega) _).grown hgrow5 (by simp; omega) (fun k hk => (Hown.out.lt k hk).1)
              have hO5 : OO N (l ++ [(f : Int)]) w v5 w5 := ⟨Hnew.out.below bel5 (Nat.lt_succ_self _), by simpa [ints] using hown5, Hbel.out.trans (bel5.mono (Nat.le_succ _))⟩
              obtain ⟨g5, c5, rfl⟩ : ∃ g5 c5, v5 = .slice g5 (l ++ [(f : Int)]).length c5 := by
                obtain ⟨a, c, h, -⟩ := SAt.own hO5.own (by simp)
                rw [List.length_map] at h
                exact ⟨a, c, h⟩
              have HO5 := Lib.hid hO5
              clear hown5 hgrow5 bel5 hO5 q0 q1 q2
              go_wp2_with fail
              go_roundw
              case rel => exact ⟨l ++ [(f : Int)], g5, c5, rfl, by rw [List.length_append]; simp; omega, Hord2.out, HO5.out⟩
              case measure => simp [lenV]; omega
          · obtain ⟨m, rfl⟩ := Int.eq_ofNat_of_zero_le (show 0 ≤ b by omega)
            have m0 : (0 : Int) ≤ (m : Int) := by omega
            have mN : (m : Int) < (N : Int) := hbN
            have q0 := HO.out.row.lt
            have q1 := HO.out.row.c m _ (bools_get (mark_get (l := l) (show m < N by omega)))
            obtain ⟨u, hu⟩ : ∃ u, decide ((m : Int) ∈ l) = u := ⟨_, rfl⟩
            have Hu := Lib.hid hu
            rw [hu] at q1
            clear hu d hb1 hbN
            go_wp2_with fail
            go_loopw [10, 11] (fun fr i wx => InO e l m wr fr i wx) (fun _ i _ => e.length - (intOf i).toNat)
            case atStart => exact ⟨0, Nat.zero_le _, rfl, by rw [free_start, Hu.out], rfl⟩
            case round =>
              clear q1 Hu
              obtain ⟨i, hi, rfl, rfl, rfl⟩ := hrel
              have i0 : (0 : Int) ≤ (i : Int) := by omega
              obtain ⟨fb, hfb⟩ : ∃ fb, freeB (e.take i) l m = fb := ⟨_, rfl⟩
              rw [hfb]
              have Hfb := Lib.hid hfb
              clear hfb
              cases fb with
              | false =>
                have Hno : Hid (freeB e l m = false) := free_less i Hfb.out
                by_cases c2 : (i : Int) < (e.length : Int)
                · go_wp2_with fail
                  go_roundw
                  case measure => simp [intOf]
                  case rel => exact ⟨(m : Int) - 1, k, by omega, by omega, rfl, rfl, HF.out.no Hno.out, rfl⟩
                · go_wp2_with fail
                  go_roundw
                  case measure => simp [intOf]
                  case rel => exact ⟨(m : Int) - 1, k, by omega, by omega, rfl, rfl, HF.out.no Hno.out, rfl⟩
              | true =>
                by_cases c2 : (i : Int) < (e.length : Int)
                case neg =>
                  have Hyes : Hid (freeB e l m = true) := by
                    have h := Hfb.out
                    rw [List.take_of_length_le (by omega)] at h
                    exact h
                  go_wp2_with fail
                  go_roundw
                  case measure => simp [intOf]
                  case rel => exact ⟨(m : Int) - 1, m, by omega, by omega, rfl, rfl, Found.yes mN Hyes.out, rfl⟩
                case pos =>
                  obtain ⟨p, hp⟩ : ∃ p, e[i]? = some p := ⟨e[i], List.getElem?_eq_getElem (by omega)⟩
                  obtain ⟨a', cap', e', -, hc⟩ := HAT.out.below HO.out.below (Nat.le_refl _)
                  injection e' with e1 e2 e3
                  subst e1 e3
                  obtain ⟨g, off, rfl, hlt, p0, p1⟩ := hc i p hp
                  have hpe := HE.out p (List.mem_of_getElem? hp)
                  obtain ⟨px, py⟩ := p
                  have Hn : Hid (freeB (e.take (i + 1)) l m = (decide (py ≠ (m : Int)) || decide (px ∈ l))) := by
                    show _ = _
                    rw [free_next hp, Hfb.out, Bool.true_and]
                  simp only at hpe p0 p1
                  obtain ⟨x, rfl⟩ := Int.eq_ofNat_of_zero_le hpe.1.1
                  have x0 : (0 : Int) ≤ (x : Int) := by omega
                  have xn : (x : Int) < (N : Int) := hpe.1.2
                  have q1 := HO.out.row.c x _ (bools_get (mark_get (l := l) (show x < N by omega)))
                  obtain ⟨t, ht⟩ : ∃ t, decide ((x : Int) ∈ l) = t := ⟨_, rfl⟩
                  rw [ht] at q1 Hn
                  clear hp hc hpe e2 ht
                  by_cases e1 : py = (m : Int)
                  · have f1 : (py != (m : Int)) = false := by simp [e1]
                    have Hn2 : Hid (freeB (e.take (i + 1)) l m = t) := by
                      show _ = _
                      rw [Hn.out, decide_eq_false (fun h => h e1), Bool.false_or]
                    clear e1 Hn
                    go_wp2_with fail
                    go_roundw
                    case rel => exact ⟨i + 1, by omega, by congr 1, by rw [Hn2.out], rfl⟩
                    case measure => simp [intOf]; omega
                  · have f1 : (py != (m : Int)) = true := by simp [e1]
                    have Hn2 : Hid (freeB (e.take (i + 1)) l m = true) := by
                      show _ = _
                      rw [Hn.out, decide_eq_true e1, Bool.true_or]
                    clear e1 Hn
                    go_wp2_with fail
                    go_roundw
                    case rel => exact ⟨i + 1, by omega, by congr 1, by rw [Hn2.out], rfl⟩
                    case measure => simp [intOf]; omega

end Go.Proofs.Ytndcbhgdlaemaaa
