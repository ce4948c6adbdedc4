/-
  The program's journal: readList.
-/
import Derived.Test.YtemldlhhlneleaaDoorJpA
import Derived.Test.YtemldlhhlneleaaDoorWiRead
namespace Go.Proofs.YtemldlhhlneleaaDoor.Jn
open Go.RowKit Dk Wi

def rlV (T : S) : List S × Bool := match (decF T.length T).bind fun s => if s.length ≤ 500 then some s else none with | some l => (l, true) | none => ([], false)
theorem rl_none {T : S} (h : ((decF T.length T).bind fun s => if s.length ≤ 500 then some s else none) = none) : rlV T = ([], false) := by unfold rlV; rw [h]
theorem rl_some {T : S} {l : List S} (h : ((decF T.length T).bind fun s => if s.length ≤ 500 then some s else none) = some l) : rlV T = (l, true) := by unfold rlV; rw [h]
/-- five hundred have been read, and there is more -/
theorem Gd.many {T : S} {n : Nat} {xs : List B} {r : S} (h : Gd T n xs r) (hr : r ≠ []) (hx : 500 ≤ xs.length) : ((decF n T).bind fun s => if s.length ≤ 500 then some s else none) = none := by
  obtain ⟨f, h1, h2⟩ := h.f
  rw [h2]
  cases hd : decF f r with
  | none => rfl
  | some q =>
    obtain ⟨e, -⟩ := decF_only _ _ _ hd
    have hq : q ≠ [] := by
      intro k
      rw [k] at e
      exact hr e
    have hl : 0 < q.length := List.length_pos_iff.2 hq
    show (if (lst xs ++ q).length ≤ 500 then _ else _) = _
    rw [if_neg]
    rw [List.length_append, List.length_map]
    omega

def RlRel (T : S) (n : Nat) (w : World) (r v : Value) (wr : World) : Prop := ∃ (xs : List B) (t : S) (la : Option Addr) (lc : Nat), r = .string (mkB t) ∧ v = .slice la xs.length lc ∧ Gd T n xs t ∧ wr.ownsRow w.heap.size 9 1 (.slice la xs.length lc) xs.length (strs xs) ∧ Below w.heap.size w wr ∧ xs.length ≤ 500

set_option maxHeartbeats 6400000 in
set_option maxRecDepth 100000 in
theorem readList_x (T : S) (w : World) (hT : T.length ≤ 8192) :
    Calls Tryd.prog 57 #[.string (mkB T)] w fun r w' => ∃ a n c, r = .returned (.tuple #[.slice a n c, .bool (rlV T).2]) ∧ LAt w' (.slice a n c) (rlV T).1 ∧ (∀ p, a = some p → w.heap.size ≤ p.block) ∧ Below w.heap.size w w' := by
  have G0 : Hid (Gd T T.length [] T) := Gd.start (Nat.le_refl _)
  obtain ⟨rj, hj, hy0, hy1, hy2⟩ := info_parts infoS
  have Hj := Lib.hid hj
  have Hy0 := Lib.hid hy0
  have Hy1 := Lib.hid hy1
  have Hy2 := Lib.hid hy2
  have HT := Lib.hid hT
  clear hj hy0 hy1 hy2 hT
  go_enter Tryd.func57, Tryd.ntmps57
  go_wp2_with fail
  go_loopw [0, 4] (fun r v wr => RlRel T T.length w r v wr) (fun r _ _ => match r with | .string t => t.size | _ => 0)
  case atStart => exact ⟨[], T, none, 0, rfl, rfl, G0.out, World.ownsRow_nil _ _ _ _, Below.refl _ _, Nat.zero_le _⟩
  case round =>
    clear G0
    obtain ⟨xs, t, la, lc, rfl, rfl, hG, hO, hB, hF5⟩ := hrel
    have HG := Lib.hid hG
    have HO := Lib.hid hO
    have HB := Lib.hid hB
    have few := hG.few
    have tz : (mkB t).size = t.length := rfl
    clear hG hO hB
    by_cases c0 : t = []
    · subst c0
      have c1 : (mkB []).toList.isEmpty = true := by rw [toList_data]; rfl
      have hd : Hid (decF T.length T = some (lst xs)) := HG.out.done
      have hl5 : Hid ((lst xs).length = xs.length) := List.length_map _
      go_wp2_with fail
      go_ret2
      have t5 := hF5
      have hv : Hid (rlV T = (lst xs, true)) := rl_some (by rw [hd.out, Option.bind_some, if_pos (by rw [hl5.out]; exact t5)])
      exact ⟨la, xs.length, lc, by rw [hv.out]; try rfl, by rw [hv.out]; show SAt _ _ (strs ((lst xs).map mkB)); rw [mk_lst]; exact SAt.own HO.out (strs_len _).symm, fun p hp => (HO.out.lt p.block (by rw [hp]; rfl)).1, HB.out⟩
    · have C0 := Lib.hid c0
      have c1 : (mkB t).toList.isEmpty = false := by
        rw [toList_data]
        cases t with
        | nil => exact absurd rfl c0
        | cons a u => rfl
      have tl : t.length ≤ 8192 := by have := HT.out; omega
      have HS5 := Lib.hid (ReadString_x (mkB t) wr (by rw [mkB_size]; omega))
      clear c0
      obtain ⟨q, hq⟩ : ∃ q, Wm.rdS t = q := ⟨_, rfl⟩
      have HQ := Lib.hid hq
      clear hq
      go_wp2_with fail
      refine HS5.out.mono ?_
      rintro r w6 ⟨rfl, b6⟩
      rw [show Wm.rdS (mkB t).data.toList = q from HQ.out]
      have HB6 := Lib.hid (chain HB.out b6)
      have HO6 := Lib.hid (own_nx HO.out b6)
      clear HS5 b6
      cases q with
      | none =>
        have hv : Hid (rlV T = ([], false)) := rl_none (by rw [HG.out.stop C0.out HQ.out]; rfl)
        simp only [tS]
        go_wp2_with fail
        go_ret2
        exact ⟨none, 0, 0, by rw [hv.out]; try rfl, by rw [hv.out]; exact SAt.nil _, (fun p hp => by cases hp), HB6.out⟩
      | some p =>
        obtain ⟨x, t'⟩ := p
        simp only [tS, mk_mkB]
        by_cases hx : x.length ≤ 2000
        · have hx1 : ¬ 2000 < ((mkB x).size : Int) := by rw [mkB_size]; omega
          by_cases h5 : xs.length = 500
          · have h51 : ((xs.length : Int) == 500) = true := by simp; omega
            have hv : Hid (rlV T = ([], false)) := rl_none (HG.out.many C0.out (by omega))
            clear h5 hx
            go_wp2_with fail
            go_ret2
            exact ⟨none, 0, 0, by rw [hv.out]; try rfl, by rw [hv.out]; exact SAt.nil _, (fun p hp => by cases hp), HB6.out⟩
          have h51 : ((xs.length : Int) == 500) = false := by simp; omega
          have HF52 : Hid (xs.length + 1 ≤ 500) := by have := hF5; show _ ≤ _; omega
          obtain ⟨G2, G3⟩ := HG.out.more C0.out HQ.out hx
          have HG2 := Lib.hid G2
          have HG3 := Lib.hid G3
          have BN : Hid (Below w6.heap.size w6 (w6.alloc (.cells #[.string (mkB x)] 9))) := Below.new1 _
          clear G2 G3 hx h5
          go_wp2_with (at_builtin; refine wpList_append_own _ rfl (.tmp 28) (.tmp 30) 24 rfl w.heap.size 9 rj (.string ⟨#[]⟩) 1 16 Tryd.underlying24 Hj.out Hy0.out Hy1.out Hy2.out rfl (by decide) _ xs.length (strs xs) rfl (HO6.out.alloc _) ⟨w6.heap.size, 0, none⟩ 1 1 [.string (mkB x)] rfl rfl ?f1 ?f2 ?f3 ?f4 ?f5 ?_)
          case f2 => rfl
          case f3 => unfold maxLen; omega
          case f4 => omega
          case f5 => have := HB6.out.size; omega
          intro v7 w7 hown7 hgrow7 _
          have hrow : ∀ j, (Value.slice la xs.length lc).ownBlock = some j → w.heap.size ≤ j := fun j hj => (HO6.out.lt j hj).1
          have B7 : Hid (Below w.heap.size w w7) := HB6.out.trans (((Below.refl w.heap.size w6).alloc HB6.out.size _).grown hgrow7 (by have := HB6.out.size; simp; omega) hrow)
          obtain ⟨la', lc', e7, -, -⟩ := SAt.own hown7 (by rw [List.length_append, strs_len]; rfl)
          rw [List.length_append, strs_len, List.length_singleton] at e7
          subst e7
          have HO7 : Hid (w7.ownsRow w.heap.size 9 1 (.slice la' (xs.length + 1) lc') (xs.length + 1) (strs (xs ++ [mkB x]))) := by
            show w7.ownsRow _ _ _ _ _ _
            rw [show strs (xs ++ [mkB x]) = strs xs ++ [.string (mkB x)] by simp [strs]]
            exact hown7
          clear hown7 hgrow7 hrow
          go_wp2_with fail
          go_roundw
          case rel => exact ⟨xs ++ [mkB x], t', la', lc', rfl, by congr 1; rw [List.length_append]; rfl, HG2.out, by rw [List.length_append]; exact HO7.out, B7.out, by rw [List.length_append]; exact HF52.out⟩
          case measure => exact HG3.out
        · have hx1 : 2000 < ((mkB x).size : Int) := by rw [mkB_size]; omega
          have hv : Hid (rlV T = ([], false)) := rl_none (by rw [HG.out.big C0.out HQ.out (by omega)]; rfl)
          clear hx
          go_wp2_with fail
          go_ret2
          exact ⟨none, 0, 0, by rw [hv.out]; try rfl, by rw [hv.out]; exact SAt.nil _, (fun p hp => by cases hp), HB6.out⟩

end Go.Proofs.YtemldlhhlneleaaDoor.Jn
