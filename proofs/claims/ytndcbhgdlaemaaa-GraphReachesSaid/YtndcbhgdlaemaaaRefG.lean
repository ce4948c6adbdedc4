/-
  The reference's Groups.
-/
import Derived.Test.YtndcbhgdlaemaaaRefF
import Derived.Maps.AppendAt
import Derived.Deep.AppendLies
namespace Go.Proofs.Ytndcbhgdlaemaaa
open Go.RowKit Gr

theorem infoL : (Try.prog.info? 25).map (fun i => (i.zero, i.size, i.bytes)) = some (some (.slice none 0 0), 1, 24) := by kernel_rfl
theorem Below.new1 {w : World} (o : Obj) : Below w.heap.size w (w.alloc o) := (Below.refl _ _).alloc (Nat.le_refl _) _
/-- a slice that lies in no block of that number -/
def Far (x : Value) (row : Option Nat) : Prop := ∀ a n c, x = .slice (some a) n c → some a.block ≠ row
theorem SAt.grown {w w' : World} {x : Value} {l : List Value} {row : Option Nat} (h : SAt w x l) (hg : w.grownBy w' row) (hf : Far x row) : SAt w' x l := by
  obtain ⟨a, cap, rfl, hcap, h⟩ := h
  refine ⟨a, cap, rfl, hcap, fun j t ht => ?_⟩
  obtain ⟨b, off, rfl, hlt, h0⟩ := h j t ht
  refine ⟨b, off, rfl, Nat.lt_of_lt_of_le hlt hg.size, ?_⟩
  rw [hg.cell_far ⟨b, off + j, none⟩ hlt (hf ⟨b, off, none⟩ _ _ rfl)]
  exact h0
/-- an element of the list of lists -/
structure El (W : World) (x : Value) (l : List Int) (row : Option Nat) : Prop where
  at_ : SAt W x (ints l)
  far : Far x row
  old : ∀ a n c, x = .slice (some a) n c → a.block < W.heap.size
/-- the list of lists so far -/
structure GO (L : List (List Int)) (w : World) (vo : Value) (W : World) (vs : List Value) : Prop where
  own : W.ownsRow w.heap.size 25 1 vo L.length vs
  len : vs.length = L.length
  el : ∀ (i : Nat) (x : Value) (l : List Int), vs[i]? = some x → L[i]? = some l → El W x l vo.ownBlock
  below : Below w.heap.size w W
theorem El.below {W W' : World} {x : Value} {l : List Int} {row : Option Nat} (h : El W x l row) (hb : Below W.heap.size W W') : El W' x l row :=
  ⟨h.at_.below hb (Nat.le_refl _), h.far, fun a n c e => Nat.lt_of_lt_of_le (h.old a n c e) hb.size⟩
theorem own_below {W W' : World} {base n : Nat} {T : TypeId} {v : Value} {xs : List Value} (h : W.ownsRow base T 1 v n xs) (hb : Below W.heap.size W W') : W'.ownsRow base T 1 v n xs := by
  refine ⟨h.1, ?_⟩
  rcases h.2 with ⟨h1, h2⟩ | ⟨g, cap, cur, h1, h2, h3, h4⟩
  · exact .inl ⟨h1, h2⟩
  · refine .inr ⟨g, cap, cur, h1, h2, ?_, h4⟩
    rw [hb.block g (Array.getElem?_eq_some_iff.1 h3).1]
    exact h3
theorem GO.next {L : List (List Int)} {w : World} {vo : Value} {W W' : World} {vs : List Value} (h : GO L w vo W vs) (hb : Below W.heap.size W W') : GO L w vo W' vs :=
  ⟨own_below h.own hb, h.len, fun i x l hx hl => (h.el i x l hx hl).below hb, chain h.below hb⟩
/-- one more -/
theorem GO.push {L : List (List Int)} {w : World} {vo : Value} {W W' : World} {vs : List Value} (h : GO L w vo W vs) {vl : Value} {l : List Int} (hl : El W vl l vo.ownBlock) {v' : Value}
    (hown : W'.ownsRow w.heap.size 25 1 v' (L.length + 1) (vs ++ [vl])) (hg : W.grownBy W' vo.ownBlock) (hlies : v'.ownBlock = vo.ownBlock ∨ ∃ k, W.heap.size ≤ k ∧ v'.ownBlock = some k) : GO (L ++ [l]) w v' W' (vs ++ [vl]) := by
  have hnew : ∀ x l, El W x l vo.ownBlock → El W' x l v'.ownBlock := by
    intro x l he
    refine ⟨he.at_.grown hg he.far, ?_, fun a n c e => Nat.lt_of_lt_of_le (he.old a n c e) hg.size⟩
    intro a n c e
    rcases hlies with k | ⟨k, hk, hk2⟩
    · rw [k]; exact he.far a n c e
    · rw [hk2]
      have := he.old a n c e
      intro h2
      injection h2 with h2
      omega
  refine ⟨by rw [List.length_append]; exact hown, by rw [List.length_append, List.length_append, h.len]; rfl, fun i x m hx hm => ?_, h.below.grown hg h.below.size (fun k hk => (h.own.lt k hk).1)⟩
  by_cases c : i < vs.length
  · rw [List.getElem?_append_left c] at hx
    rw [List.getElem?_append_left (by rw [← h.len]; exact c)] at hm
    exact hnew x m (h.el i x m hx hm)
  · rw [List.getElem?_append_right (by omega)] at hx
    rw [List.getElem?_append_right (by rw [← h.len]; omega)] at hm
    have e1 : i - vs.length = 0 := by
      have := (List.getElem?_eq_some_iff.1 hx).1
      simp at this
      omega
    rw [e1] at hx
    rw [← h.len, e1] at hm
    simp at hx hm
    subst hx hm
    exact hnew _ _ hl
theorem GO.lat {L : List (List Int)} {w : World} {vo : Value} {W : World} {vs : List Value} (h : GO L w vo W vs) : LAt W vo L :=
  ⟨vs, SAt.own h.own h.len.symm, h.len, fun i x l hx hl => (h.el i x l hx hl).at_⟩
/-- the groups of the first nodes -/
noncomputable def grpTo (N : Nat) (e : E) (i : Nat) : List (List Int) := (((nodes N).take i).filter (leastB N e)).map (groupOf N e)
noncomputable def memTo (N : Nat) (e : E) (a : Int) (j : Nat) : List Int := ((nodes N).take j).filter (mutB e a)
noncomputable def lstTo (N : Nat) (e : E) (a : Int) (j : Nat) : Bool := ((nodes N).take j).all (fun b => !mutB e a b || decide (a ≤ b))
theorem take_node {N : Nat} {i : Nat} (h : i < N) : (nodes N).take (i + 1) = (nodes N).take i ++ [(i : Int)] := by rw [List.take_add_one, nodes_get (by simpa using h)]; rfl
theorem take_nodes {N : Nat} : (nodes N).take N = nodes N := List.take_of_length_le (by rw [nodes_len]; simp)
theorem grp_next {N : Nat} {e : E} {i : Nat} (h : i < N) : grpTo N e (i + 1) = grpTo N e i ++ (if leastB N e i = true then [groupOf N e i] else []) := by
  unfold grpTo
  rw [take_node h, List.filter_append, List.map_append]
  congr 1
  by_cases c : leastB N e i = true
  · rw [if_pos c]; simp [c]
  · rw [if_neg c]; simp [c]
theorem mem_next {N : Nat} {e : E} {a : Int} {j : Nat} (h : j < N) : memTo N e a (j + 1) = memTo N e a j ++ (if mutB e a j = true then [(j : Int)] else []) := by
  unfold memTo
  rw [take_node h, List.filter_append]
  congr 1
  by_cases c : mutB e a j = true
  · rw [if_pos c]; simp [c]
  · rw [if_neg c]; simp [c]
theorem lst_next {N : Nat} {e : E} {a : Int} {j : Nat} (h : j < N) : lstTo N e a (j + 1) = (lstTo N e a j && (!mutB e a j || decide (a ≤ (j : Int)))) := by
  unfold lstTo
  rw [take_node h, List.all_append]
  simp
theorem mem_all {N : Nat} {e : E} {a : Int} : memTo N e a N = groupOf N e a := by unfold memTo groupOf; rw [take_nodes]
theorem lst_all {N : Nat} {e : E} {a : Int} : lstTo N e a N = leastB N e a := by unfold lstTo leastB; rw [take_nodes]
theorem grp_all {N : Nat} {e : E} (hr : rightB N e = true) : grpTo N e N = groups N e := by unfold grpTo; rw [take_nodes, groups_of hr]; rfl
theorem mem_len {N : Nat} {e : E} {a : Int} {j : Nat} : (memTo N e a j).length ≤ j := by
  unfold memTo
  exact Nat.le_trans (List.length_filter_le _ _) (by rw [List.length_take]; omega)
theorem grp_len {N : Nat} {e : E} {j : Nat} : (grpTo N e j).length ≤ j := by
  unfold grpTo
  rw [List.length_map]
  exact Nat.le_trans (List.length_filter_le _ _) (by rw [List.length_take]; omega)
theorem own_bools {w : World} {x : Value} {l : List Bool} (h : SAt w x (bools l)) {N : Nat} (hN : l.length = N) : ∃ a c, x = .slice a N c ∧ N ≤ c ∧ Hid (∀ (j : Nat) (b : Bool), l[j]? = some b → ∃ g off, a = some ⟨g, off, none⟩ ∧ g < w.heap.size ∧ w.cell? ⟨g, off + j, none⟩ = some (.bool b)) := by
  obtain ⟨a, c, e, hc, hx⟩ := h
  rw [List.length_map, hN] at e
  rw [List.length_map, hN] at hc
  exact ⟨a, c, e, hc, fun j b hb => hx j _ (bools_get hb)⟩
/-- the inner loop -/
structure GI (N : Nat) (e : E) (a : Int) (j : Nat) (W7 : World) (vl : Value) (W : World) : Prop where
  own : W.ownsRow W7.heap.size 3 1 vl (memTo N e a j).length (ints (memTo N e a j))
  below : Below W7.heap.size W7 W
def GoRel (N : Nat) (e : E) (w : World) (vo i : Value) (wr : World) : Prop := ∃ (k : Nat) (ga : Option Addr) (gc : Nat) (vs : List Value), k ≤ N ∧ i = .int .i64 (k : Int) ∧ vo = .slice ga (grpTo N e k).length gc ∧ GO (grpTo N e k) w (.slice ga (grpTo N e k).length gc) wr vs
def GiRel (N : Nat) (e : E) (a : Int) (W7 : World) (vl fst b : Value) (wr : World) : Prop := ∃ (j : Nat) (la : Option Addr) (lc : Nat), j ≤ N ∧ b = .int .i64 (j : Int) ∧ vl = .slice la (memTo N e a j).length lc ∧ fst = .bool (lstTo N e a j) ∧ GI N e a j W7 (.slice la (memTo N e a j).length lc) wr

set_option maxHeartbeats 6400000 in
theorem Groups_x (v : Value) (n : Int) (e : E) (w : World) (hat : EAt w v e) (hl : e.length ≤ 1152921504606846976) :
    Calls Try.prog 21 #[.int .i64 n, v] w fun r w' => ∃ x, r = .returned x ∧ LAt w' x (groups n e) ∧ Below w.heap.size w w' := by
  have HAT := Lib.hid hat
  obtain ⟨ad, cap, rfl, -, -⟩ := id hat
  obtain ⟨rb, hrb⟩ : ∃ rb, rightB n e = rb := ⟨_, rfl⟩
  have RB := Lib.hid hrb
  cases rb with
  | false =>
    have hv : Hid (groups n e = []) := groups_wrong hrb
    clear hrb
    go_enter Try.func21, Try.ntmps21
    go_wp2_with fail
    refine (Right_x _ _ e _ hat hl).mono ?_
    rintro r w1 ⟨rfl, rfl⟩
    rw [RB.out]
    go_wp2_with fail
    go_ret
    exact ⟨_, rfl, by rw [hv.out]; exact ⟨[], SAt.nil _, rfl, fun i x l h => by simp at h⟩, Below.refl _ _⟩
  | true =>
    obtain ⟨⟨n0, n300⟩, -, -⟩ := right_iff.1 hrb
    obtain ⟨N, rfl⟩ := Int.eq_ofNat_of_zero_le n0
    have n300' : N ≤ 300 := by omega
    clear hrb
    obtain ⟨rj, hj, hy0, hy1, hy2⟩ := info_parts infoI
    obtain ⟨rl, hi, hz0, hz1, hz2⟩ := info_parts infoL
    have Hj := Lib.hid hj
    have Hy0 := Lib.hid hy0
    have Hy1 := Lib.hid hy1
    have Hy2 := Lib.hid hy2
    have Hi := Lib.hid hi
    have Hz0 := Lib.hid hz0
    have Hz1 := Lib.hid hz1
    have Hz2 := Lib.hid hz2
    clear hj hy0 hy1 hy2 hi hz0 hz1 hz2
    have HRE : Hid (∀ (b : Nat) (W : World), b < N → Below w.heap.size w W → Calls Try.prog 16 #[.int .i64 (N : Int), .slice ad e.length cap, .int .i64 (b : Int)] W fun r w' => ∃ x, r = .returned x ∧ SAt w' x (bools (reach N e b)) ∧ Below W.heap.size W w') := fun b W hb hW => by
      have h := Reach_x (.slice ad e.length cap) N b e W (HAT.out.below hW (Nat.le_refl _)) hl
      rw [← reach_eq] at h
      exact h
    have HRL : Hid (∀ b : Nat, b < N → (reach N e b).length = N) := fun b hb => by rw [reach_len RB.out ⟨by omega, by omega⟩]; simp
    have HRG : Hid (∀ b i : Nat, b < N → i < N → (reach N e b)[i]? = some (reachB e b i)) := fun b i hb hi => reach_get RB.out ⟨by omega, by omega⟩ (by simpa using hi)
    go_enter Try.func21, Try.ntmps21
    go_wp2_with fail
    refine (Right_x _ _ e _ hat hl).mono ?_
    rintro r w1 ⟨rfl, rfl⟩
    rw [RB.out]
    clear hat
    go_wp2_with fail
    go_loopw [5, 6] (fun vo i wr => GoRel N e w vo i wr) (fun _ i _ => ((N : Int) - intOf i).toNat)
    case atStart => exact ⟨0, none, 0, [], Nat.zero_le _, rfl, rfl, World.ownsRow_nil _ _ _ _, rfl, fun i x l h => by simp at h, Below.refl _ _⟩
    case round =>
      obtain ⟨k, ga, gc, vs, hk, rfl, rfl, hG⟩ := hrel
      have HG := Lib.hid hG
      clear hG
      have k0 : (0 : Int) ≤ (k : Int) := by omega
      by_cases c : (k : Int) < (N : Int)
      case neg =>
        obtain rfl : k = N := by omega
        clear c
        go_wp2_with fail
        go_ret
        refine ⟨_, rfl, ?_, HG.out.below⟩
        have h := HG.out.lat
        rw [grp_all RB.out] at h ⊢
        exact h
      case pos =>
        have kN : k < N := by omega
        have glen : (grpTo N e k).length ≤ 300 := Nat.le_trans grp_len (by omega)
        have glen' : (0 : Int) ≤ ((grpTo N e k).length : Int) := by omega
        go_wp2_with fail
        refine (HRE.out k wr kN HG.out.below).mono ?_
        rintro r w7 ⟨x, rfl, hx, b7⟩
        obtain ⟨fa, fc, rfl, fcap, HX⟩ := own_bools hx (HRL.out k kN)
        have G7 := Lib.hid (HG.out.next b7)
        clear hx b7 HG
        go_wp2_with fail
        go_loopw [8, 9, 10] (fun vl fst b wx => GiRel N e k w7 vl fst b wx) (fun _ _ b _ => ((N : Int) - intOf b).toNat)
        case atStart => exact ⟨0, none, 0, Nat.zero_le _, rfl, rfl, rfl, World.ownsRow_nil _ _ _ _, Below.refl _ _⟩
        case round =>
          obtain ⟨j, la, lc, hj, rfl, rfl, rfl, hI⟩ := hrel
          have HI := Lib.hid hI
          clear hI
          have j0 : (0 : Int) ≤ (j : Int) := by omega
          have mlen : (memTo N e k j).length ≤ 300 := Nat.le_trans mem_len (by omega)
          obtain ⟨fs, hfs⟩ : ∃ fs, lstTo N e k j = fs := ⟨_, rfl⟩
          rw [hfs]
          have Hfs := Lib.hid hfs
          clear hfs
          by_cases d : (j : Int) < (N : Int)
          case neg =>
            obtain rfl : j = N := by omega
            clear d
            have Gx := Lib.hid (G7.out.next HI.out.below)
            have Hf2 : Hid (leastB j e k = fs) := by show _ = _; rw [← lst_all]; exact Hfs.out
            have Hm : Hid (memTo j e k j = groupOf j e k) := mem_all
            cases fs with
            | false =>
              have Hg : Hid (grpTo j e (k + 1) = grpTo j e k) := by show _ = _; rw [grp_next kN, Hf2.out]; simp
              go_wp2_with fail
              go_roundw
              case rel => exact ⟨k + 1, ga, gc, vs, by omega, by congr 1, by rw [Hg.out], by rw [Hg.out]; exact Gx.out⟩
              case measure => simp [intOf]; omega
            | true =>
              have Hg : Hid (grpTo j e (k + 1) = grpTo j e k ++ [memTo j e k j]) := by show _ = _; rw [grp_next kN, Hf2.out, if_pos rfl, Hm.out]
              have HE : Hid (El wr (.slice la (memTo j e k j).length lc) (memTo j e k j) (Value.slice ga (grpTo j e k).length gc).ownBlock) := by
                have h1 := HI.out.own
                have far : ∀ a n c, Value.slice la (memTo j e k j).length lc = .slice (some a) n c → w7.heap.size ≤ a.block ∧ a.block < wr.heap.size := fun a n c e1 => by
                  injection e1 with e1
                  exact h1.lt a.block (by rw [e1]; rfl)
                refine ⟨SAt.own h1 (by simp), fun a n c e1 e2 => ?_, fun a n c e1 => (far a n c e1).2⟩
                have h3 := (G7.out.own.lt a.block e2.symm).2
                have := (far a n c e1).1
                omega
              have Ga := Lib.hid (Gx.out.next (Below.new1 (w := wr) (.cells #[.slice la (memTo j e k j).length lc] 25)))
              have HEa := Lib.hid (HE.out.below (Below.new1 (w := wr) (.cells #[.slice la (memTo j e k j).length lc] 25)))
              have bsz := Gx.out.below.size
              go_wp2_with (at_builtin; refine wpList_append_own_at _ rfl (.tmp 53) (.tmp 55) 34 rfl w.heap.size 25 rl (.slice none 0 0) 1 24 Try.underlying34 Hi.out Hz0.out Hz1.out Hz2.out rfl (by decide) _ (grpTo j e k).length vs rfl Ga.out.own ⟨wr.heap.size, 0, none⟩ 1 1 [.slice la (memTo j e k j).length lc] rfl rfl ?f1 ?f2 ?f3 ?f4 ?f5 ?_)
              case f1 => exact cell_new1 _ _ _ _ rfl
              case f2 => intro u hu; simp at hu; subst hu; rfl
              case f3 => unfold maxLen; omega
              case f4 => omega
              case f5 => simp; omega
              intro v5 w5 hown5 hgrow5 _ hlies5
              have GN := Lib.hid (Ga.out.push HEa.out hown5 hgrow5 (hlies5.imp id (fun h => ⟨wr.heap.size + 1, by simp, h⟩)))
              clear hown5 hgrow5 hlies5
              rw [← Hg.out] at GN
              obtain ⟨ga', gc', e5⟩ : ∃ ga' gc', v5 = .slice ga' (grpTo j e (k + 1)).length gc' := by
                obtain ⟨a, c, h, -⟩ := SAt.own GN.out.own GN.out.len.symm
                rw [GN.out.len] at h
                exact ⟨a, c, h⟩
              subst e5
              go_wp2_with fail
              go_roundw
              case rel => exact ⟨k + 1, ga', gc', _, by omega, by congr 1, rfl, GN.out⟩
              case measure => simp [intOf]; omega
          case pos =>
            have jN : j < N := by omega
            obtain ⟨g, off, rfl, hg, p0⟩ := HX.out j _ (HRG.out k j kN jN)
            have p1 : wr.cell? ⟨g, off + j, none⟩ = some (.bool (reachB e k j)) := by rw [HI.out.below.cell (p := ⟨g, off + j, none⟩) hg]; exact p0
            have g1 : g < wr.heap.size := Nat.lt_of_lt_of_le hg HI.out.below.size
            clear p0
            obtain ⟨u, hu⟩ : ∃ u, reachB e k j = u := ⟨_, rfl⟩
            rw [hu] at p1
            have Hu := Lib.hid hu
            clear hu
            have BW := Lib.hid (chain G7.out.below HI.out.below)
            cases u with
            | false =>
              have Hmu : Hid (mutB e k j = false) := by show _ = _; unfold mutB; rw [Hu.out]; rfl
              have Hm1 : Hid (memTo N e k (j + 1) = memTo N e k j) := by show _ = _; rw [mem_next jN, Hmu.out]; simp
              have Hl1 : Hid (lstTo N e k (j + 1) = fs) := by show _ = _; rw [lst_next jN, Hmu.out, Hfs.out]; simp
              go_wp2_with fail
              go_roundw
              case rel => exact ⟨j + 1, la, lc, by omega, by congr 1, by rw [Hm1.out], by rw [Hl1.out], ⟨by rw [Hm1.out]; exact HI.out.own, HI.out.below⟩⟩
              case measure => simp [intOf]; omega
            | true =>
              go_wp2_with fail
              refine (HRE.out j wr jN BW.out).mono ?_
              rintro r w8 ⟨y, rfl, hy, b8⟩
              obtain ⟨ya, yc, rfl, ycap, HY⟩ := own_bools hy (HRL.out j jN)
              obtain ⟨h, off2, rfl, hh, q1⟩ := HY.out k _ (HRG.out j k jN kN)
              have I8 : Hid (GI N e k j w7 (.slice la (memTo N e k j).length lc) w8) := ⟨own_below HI.out.own b8, chain HI.out.below b8⟩
              clear hy b8 HI HY p1 g1 BW
              obtain ⟨t, ht⟩ : ∃ t, reachB e j k = t := ⟨_, rfl⟩
              rw [ht] at q1
              have Ht := Lib.hid ht
              clear ht
              cases t with
              | false =>
                have Hmu : Hid (mutB e k j = false) := by show _ = _; unfold mutB; rw [Ht.out, Bool.and_false]
                have Hm1 : Hid (memTo N e k (j + 1) = memTo N e k j) := by show _ = _; rw [mem_next jN, Hmu.out]; simp
                have Hl1 : Hid (lstTo N e k (j + 1) = fs) := by show _ = _; rw [lst_next jN, Hmu.out, Hfs.out]; simp
                go_wp2_with fail
                go_roundw
                case rel => exact ⟨j + 1, la, lc, by omega, by congr 1, by rw [Hm1.out], by rw [Hl1.out], ⟨by rw [Hm1.out]; exact I8.out.own, I8.out.below⟩⟩
                case measure => simp [intOf]; omega
              | true =>
                have Hmu : Hid (mutB e k j = true) := by show _ = _; unfold mutB; rw [Hu.out, Ht.out]; rfl
                have Hm1 : Hid (memTo N e k (j + 1) = memTo N e k j ++ [(j : Int)]) := by show _ = _; rw [mem_next jN, Hmu.out]; simp
                have Hl1 : Hid (lstTo N e k (j + 1) = (fs && decide ((k : Int) ≤ (j : Int)))) := by show _ = _; rw [lst_next jN, Hmu.out, Hfs.out]; simp
                have sz8 := I8.out.below.size
                go_wp2_with (at_builtin; refine wpList_append_own _ rfl (.tmp 42) (.tmp 44) 25 rfl w7.heap.size 3 rj (.int .i64 0) 1 8 Try.underlying25 Hj.out Hy0.out Hy1.out Hy2.out rfl (by decide) _ (memTo N e k j).length (ints (memTo N e k j)) rfl (I8.out.own.alloc _) ⟨w8.heap.size, 0, none⟩ 1 1 [.int .i64 (j : Int)] rfl rfl ?f1 ?f2 ?f3 ?f4 ?f5 ?_)
                case f1 => exact cell_new1 _ _ _ _ rfl
                case f2 => intro u hu; simp at hu; subst hu; rfl
                case f3 => unfold maxLen; omega
                case f4 => omega
                case f5 => simp; omega
                intro v5 w5 hown5 hgrow5 _
                have I5 : Hid (GI N e k (j + 1) w7 v5 w5) := ⟨by rw [Hm1.out]; simpa [ints] using hown5, (I8.out.below.alloc sz8 _).grown hgrow5 (by simp; omega) (fun k hk => (I8.out.own.lt k hk).1)⟩
                clear hown5 hgrow5
                obtain ⟨la', lc', e5⟩ : ∃ la' lc', v5 = .slice la' (memTo N e k (j + 1)).length lc' := by
                  obtain ⟨a, c, h, -⟩ := SAt.own I5.out.own (by simp)
                  rw [List.length_map] at h
                  exact ⟨a, c, h⟩
                subst e5
                cases fs with
                | false =>
                  go_wp2_with fail
                  go_roundw
                  case rel => exact ⟨j + 1, la', lc', by omega, by congr 1, rfl, by rw [Hl1.out, Bool.false_and], I5.out⟩
                  case measure => simp [intOf]; omega
                | true =>
                  rw [Bool.true_and] at Hl1
                  go_wp2_with fail
                  go_roundw
                  case rel => exact ⟨j + 1, la', lc', by omega, by congr 1, rfl, by rw [Hl1.out]; exact congrArg Value.bool (decide_eq_decide.2 (by omega)), I5.out⟩
                  case measure => simp [intOf]; omega

end Go.Proofs.Ytndcbhgdlaemaaa
