/-
  The program's Groups; all contracts.
-/
import Derived.Test.YtndcbhgdlaemaaaProJ
namespace Go.Proofs.Ytndcbhgdlaemaaa
open Go.RowKit Gr

/-- the groups so far -/
structure GG (B : Nat) (L : List (List Int)) (vo : Value) (W : World) (vs : List Value) : Prop where
  own : W.ownsRow B 25 1 vo L.length vs
  len : vs.length = L.length
  el : ∀ (i : Nat) (x : Value) (l : List Int), vs[i]? = some x → L[i]? = some l → SIn B W.heap.size W x (ints l)
  far : ∀ (i : Nat) (x : Value) (a : Addr) (n c : Nat), vs[i]? = some x → x = .slice (some a) n c → some a.block ≠ vo.ownBlock ∧ a.block < W.heap.size
theorem GG.keep {B lo hi : Nat} {L : List (List Int)} {vo : Value} {W W' : World} {vs : List Value} (h : GG B L vo W vs) (hk : Keep lo hi W W') (ho : hi ≤ B) : GG B L vo W' vs :=
  ⟨own_keep h.own hk ho, h.len, fun i x l hx hl => ((h.el i x l hx hl).keep hk (.inr ho)).mono (Nat.le_refl _) hk.size, fun i x a n c hx e => ⟨(h.far i x a n c hx e).1, Nat.lt_of_lt_of_le (h.far i x a n c hx e).2 hk.size⟩⟩
theorem SIn.grown {lo hi : Nat} {w w' : World} {x : Value} {l : List Value} {row : Option Nat} (h : SIn lo hi w x l) (hg : w.grownBy w' row) (hf : ∀ a n c, x = .slice (some a) n c → some a.block ≠ row) : SIn lo hi w' x l := by
  obtain ⟨a, cap, rfl, hcap, h⟩ := h
  refine ⟨a, cap, rfl, hcap, fun j t ht => ?_⟩
  obtain ⟨b, off, rfl, hr, hlt, h0⟩ := h j t ht
  exact ⟨b, off, rfl, hr, Nat.lt_of_lt_of_le hlt hg.size, hg.cell (a := ⟨b, off + j, none⟩) h0 (hf ⟨b, off, none⟩ _ _ rfl)⟩
theorem GG.push {B : Nat} {L : List (List Int)} {vo v' vl : Value} {W W' : World} {vs : List Value} {l : List Int} (h : GG B L vo W vs) (hl : SIn B W.heap.size W vl (ints l)) (hf : ∀ a n c, vl = .slice (some a) n c → some a.block ≠ vo.ownBlock ∧ a.block < W.heap.size)
    (hown : W'.ownsRow B 25 1 v' (L.length + 1) (vs ++ [vl])) (hg : W.grownBy W' vo.ownBlock) (hlies : v'.ownBlock = vo.ownBlock ∨ ∃ k, W.heap.size ≤ k ∧ v'.ownBlock = some k) : GG B (L ++ [l]) v' W' (vs ++ [vl]) := by
  have at' : ∀ (i : Nat) (x : Value), (vs ++ [vl])[i]? = some x → vs[i]? = some x ∨ (i = vs.length ∧ x = vl) := by
    intro i x hx
    by_cases c : i < vs.length
    · rw [List.getElem?_append_left c] at hx
      exact .inl hx
    · rw [List.getElem?_append_right (by omega)] at hx
      have e1 : i - vs.length = 0 := by
        have := (List.getElem?_eq_some_iff.1 hx).1
        simp at this
        omega
      rw [e1] at hx
      simp at hx
      exact .inr ⟨by omega, hx.symm⟩
  have all : ∀ (i : Nat) (x : Value) (a : Addr) (n c : Nat), (vs ++ [vl])[i]? = some x → x = .slice (some a) n c → some a.block ≠ vo.ownBlock ∧ a.block < W.heap.size := by
    intro i x a n c hx e
    rcases at' i x hx with k | ⟨-, rfl⟩
    · exact h.far i x a n c k e
    · exact hf a n c e
  refine ⟨by rw [List.length_append]; exact hown, by rw [List.length_append, List.length_append, h.len]; rfl, fun i x m hx hm => ?_, fun i x a n c hx e => ?_⟩
  · have key : SIn B W.heap.size W x (ints m) := by
      rcases at' i x hx with k | ⟨rfl, rfl⟩
      · have hi := (List.getElem?_eq_some_iff.1 k).1
        rw [List.getElem?_append_left (by rw [← h.len]; exact hi)] at hm
        exact h.el i x m k hm
      · rw [h.len, List.getElem?_append_right (Nat.le_refl _), Nat.sub_self] at hm
        simp at hm
        subst hm
        exact hl
    exact (key.grown hg (fun a n c e => (all i x a n c hx e).1)).mono (Nat.le_refl _) hg.size
  · obtain ⟨h1, h2⟩ := all i x a n c hx e
    refine ⟨?_, Nat.lt_of_lt_of_le h2 hg.size⟩
    rcases hlies with k | ⟨k, hk, k2⟩
    · rw [k]; exact h1
    · rw [k2]
      intro e2
      injection e2 with e2
      omega
theorem GG.lat {B : Nat} {L : List (List Int)} {vo : Value} {W : World} {vs : List Value} (h : GG B L vo W vs) : LAt W vo L :=
  ⟨vs, SAt.own h.own h.len.symm, h.len, fun i x l hx hl => (h.el i x l hx hl).at_⟩
theorem mem_least {N : Nat} {e : E} {k : Nat} (hk : k < N) (hl : leastB N e k = true) : memTo N e k k = [] := by
  unfold memTo
  rw [List.filter_eq_nil_iff]
  intro a ha hm
  obtain ⟨j, hj⟩ := List.getElem?_of_mem ha
  have hjl := (List.getElem?_eq_some_iff.1 hj).1
  rw [List.length_take] at hjl
  rw [List.getElem?_take_of_lt (by omega), nodes_get (by simp; omega)] at hj
  simp only [Option.some.injEq] at hj
  subst hj
  have := least_iff.1 hl (j : Int) (by omega) (by omega) hm
  omega
theorem Keep.above {lo hi : Nat} {a b c : World} (h : Keep lo hi a b) (k : Below a.heap.size b c) : Keep lo hi a c :=
  ⟨k.os.trans h.os, k.tape.trans h.tape, k.output.trans h.output, Nat.le_trans h.size k.size, fun i hi ho => (k.block i hi).trans (h.block i hi ho)⟩
/-- the two searches, the marks, the groups -/
structure GS (e : E) (N k : Nat) (b1 b2 b3 b4 b5 b6 gp gs gq hp hs hq : Nat) (n1 n2 : Value) (w : World) (vo : Value) (W : World) (vs : List Value) : Prop where
  row : Row W b5 (bls N (gb e k))
  fwd : ∃ f q, Sr b2 b3 gp gs gq N n1 W f q
  back : ∃ f q, Sr b4 b5 hp hs hq N n2 W f q
  lin1 : LIn b1 b2 W n1 ((nodes N).map (adj (fl false e)))
  lin2 : LIn b3 b4 W n2 ((nodes N).map (adj (fl true e)))
  gg : GG b6 (grpTo N e k) vo W vs
  below : Below w.heap.size w W
  sz : b6 ≤ W.heap.size
def GRel (e : E) (N : Nat) (b1 b2 b3 b4 b5 b6 gp gs gq hp hs hq : Nat) (n1 n2 : Value) (w : World) (vo i : Value) (wr : World) : Prop := ∃ (k : Nat) (vs : List Value), i = .int .i64 (k : Int) ∧ k ≤ N ∧ GS e N k b1 b2 b3 b4 b5 b6 gp gs gq hp hs hq n1 n2 w vo wr vs
/-- one group under way -/
structure GI2 (e : E) (N k j b5 b6 : Nat) (w2 : World) (vl : Value) (wr : World) : Prop where
  row : Row wr b5 (bls N (gq e k j))
  own : wr.ownsRow w2.heap.size 3 1 vl (memTo N e k j).length (ints (memTo N e k j))
  keep : Keep b5 b6 w2 wr
def IRel2 (e : E) (N k b5 b6 : Nat) (w2 : World) (vl i : Value) (wr : World) : Prop := ∃ (j : Nat) (la : Option Addr) (lc : Nat), i = .int .i64 (j : Int) ∧ k ≤ j ∧ j ≤ N ∧ vl = .slice la (memTo N e k j).length lc ∧ GI2 e N k j b5 b6 w2 (.slice la (memTo N e k j).length lc) wr

set_option maxHeartbeats 12800000 in
set_option maxRecDepth 100000 in
theorem groups_x (v : Value) (n : Int) (e : E) (w : World) (hat : EAt w v e) (hl : e.length ≤ 1099511627776) :
    Calls Try.prog 20 #[.int .i64 n, v] w fun r w' => ∃ x, r = .returned x ∧ LAt w' x (groups n e) ∧ Below w.heap.size w w' := by
  have HAT := Lib.hid hat
  obtain ⟨ad, cap, rfl, -, -⟩ := id hat
  have HR := Lib.hid (isRight_x _ n e w hat (by omega))
  obtain ⟨rb, hrb⟩ : ∃ rb, rightB n e = rb := ⟨_, rfl⟩
  have RB := Lib.hid hrb
  cases rb with
  | false =>
    have hv := Lib.hid (groups_wrong hrb)
    clear hrb hat
    rw [hv.out]
    go_enter Try.func20, Try.ntmps20
    go_wp2_with fail
    refine HR.out.mono ?_
    rintro r w1 ⟨rfl, b1⟩
    rw [RB.out]
    have B1 := Lib.hid b1
    clear b1
    go_wp2_with fail
    go_ret
    exact ⟨_, rfl, ⟨[], SAt.nil _, rfl, fun i x l h => by simp at h⟩, B1.out⟩
  | true =>
    obtain ⟨⟨n0, n300⟩, hel, hn⟩ := right_iff.1 hrb
    obtain ⟨N, rfl⟩ := Int.eq_ofNat_of_zero_le n0
    have N300 : N ≤ 300 := by omega
    have HN := Lib.hid hn
    obtain ⟨ri, hi, hz0, hz1, hz2⟩ := info_parts infoB
    have Hi := Lib.hid hi
    have Hz0 := Lib.hid hz0
    have Hz1 := Lib.hid hz1
    have Hz2 := Lib.hid hz2
    obtain ⟨rj, hj, hy0, hy1, hy2⟩ := info_parts infoI
    have Hj := Lib.hid hj
    have Hy0 := Lib.hid hy0
    have Hy1 := Lib.hid hy1
    have Hy2 := Lib.hid hy2
    obtain ⟨rl, hj, hy0, hy1, hy2⟩ := info_parts infoL
    have HjL := Lib.hid hj
    have Hy0L := Lib.hid hy0
    have Hy1L := Lib.hid hy1
    have Hy2L := Lib.hid hy2
    clear hrb hat hn hi hz0 hz1 hz2 hj hy0 hy1 hy2
    clear hj hy0 hy1 hy2
    go_enter Try.func20, Try.ntmps20
    go_wp2_with fail
    refine HR.out.mono ?_
    rintro r w1 ⟨rfl, b1⟩
    rw [RB.out]
    have B1 := Lib.hid b1
    clear b1
    go_wp2_with fail
    refine (ahead_x _ N e w1 (HAT.out.below B1.out (Nat.le_refl _)) hel N300 HN.out).mono ?_
    rintro r w2 ⟨na, nc, rfl, h2, b2⟩
    have L2 := Lib.hid h2
    have B2 := Lib.hid (chain B1.out b2)
    clear h2 b2
    go_wp2_with fail
    refine (newSearch_x na N nc w2 N300).mono ?_
    rintro r w3 ⟨gp, gs, gq, rfl, h3, b3⟩
    have L3 := Lib.hid (L2.out.below b3)
    have S3 := Lib.hid h3
    have B3 := Lib.hid (chain B2.out b3)
    have Z23 : Hid (w2.heap.size ≤ w3.heap.size) := b3.size
    clear h3 b3 L2
    go_wp2_with fail
    refine (behind_x _ N e w3 (HAT.out.below B3.out (Nat.le_refl _)) hel N300 HN.out).mono ?_
    rintro r w4 ⟨ma, mc, rfl, h4, b4⟩
    have L4 := Lib.hid (L3.out.below b4)
    have S4 := Lib.hid (S3.out.below b4)
    have M4 := Lib.hid h4
    have B4 := Lib.hid (chain B3.out b4)
    have Z34 : Hid (w3.heap.size ≤ w4.heap.size) := b4.size
    clear h4 b4 L3 S3
    go_wp2_with fail
    refine (newSearch_x ma N mc w4 N300).mono ?_
    rintro r w5 ⟨hp, hs, hq, rfl, h5, b5⟩
    have L5 := Lib.hid (L4.out.below b5)
    have S5 := Lib.hid (S4.out.below b5)
    have M5 := Lib.hid (M4.out.below b5)
    have T5 := Lib.hid h5
    have B5 := Lib.hid (chain B4.out b5)
    have Z45 : Hid (w4.heap.size ≤ w5.heap.size) := b5.size
    clear h5 b5 L4 S4 M4
    go_wp2_with (at_make; refine wpList_make_full _ rfl (.tmp 24) (.tmp 24) 30 rfl w5.heap.size 4 ri (.bool false) 1 Try.underlying30 Hi.out Hz0.out Hz1.out .i64 .i64 (N : Int) (N : Int) N rfl rfl rfl rfl ?f1 ?f2 ?f3 ?_)
    case f1 => rw [Hz2.out]; omega
    case f2 => unfold maxLen; omega
    case f3 => exact Nat.le_refl _
    intro w6 hown6 hgrow6
    have Z56 : Hid (w5.heap.size < w6.heap.size) := (hown6.lt _ rfl).2
    have G6 : Hid (GS e N 0 w1.heap.size w2.heap.size w3.heap.size w4.heap.size w5.heap.size w6.heap.size gp gs gq hp hs hq (.slice na N nc) (.slice ma N mc) w (.slice none 0 0) w6 []) := by
      have b6 := grown_below hgrow6
      rw [made_bls] at hown6
      refine ⟨?_, ⟨_, _, S5.out.below b6⟩, ⟨_, _, T5.out.below b6⟩, L5.out.below b6, M5.out.below b6, ⟨World.ownsRow_nil _ _ _ _, rfl, fun i x l hx => by simp at hx, fun i x a n c hx => by simp at hx⟩, chain B5.out b6, Nat.le_refl _⟩
      exact Row.own hown6 (bls_len _ _).symm
    clear hown6 hgrow6 L5 S5 M5 T5
    go_wp2_with fail
    go_loopw [8, 27] (fun vo i wr => GRel e N w1.heap.size w2.heap.size w3.heap.size w4.heap.size w5.heap.size w6.heap.size gp gs gq hp hs hq (.slice na N nc) (.slice ma N mc) w vo i wr) (fun _ i _ => N - (intOf i).toNat)
    case atStart => exact ⟨0, [], rfl, Nat.zero_le _, G6.out⟩
    case round =>
      clear G6
      obtain ⟨k, vs, rfl, hk, hG⟩ := hrel
      have HG := Lib.hid hG
      have k0 : (0 : Int) ≤ (k : Int) := by omega
      obtain ⟨ga, gc, e8, -, -⟩ := SAt.own hG.gg.own hG.gg.len.symm
      rw [hG.gg.len] at e8
      subst e8
      have glen : (grpTo N e k).length ≤ 300 := Nat.le_trans grp_len (by omega)
      clear hG
      by_cases c : k < N
      case neg =>
        have c0 : ¬ (k : Int) < (N : Int) := by omega
        obtain rfl : k = N := by omega
        go_wp2_with fail
        go_ret
        refine ⟨_, rfl, ?_, HG.out.below⟩
        have h := HG.out.gg.lat
        rw [grp_all RB.out] at h ⊢
        exact h
      case pos =>
        have c0 : (k : Int) < (N : Int) := by omega
        have r1 := HG.out.row.c k _ (bls_get c)
        have l1 := HG.out.row.lt
        obtain ⟨b, hb⟩ : ∃ b, gb e k (k : Int) = b := ⟨_, rfl⟩
        rw [hb] at r1
        have HB := Lib.hid hb
        clear hb
        cases b with
        | true =>
          have hls : leastB N e (k : Int) = false := by have h := gb_least (e := e) c; rw [HB.out] at h; cases hq2 : leastB N e (k : Int) with | false => rfl | true => rw [hq2] at h; cases h
          have Hg : Hid (grpTo N e (k + 1) = grpTo N e k) := by show _ = _; rw [grp_next c, hls]; simp
          have G7 : Hid (GS e N (k + 1) w1.heap.size w2.heap.size w3.heap.size w4.heap.size w5.heap.size w6.heap.size gp gs gq hp hs hq (.slice na N nc) (.slice ma N mc) w (.slice ga (grpTo N e k).length gc) wr vs) := by
            refine ⟨?_, HG.out.fwd, HG.out.back, HG.out.lin1, HG.out.lin2, by rw [Hg.out]; exact HG.out.gg, HG.out.below, HG.out.sz⟩
            rw [bls_congr (fun j _ => gb_skip HB.out j)]
            exact HG.out.row
          clear hls
          go_wp2_with fail
          go_roundw
          case rel => exact ⟨k + 1, vs, by congr 1, by omega, G7.out⟩
          case measure => simp [intOf]; omega
        | false =>
          have HL : Hid (leastB N e (k : Int) = true) := by show _ = _; have h := gb_least (e := e) c; rw [HB.out] at h; cases hq2 : leastB N e (k : Int) with | true => rfl | false => rw [hq2] at h; cases h
          obtain ⟨f0, q0, hS0⟩ := HG.out.fwd
          have HF := Lib.hid (from_x hS0 HG.out.lin1 (.inl (Nat.le_refl _)) (fl_node HN.out) N300 (by rw [fl_len]; exact hel) c)
          clear hS0
          go_wp2_with fail
          refine HF.out.mono ?_
          rintro r w7 ⟨rfl, f1, q1, h7, d7, k7⟩
          have S7 := Lib.hid h7
          have D7 := Lib.hid d7
          have K7 := Lib.hid k7
          clear h7 d7 k7 HF
          obtain ⟨f00, q00, hS00⟩ := HG.out.back
          have HF := Lib.hid (from_x (hS00.keep K7.out (.inr Z34.out)) (HG.out.lin2.keep K7.out (.inr (Nat.le_refl _))) (.inl (Nat.le_refl _)) (fl_node HN.out) N300 (by rw [fl_len]; exact hel) c)
          clear hS00
          go_wp2_with fail
          refine HF.out.mono ?_
          rintro r w8 ⟨rfl, f2, q2, h8, d8, k8⟩
          have T8 := Lib.hid h8
          have D8 := Lib.hid d8
          have S8 := Lib.hid (S7.out.keep k8 (.inl Z34.out))
          have KK : Hid (Keep w2.heap.size w6.heap.size wr w8) := (K7.out.mono (Nat.le_refl _) (by have := Z34.out; have := Z45.out; have := Z56.out; omega)).trans (k8.mono (by have := Z23.out; have := Z34.out; omega) (by have := Z56.out; omega))
          have G8 := Lib.hid (HG.out.gg.keep KK.out (Nat.le_refl _))
          have R8 := Lib.hid ((HG.out.row.keep K7.out (.inr (by have := Z34.out; have := Z45.out; omega))).keep k8 (.inr (Nat.le_refl _)))
          have N8 := Lib.hid ((HG.out.lin1.keep K7.out (.inl (Nat.le_refl _))).keep k8 (.inl (by have := Z23.out; have := Z34.out; omega)))
          have M8 := Lib.hid ((HG.out.lin2.keep K7.out (.inr (Nat.le_refl _))).keep k8 (.inl (Nat.le_refl _)))
          have B8 : Hid (Below w.heap.size w w8) := HG.out.below.trans (KK.out.below B2.out.size HG.out.below.size)
          have Z68 : Hid (w6.heap.size ≤ w8.heap.size) := Nat.le_trans HG.out.sz KK.out.size
          have I8 : Hid (GI2 e N k k w5.heap.size w6.heap.size w8 (.slice none 0 0) w8) := by
            refine ⟨?_, ?_, Keep.refl _ _ _⟩
            · rw [bls_congr (fun j _ => gq_start e k j)]
              exact R8.out
            · rw [mem_least c HL.out]
              exact World.ownsRow_nil _ _ _ _
          clear h8 d8 k8 HF HG S7 K7 r1 l1
          go_wp2_with fail
          go_loopw [10, 11] (fun vl i wr => IRel2 e N k w5.heap.size w6.heap.size w8 vl i wr) (fun _ i _ => N - (intOf i).toNat)
          case atStart => exact ⟨k, none, 0, rfl, Nat.le_refl _, hk, by rw [mem_least c HL.out]; rfl, by rw [mem_least c HL.out]; exact I8.out⟩
          case round =>
            clear I8
            obtain ⟨j, la, lc, rfl, hkj, hjN, rfl, hI⟩ := hrel
            have HI := Lib.hid hI
            have j0 : (0 : Int) ≤ (j : Int) := by omega
            have mlen : (memTo N e k j).length ≤ 300 := Nat.le_trans mem_len (by omega)
            clear hI
            by_cases d : j < N
            case pos =>
              have d0 : (j : Int) < (N : Int) := by omega
              have SJ := Lib.hid (S8.out.keep HI.out.keep (.inl (by have := Z34.out; have := Z45.out; omega)))
              have TJ := Lib.hid (T8.out.keep HI.out.keep (.inl (Nat.le_refl _)))
              obtain ⟨u, hu⟩ : ∃ u, decide (0 < f1 (j : Int)) = u := ⟨_, rfl⟩
              obtain ⟨t, ht⟩ : ∃ t, decide (0 < f2 (j : Int)) = t := ⟨_, rfl⟩
              have HM : Hid (mutB e (k : Int) (j : Int) = (u && t)) := by
                show _ = _
                rw [← hu, ← ht, Bool.eq_iff_iff, mut_iff, Bool.and_eq_true, decide_eq_true_iff, decide_eq_true_iff, D7.out.reach, D8.out.reach, reach_turn]
                rfl
              have HU := Lib.hid hu
              have HT := Lib.hid ht
              clear hu ht
              go_wp2_with fail
              refine (reached_x SJ.out d).mono ?_
              rintro r w9 ⟨rfl, rfl⟩
              rw [HU.out]
              have same : Hid (mutB e (k : Int) (j : Int) = false → GI2 e N k (j + 1) w5.heap.size w6.heap.size w8 (.slice la (memTo N e k j).length lc) wr ∧ memTo N e k (j + 1) = memTo N e k j) := fun hm => by
                have h1 : memTo N e k (j + 1) = memTo N e k j := by rw [mem_next d, hm]; simp
                refine ⟨⟨?_, by rw [h1]; exact HI.out.own, HI.out.keep⟩, h1⟩
                rw [bls_congr (g' := Gr.gq e k j) (fun i _ => by rw [gq_next hkj, if_neg (fun h => by rw [hm] at h; exact Bool.false_ne_true h.2)])]
                exact HI.out.row
              cases u with
              | false =>
                obtain ⟨s1, s2⟩ := same.out HM.out
                have SS := Lib.hid s1
                have HS2 := Lib.hid s2
                clear s1 s2 same
                go_wp2_with fail
                go_roundw
                case rel => exact ⟨j + 1, la, lc, by congr 1, by omega, by omega, by rw [HS2.out], by rw [HS2.out]; exact SS.out⟩
                case measure => simp [intOf]; omega
              | true =>
                rw [Bool.true_and] at HM
                go_wp2_with fail
                refine (reached_x TJ.out d).mono ?_
                rintro r w9 ⟨rfl, rfl⟩
                rw [HT.out]
                cases t with
                | false =>
                  obtain ⟨s1, s2⟩ := same.out HM.out
                  have SS := Lib.hid s1
                  have HS2 := Lib.hid s2
                  clear s1 s2 same
                  go_wp2_with fail
                  go_roundw
                  case rel => exact ⟨j + 1, la, lc, by congr 1, by omega, by omega, by rw [HS2.out], by rw [HS2.out]; exact SS.out⟩
                  case measure => simp [intOf]; omega
                | true =>
                  have hm1 : Hid (memTo N e k (j + 1) = memTo N e k j ++ [(j : Int)]) := by show _ = _; rw [mem_next d, HM.out]; simp
                  clear same
                  have sz8 := HI.out.keep.size
                  go_wp2_with (at_builtin; refine wpList_append_own _ rfl (.tmp 54) (.tmp 56) 25 rfl w8.heap.size 3 rj (.int .i64 0) 1 8 Try.underlying25 Hj.out Hy0.out Hy1.out Hy2.out rfl (by decide) _ (memTo N e k j).length (ints (memTo N e k j)) rfl (HI.out.own.alloc _) ⟨wr.heap.size, 0, none⟩ 1 1 [.int .i64 (j : Int)] rfl rfl ?f1 ?f2 ?f3 ?f4 ?f5 ?_)
                  case f1 => exact cell_new1 _ _ _ _ rfl
                  case f2 => intro u hu; simp at hu; subst hu; rfl
                  case f3 => unfold maxLen; omega
                  case f4 => omega
                  case f5 => simp; omega
                  intro v9 w9 hown9 hgrow9 _
                  obtain ⟨la', lc', e9, -, -⟩ := SAt.own hown9 (by simp)
                  rw [List.length_append, List.length_map, List.length_singleton] at e9
                  subst e9
                  have hB9 : Below w8.heap.size wr w9 := ((Below.refl w8.heap.size wr).alloc sz8 _).grown hgrow9 (by simp; omega) (fun k hk => (HI.out.own.lt k hk).1)
                  have hR : Row w9 w5.heap.size (bls N (Gr.gq e k j)) := HI.out.row.below hB9 (by have := Z56.out; have := Z68.out; omega)
                  have I9 : Hid (GI2 e N k (j + 1) w5.heap.size w6.heap.size w8 (.slice la' ((memTo N e k j).length + 1) lc') (w9.setCell ⟨w5.heap.size, j, none⟩ (.bool true))) := by
                    have hks : Keep w5.heap.size w6.heap.size w9 (w9.setCell ⟨w5.heap.size, j, none⟩ (.bool true)) := Keep.set _ _ _ (Nat.le_refl _) Z56.out
                    refine ⟨?_, ?_, (HI.out.keep.above hB9).trans hks⟩
                    · have h := hR.set j (.bool true) (by rw [bls_len]; exact d)
                      rw [bls_set N _ (Gr.gq e k (j + 1)) j true ?_ ?_] at h
                      · exact h
                      · rw [gq_next hkj, if_pos ⟨rfl, HM.out⟩]
                      · intro i hij _
                        rw [gq_next hkj, if_neg (fun h => hij (by omega))]
                    · rw [hm1.out, List.length_append, ints, List.map_append]
                      exact own_keep hown9 hks Z68.out
                  have r5 := hR.c j _ (bls_get d)
                  have r6 := hR.fz j (by rw [bls_len]; exact d)
                  have r7 := hR.lt
                  clear hown9 hgrow9 hB9 hR
                  go_wp2_with fail
                  go_roundw
                  case rel => exact ⟨j + 1, la', lc', by congr 1, by omega, by omega, by rw [hm1.out, List.length_append]; rfl, by rw [hm1.out, List.length_append]; exact I9.out⟩
                  case measure => simp [intOf]; omega
            case neg =>
              have d0 : ¬ (j : Int) < (N : Int) := by omega
              obtain rfl : j = N := by omega
              have Hg : Hid (grpTo j e (k + 1) = grpTo j e k ++ [memTo j e k j]) := by show _ = _; rw [grp_next c, HL.out, if_pos rfl, mem_all]
              have GA := Lib.hid (G8.out.keep (HI.out.keep.trans (Keep.of (Below.new1 (.cells #[.slice la (memTo j e k j).length lc] 25)) _ _)) (Nat.le_refl _))
              have BK : Hid (∀ b, (Value.slice ga (grpTo j e k).length gc).ownBlock = some b → w6.heap.size ≤ b ∧ b < w8.heap.size) := G8.out.own.lt
              have sz8 := HI.out.keep.size
              have HLV : Hid (SIn w6.heap.size (wr.alloc (.cells #[.slice la (memTo j e k j).length lc] 25)).heap.size (wr.alloc (.cells #[.slice la (memTo j e k j).length lc] 25)) (.slice la (memTo j e k j).length lc) (ints (memTo j e k j))) :=
                (SIn.own (HI.out.own.alloc _) (by simp) (Nat.le_refl _)).mono Z68.out (Nat.le_refl _)
              have HLF : Hid (∀ a n c, Value.slice la (memTo j e k j).length lc = .slice (some a) n c → some a.block ≠ (Value.slice ga (grpTo j e k).length gc).ownBlock ∧ a.block < (wr.alloc (.cells #[.slice la (memTo j e k j).length lc] 25)).heap.size) := fun a n c e1 => by
                injection e1 with e1
                have h1 := HI.out.own.lt a.block (by rw [e1]; rfl)
                refine ⟨fun e2 => ?_, by simp; omega⟩
                have := (BK.out a.block e2.symm).2
                omega
              have KW : Hid (Keep w5.heap.size w6.heap.size w8 (wr.alloc (.cells #[.slice la (memTo j e k j).length lc] 25))) := HI.out.keep.trans (Keep.of (Below.new1 _) _ _)
              have RW : Hid (Row (wr.alloc (.cells #[.slice la (memTo j e k j).length lc] 25)) w5.heap.size (bls j (gb e (k + 1)))) := by
                have h := HI.out.row.next (Below.new1 (.cells #[.slice la (memTo j e k j).length lc] 25))
                rw [bls_congr (g' := gb e (k + 1)) (fun i hi => gq_all c HL.out ⟨by omega, by omega⟩)] at h
                exact h
              go_wp2_with (at_builtin; refine wpList_append_own_at _ rfl (.tmp 61) (.tmp 63) 34 rfl w6.heap.size 25 rl (.slice none 0 0) 1 24 Try.underlying34 HjL.out Hy0L.out Hy1L.out Hy2L.out rfl (by decide) _ (grpTo j e k).length vs rfl GA.out.own ⟨wr.heap.size, 0, none⟩ 1 1 [.slice la (memTo j e k j).length lc] rfl rfl ?f1 ?f2 ?f3 ?f4 ?f5 ?_)
              case f2 => first | rfl | (intro u hu; simp at hu; subst hu; rfl)
              case f3 => unfold maxLen; omega
              case f4 => omega
              case f5 => have := Z68.out; simp; omega
              intro v9 w9 hown9 hgrow9 _ hlies9
              obtain ⟨ga', gc', e9, -, -⟩ := SAt.own hown9 (by rw [List.length_append, G8.out.len]; rfl)
              rw [List.length_append, G8.out.len, List.length_singleton] at e9
              subst e9
              have KG : Hid (Keep w6.heap.size w8.heap.size (wr.alloc (.cells #[.slice la (memTo j e k j).length lc] 25)) w9) := Keep.grown hgrow9 BK.out
              have G9 : Hid (GS e j (k + 1) w1.heap.size w2.heap.size w3.heap.size w4.heap.size w5.heap.size w6.heap.size gp gs gq hp hs hq (.slice na j nc) (.slice ma j mc) w (.slice ga' ((grpTo j e k).length + 1) gc') w9 (vs ++ [.slice la (memTo j e k j).length lc])) := by
                have z1 := Z23.out
                have z2 := Z34.out
                have z3 := Z45.out
                have z4 := Z56.out
                refine ⟨RW.out.keep KG.out (.inl z4), ⟨_, _, (S8.out.keep KW.out (.inl (by omega))).keep KG.out (.inl (by omega))⟩, ⟨_, _, (T8.out.keep KW.out (.inl (Nat.le_refl _))).keep KG.out (.inl (by omega))⟩, (N8.out.keep KW.out (.inl (by omega))).keep KG.out (.inl (by omega)), (M8.out.keep KW.out (.inl (by omega))).keep KG.out (.inl (by omega)), ?_, ?_, ?_⟩
                · rw [Hg.out]
                  exact GA.out.push HLV.out HLF.out hown9 hgrow9 (hlies9.imp id (fun h => ⟨wr.heap.size + 1, by simp, h⟩))
                · have b1 := B5.out.size
                  have b2 := B8.out.size
                  have b3 := KW.out.size
                  exact (B8.out.trans (KW.out.below b1 b2)).trans (KG.out.below (by omega) (by omega))
                · have b2 := Z68.out
                  have b3 := KW.out.size
                  have b4 := KG.out.size
                  omega
              clear hown9 hgrow9 hlies9 GA HLV HLF RW KW KG HI
              go_wp2_with fail
              go_roundw
              case rel => exact ⟨k + 1, _, by congr 1, by omega, G9.out⟩
              case measure => simp [intOf]; omega

/-- ALL CONTRACTS. -/
theorem graphOk : GraphOk where
  reach := fun v n e a w hat hl _ _ _ => reach_x v n e a w hat hl
  order := fun v n e w hat hl _ _ => order_x v n e w hat hl
  cycle := fun v n e w hat hl _ _ => cycle_x v n e w hat hl
  groups := fun v n e w hat hl _ _ => groups_x v n e w hat hl

end Go.Proofs.Ytndcbhgdlaemaaa
