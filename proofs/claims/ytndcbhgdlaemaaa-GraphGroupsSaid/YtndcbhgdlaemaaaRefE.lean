/-
  The reference's closing and Cycle.
-/
import Derived.Test.YtndcbhgdlaemaaaRefD
namespace Go.Proofs.Ytndcbhgdlaemaaa
open Go.RowKit Gr

theorem firstNe_first {α : Type} {f : α → List Int} {R : α → α → Prop} {l : List α} (hp : l.Pairwise R) {b : α} (hb : b ∈ l) (h : ∀ x ∈ l, R x b → f x = []) (hf : f b ≠ []) : firstNe f l = f b := by
  have hne : firstNe f l ≠ [] := fun h0 => hf (firstNe_nil.1 h0 b hb)
  obtain ⟨c, s, t, rfl, hs, hc⟩ := firstNe_some hne
  rcases List.mem_append.1 hb with k | k
  · exact absurd (hs b k) hf
  · rcases List.mem_cons.1 k with rfl | k
    · exact hc
    · rw [List.pairwise_append, List.pairwise_cons] at hp
      have := h c (by simp) (hp.2.1.1 b k)
      rw [hc] at hne
      exact absurd this hne
/-- the search from one node on -/
def closF (n : Int) (e : E) (m : Nat) (l : List Int) (b : Int) : List Int := if edgeB e (lastOf l) b then clos n e m (l ++ [b]) else []
theorem clos_succ (n : Int) (e : E) (m : Nat) (l : List Int) : clos n e (m + 1) l = firstNe (closF n e m l) (after (nx l 0) n) := rfl
theorem clos_zero (n : Int) (e : E) (l : List Int) : clos n e 0 l = if edgeB e (lastOf l) (nx l 0) then l else [] := rfl
theorem add_plain (g o j : Nat) : (⟨g, o, none⟩ : Addr).add j = ⟨g, o + j, none⟩ := by unfold Addr.add; split <;> simp_all
theorem own_none (W : World) (T : TypeId) (base n : Nat) (hn : n = W.heap.size) (hb : base ≤ n) : (W.alloc (.cells #[] T)).ownsRow base T 1 (.slice (some ⟨n, 0, none⟩) 0 0) 0 [] := by
  subst hn
  exact World.ownsRow_lit W #[] 0 hb (by decide) rfl
theorem ints_one (l : List Int) : ∀ u ∈ ints l, u.oneCell' = true := by
  intro u hu
  obtain ⟨x, -, rfl⟩ := List.mem_map.1 hu
  rfl
theorem last_get {l : List Int} {q : Nat} (h : l.length = q + 1) : l[q]? = some (lastOf l) ∧ l[0]? = some (nx l 0) := by
  have h0 : l ≠ [] := fun e => by rw [e] at h; simp at h
  constructor
  · unfold lastOf
    rw [List.getLast?_eq_getElem?, h, Nat.add_sub_cancel, List.getElem?_eq_getElem (by omega)]
    rfl
  · cases l with
    | nil => exact absurd rfl h0
    | cons a t => rfl
def ClRel (n : Int) (e : E) (m : Nat) (l : List Int) (w : World) (b : Value) (wr : World) : Prop := ∃ c : Int, nx l 0 + 1 ≤ c ∧ (c ≤ n ∨ c = nx l 0 + 1) ∧ b = .int .i64 c ∧ (∀ x, nx l 0 < x → x < c → closF n e m l x = []) ∧ Below w.heap.size w wr

set_option maxHeartbeats 6400000 in
theorem closing_x (n : Int) (e : E) (hn : 0 ≤ n ∧ n ≤ 300) (hl : e.length ≤ 1152921504606846976) : ∀ (m : Nat) (l : List Int) (v x : Value) (w : World), EAt w v e → SAt w x (ints l) → l ≠ [] → l.length + m ≤ 1000 → 0 ≤ nx l 0 ∧ nx l 0 < n →
    Calls Try.prog 35 #[.int .i64 n, v, x, .int .i64 (m : Int)] w fun r w' => ∃ y, r = .returned y ∧ SAt w' y (ints (clos n e m l)) ∧ Below w.heap.size w w' := by
  obtain ⟨n0, n300⟩ := hn
  intro m
  induction m with
  | zero =>
    intro l v x w hat hx hne hlen hh
    have HX := Lib.hid hx
    obtain ⟨ad, cap, rfl, -, hc⟩ := hx
    rw [List.length_map] at HX ⊢
    obtain ⟨q, hq⟩ : ∃ q, l.length = q + 1 := ⟨l.length - 1, by have := List.length_pos_iff.2 hne; omega⟩
    obtain ⟨g1, g0⟩ := last_get hq
    obtain ⟨b, off, rfl, hb, p0⟩ := hc 0 (.int .i64 (nx l 0)) (by rw [List.getElem?_map, g0]; rfl)
    obtain ⟨b', off', e', -, p1⟩ := hc q (.int .i64 (lastOf l)) (by rw [List.getElem?_map, g1]; rfl)
    simp only [Option.some.injEq, Addr.mk.injEq, and_true] at e'
    obtain ⟨rfl, rfl⟩ := e'
    rw [hq] at HX ⊢
    rw [Nat.add_zero] at p0
    have q1 : ((q + 1 : Nat) : Int) - 1 = (q : Int) := by omega
    have q0 : (0 : Int) ≤ (q : Int) := by omega
    have qb : (q : Int) ≤ 1000 := by omega
    have Hq := Lib.hid hq
    have He := Lib.hid (fun (a b : Int) => Edge_x v a b e w hat hl)
    obtain ⟨eb, heb⟩ : ∃ eb, edgeB e (lastOf l) (nx l 0) = eb := ⟨_, rfl⟩
    have Heb := Lib.hid heb
    have hcl : clos n e 0 l = cond eb l [] := by rw [clos_zero, heb]; cases eb <;> rfl
    have Hcl := Lib.hid hcl
    clear hc hq g1 g0 heb hcl hne
    cases eb with
    | true =>
      go_enter Try.func35, Try.ntmps35
      go_wp2_with fail
      refine (He.out _ _).mono ?_
      rintro r w1 ⟨rfl, rfl⟩
      rw [Heb.out]
      go_wp2_with fail
      go_ret
      exact ⟨_, rfl, by rw [Hcl.out]; exact HX.out, Below.refl _ _⟩
    | false =>
      go_enter Try.func35, Try.ntmps35
      go_wp2_with fail
      refine (He.out _ _).mono ?_
      rintro r w1 ⟨rfl, rfl⟩
      rw [Heb.out]
      go_wp2_with fail
      go_ret
      exact ⟨_, rfl, by rw [Hcl.out]; exact SAt.nil _, Below.refl _ _⟩
  | succ m ih =>
    have IH := Lib.hid ih
    clear ih
    intro l v x w hat hx hne hlen hh
    have HAT := Lib.hid hat
    have HX := Lib.hid hx
    obtain ⟨ad, cap, rfl, -, hc⟩ := hx
    rw [List.length_map] at HX ⊢
    obtain ⟨q, hq⟩ : ∃ q, l.length = q + 1 := ⟨l.length - 1, by have := List.length_pos_iff.2 hne; omega⟩
    obtain ⟨g1, g0⟩ := last_get hq
    obtain ⟨b, off, rfl, hb, p0⟩ := hc 0 (.int .i64 (nx l 0)) (by rw [List.getElem?_map, g0]; rfl)
    obtain ⟨b', off', e', -, p1⟩ := hc q (.int .i64 (lastOf l)) (by rw [List.getElem?_map, g1]; rfl)
    simp only [Option.some.injEq, Addr.mk.injEq, and_true] at e'
    obtain ⟨rfl, rfl⟩ := e'
    rw [hq] at HX ⊢
    rw [Nat.add_zero] at p0
    have q1 : ((q + 1 : Nat) : Int) - 1 = (q : Int) := by omega
    have q0 : (0 : Int) ≤ (q : Int) := by omega
    have qb : (q : Int) ≤ 1000 := by omega
    have Hq := Lib.hid hq
    have Hc : Hid (∀ (j : Nat) (u : Value), (ints l)[j]? = some u → b < w.heap.size ∧ w.cell? ⟨b, off + j, none⟩ = some u) := fun j u hu => by
      obtain ⟨b', off', e', h1, h2⟩ := hc j u hu
      simp only [Option.some.injEq, Addr.mk.injEq, and_true] at e'
      obtain ⟨rfl, rfl⟩ := e'
      exact ⟨h1, h2⟩
    obtain ⟨a, ha⟩ : ∃ a, nx l 0 = a := ⟨_, rfl⟩
    obtain ⟨z, hz⟩ : ∃ z, lastOf l = z := ⟨_, rfl⟩
    have Ha := Lib.hid ha
    have Hz := Lib.hid hz
    rw [ha] at p0 hh
    rw [hz] at p1
    have Hlen := Lib.hid hlen
    rw [show ((m + 1 : Nat) : Int) = (m : Int) + 1 from by omega]
    have Hm : (m : Int) + 1 - 1 = (m : Int) := by omega
    have m1 : ((m : Int) + 1 == 0) = false := by simp; omega
    have m0 : (0 : Int) ≤ (m : Int) := by omega
    have mb : (m : Int) ≤ 1000 := by omega
    obtain ⟨rj, hj, hy0, hy1, hy2⟩ := info_parts infoI
    have Hj := Lib.hid hj
    have Hy0 := Lib.hid hy0
    have Hy1 := Lib.hid hy1
    have Hy2 := Lib.hid hy2
    clear hc hq g1 g0 hne ha hz hlen hj hy0 hy1 hy2
    go_enter Try.func35, Try.ntmps35
    go_wp2_with fail
    go_loopw [10] (fun b wr => ClRel n e m l w b wr) (fun b _ => (n - intOf b).toNat)
    case atStart => exact ⟨a + 1, by rw [Ha.out]; exact Int.le_refl _, .inr (by rw [Ha.out]), by first | rfl | (congr 1), fun x h1 h2 => by rw [Ha.out] at h1; omega, Below.refl _ _⟩
    case round =>
      obtain ⟨c, hc1, hc2, rfl, hall, hbel⟩ := hrel
      rw [Ha.out] at hc1 hc2
      have HALL := Lib.hid hall
      clear hall
      by_cases d : c < n
      case neg =>
        have hv : Hid (clos n e (m + 1) l = []) := by
          show _ = _
          rw [clos_succ]
          exact firstNe_nil.2 fun y hy => HALL.out y (mem_after.1 hy).1 (by have := (mem_after.1 hy).2; omega)
        go_wp2_with fail
        go_ret
        exact ⟨_, rfl, by rw [hv.out]; exact SAt.nil _, hbel⟩
      case pos =>
        obtain ⟨eb, heb⟩ : ∃ eb, edgeB e z c = eb := ⟨_, rfl⟩
        have Heb := Lib.hid heb
        have HE := Lib.hid (Edge_x v z c e wr (hat.below hbel (Nat.le_refl _)) hl)
        clear heb
        cases eb with
        | false =>
          have Hno : Hid (closF n e m l c = []) := by show _ = _; unfold closF; rw [Hz.out, Heb.out]; rfl
          go_wp2_with fail
          refine HE.out.mono ?_
          rintro r w1 ⟨rfl, rfl⟩
          rw [Heb.out]
          go_wp2_with fail
          go_roundw
          case rel => exact ⟨c + 1, by rw [Ha.out]; omega, .inl (by omega), rfl, fun y h1 h2 => by
            by_cases hy : y = c
            · rw [hy]; exact Hno.out
            · exact HALL.out y h1 (by omega), hbel⟩
          case measure => simp [intOf]; omega
        | true =>
          have HF : Hid (closF n e m l c = clos n e m (l ++ [c])) := by show _ = _; unfold closF; rw [Hz.out, Heb.out]; rfl
          go_wp2_with fail
          refine HE.out.mono ?_
          rintro r w1 ⟨rfl, rfl⟩
          rw [Heb.out]
          have hsz := hbel.size
          have own0 : Hid ((wr.alloc (.cells #[] 3)).ownsRow w.heap.size 3 1 (.slice (some ⟨wr.heap.size, 0, none⟩) 0 0) 0 []) := own_none wr _ _ _ rfl hsz
          have cel0 : Hid (∀ j u, (ints l)[j]? = some u → (wr.alloc (.cells #[] 3)).cell? ((⟨b, off, none⟩ : Addr).add j) = some u) := fun j u hu => by
            obtain ⟨k1, k2⟩ := Hc.out j u hu
            rw [add_plain, (hbel.alloc hsz _).cell (p := ⟨b, off + j, none⟩) k1]
            exact k2
          go_wp2_with (at_builtin; refine wpList_append_own _ rfl (.tmp 42) (.tmp 43) 25 rfl w.heap.size 3 rj (.int .i64 0) 1 8 Try.underlying25 Hj.out Hy0.out Hy1.out Hy2.out rfl (by decide) _ 0 [] rfl own0.out ⟨b, off, none⟩ (q + 1) cap (ints l) rfl ?f1 ?f2 ?f3 ?f4 ?f5 ?f6 ?_)
          case f1 => rw [List.length_map, Hq.out]; omega
          case f2 => exact cel0.out
          case f3 => exact ints_one _
          case f4 => have := Hlen.out; have := Hq.out; unfold maxLen; omega
          case f5 => have := Hlen.out; have := Hq.out; omega
          case f6 => simp; omega
          intro v3 w3 hown3 hgrow3 _
          have bel3 : Below w.heap.size w w3 := (hbel.alloc hsz _).grown hgrow3 (by simp; omega) (fun k hk => (own0.out.lt k hk).1)
          have sz3 := bel3.size
          go_wp2_with (at_builtin; refine wpList_append_own _ rfl (.tmp 44) (.tmp 46) 25 rfl w.heap.size 3 rj (.int .i64 0) 1 8 Try.underlying25 Hj.out Hy0.out Hy1.out Hy2.out rfl (by decide) _ (q + 1) (ints l) rfl (hown3.alloc _) ⟨w3.heap.size, 0, none⟩ 1 1 [.int .i64 c] rfl rfl ?g1 ?g2 ?g3 ?g4 ?g5 ?_)
          case g1 => exact cell_new1 _ _ _ _ rfl
          case g2 => intro u hu; simp at hu; subst hu; rfl
          case g3 => have := Hlen.out; have := Hq.out; unfold maxLen; omega
          case g4 => have := Hlen.out; have := Hq.out; omega
          case g5 => simp; omega
          intro v5 w5 hown5 hgrow5 _
          have bel5 : Hid (Below w.heap.size w w5) := (bel3.alloc sz3 _).grown hgrow5 (by simp; omega) (fun k hk => (hown3.lt k hk).1)
          have S5 : SAt w5 v5 (ints (l ++ [c])) := by
            have h := SAt.own (l := ints (l ++ [c])) (n := q + 1 + 1) (by simpa [ints] using hown5) (by rw [List.length_map, List.length_append, Hq.out]; simp)
            exact h
          have HI := Lib.hid (IH.out (l ++ [c]) v v5 w5 (hat.below bel5.out (Nat.le_refl _)) S5 (by simp) (by have := Hlen.out; rw [List.length_append]; simp; omega) (by rw [nx_app, nx_ne (fun h => by have := Hq.out; rw [h] at this; simp at this) _ 0, Ha.out]; exact hh))
          obtain ⟨a5, c5, e5, -, -⟩ := id S5
          rw [show (ints (l ++ [c])).length = q + 2 from by rw [List.length_map, List.length_append, Hq.out]; rfl] at e5
          subst e5
          clear hown3 hgrow3 hown5 hgrow5 S5 own0 cel0 bel3 sz3
          go_wp2_with fail
          refine HI.out.mono ?_
          rintro r w6 ⟨y, rfl, hy, b6⟩
          have bel6 := chain bel5.out b6
          have HY := Lib.hid hy
          obtain ⟨a6, c6, rfl, -, -⟩ := hy
          rw [List.length_map] at HY ⊢
          clear b6 bel5 HI
          by_cases hG : clos n e m (l ++ [c]) = []
          · have f0 : ((0 : Int) < ((clos n e m (l ++ [c])).length : Int)) = False := by rw [hG]; simp
            have f0' : (clos n e m (l ++ [c])).length = 0 := by rw [hG]; rfl
            have HG := Lib.hid hG
            clear hG
            go_wp2_with fail
            go_roundw
            case rel => exact ⟨c + 1, by rw [Ha.out]; omega, .inl (by omega), rfl, fun y h1 h2 => by
              by_cases hy : y = c
              · rw [hy, HF.out]; exact HG.out
              · exact HALL.out y h1 (by omega), bel6⟩
            case measure => simp [intOf]; omega
          · have f0 : (0 : Int) < ((clos n e m (l ++ [c])).length : Int) := by have := List.length_pos_iff.2 hG; omega
            have hv : Hid (clos n e (m + 1) l = clos n e m (l ++ [c])) := by
              show _ = _
              rw [clos_succ, firstNe_first (after_pair _ _) (mem_after.2 ⟨by rw [Ha.out]; omega, d⟩) (fun y hy hyc => HALL.out y (mem_after.1 hy).1 hyc) (by rw [HF.out]; exact hG), HF.out]
            clear hG
            go_wp2_with fail
            go_ret
            exact ⟨_, rfl, by rw [hv.out]; exact HY.out, bel6⟩

end Go.Proofs.Ytndcbhgdlaemaaa
