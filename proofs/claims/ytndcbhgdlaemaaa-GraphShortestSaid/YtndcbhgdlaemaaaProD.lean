/-
  The program's search from a node.
-/
import Derived.Test.YtndcbhgdlaemaaaProC
namespace Go.Proofs.Ytndcbhgdlaemaaa
open Go.RowKit Gr

theorem LIn.form {lo hi : Nat} {w : World} {v : Value} {L : List (List Int)} (h : LIn lo hi w v L) {i : Nat} {l : List Int} (hl : L[i]? = some l) : ∃ b off cap, v = .slice (some ⟨b, off, none⟩) L.length cap := by
  obtain ⟨x, -, a, cap, b, off, h1, h2, -⟩ := h.el hl
  exact ⟨b, off, cap, by rw [h1, h2]⟩
theorem LIn.get {lo hi n b off cap : Nat} {w : World} {L : List (List Int)} (h : LIn lo hi w (.slice (some ⟨b, off, none⟩) n cap) L) {i : Nat} {l : List Int} (hl : L[i]? = some l) : ∃ x, SIn lo hi w x (ints l) ∧ b < w.heap.size ∧ w.cell? ⟨b, off + i, none⟩ = some x := by
  obtain ⟨x, hx, a, cap, b', off', h1, h2, h3, -, h4⟩ := h.el hl
  subst h2
  simp only [Value.slice.injEq, Option.some.injEq, Addr.mk.injEq, and_true] at h1
  obtain ⟨⟨rfl, rfl⟩, -, -⟩ := h1
  exact ⟨x, hx, h3, h4⟩
theorem adjs_get {es : E} {n i : Nat} (h : i < n) : ((nodes n).map (adj es))[i]? = some (adj es (i : Int)) := by
  rw [List.getElem?_map, nodes_get (by simpa using h)]
  rfl
theorem adjs_len (es : E) (n : Nat) : ((nodes n).map (adj es)).length = n := by rw [List.length_map, nodes_len]; simp
/-- between the append and the store -/
theorem Sr.mid {lo hi gp gs gq n : Nat} {near : Value} {w w1 : World} {f : Int → Int} {q : List Int} (h : Sr lo hi gp gs gq n near w f q) (hg : w.grownBy w1 (some gq)) : gp < w1.heap.size ∧ w1.cell? ⟨gp, 2, none⟩ = some (.slice (some ⟨gq, 0, none⟩) q.length n) ∧ w1.frozen? ⟨gp, 2, none⟩ = false := by
  have hk : Keep gq (gq + 1) w w1 := Keep.grown hg (fun k e => by injection e with e; omega)
  have hp := h.p1
  have h1 := h.hi1
  have h2 := h.pq
  have h3 := hk.size
  exact ⟨by omega, by rw [hk.cell _ (by omega) (by omega)]; exact h.c2, by rw [hk.frozen _ (by omega) (by omega)]; exact h.z2⟩
theorem ints_at {l : List Int} {k : Nat} {x : Int} (h : l[k]? = some x) : (ints l)[k]? = some (.int .i64 x) := by rw [List.getElem?_map, h]; rfl
def FRel (es : E) (lo hi gp gs gq n : Nat) (near : Value) (s : Int) (w : World) (i : Value) (wr : World) : Prop := ∃ (k : Nat) (f : Int → Int) (q : List Int), i = .int .i64 (k : Int) ∧ k ≤ q.length ∧ Bf es n s f q k 0 ∧ Sr lo hi gp gs gq n near wr f q ∧ Keep lo hi w wr
def IRel (es : E) (lo hi gp gs gq n : Nat) (near : Value) (s v : Int) (k : Nat) (w : World) (i : Value) (wr : World) : Prop := ∃ (j : Nat) (f : Int → Int) (q : List Int), i = .int .i64 (j : Int) ∧ j ≤ (adj es v).length ∧ q[k]? = some v ∧ Bf es n s f q k j ∧ Sr lo hi gp gs gq n near wr f q ∧ Keep lo hi w wr

set_option maxHeartbeats 6400000 in
set_option maxRecDepth 100000 in
theorem from_x {lo hi gp gs gq n nlo nhi : Nat} {near : Value} {es : E} {w : World} {f : Int → Int} {q : List Int} (h : Sr lo hi gp gs gq n near w f q) (hL : LIn nlo nhi w near ((nodes n).map (adj es))) (ho : nhi ≤ lo ∨ hi ≤ nlo)
    (hn : ∀ p ∈ es, (0 ≤ p.1 ∧ p.1 < (n : Int)) ∧ 0 ≤ p.2 ∧ p.2 < (n : Int)) (n300 : n ≤ 300) (hel : es.length ≤ 2000) {s : Nat} (hs : s < n) :
    Calls Try.prog 31 #[.pointer (some ⟨gp, 0, none⟩), .int .i64 (s : Int)] w fun r w' => r = .returned (.tuple #[]) ∧ ∃ f' q', Sr lo hi gp gs gq n near w' f' q' ∧ Dist es n s f' ∧ Keep lo hi w w' := by
  obtain ⟨rj, hj, hy0, hy1, hy2⟩ := info_parts infoI
  have Hj := Lib.hid hj
  have Hy0 := Lib.hid hy0
  have Hy1 := Lib.hid hy1
  have Hy2 := Lib.hid hy2
  obtain ⟨nb, noff, nc, rfl⟩ := hL.form (adjs_get hs)
  rw [adjs_len] at h hL ⊢
  have HS := Lib.hid h
  have HL := Lib.hid hL
  have HN := Lib.hid hn
  have HO := Lib.hid ho
  have c1 := h.c1
  have l1 : gp < w.heap.size := Nat.lt_of_lt_of_le h.p1.2 h.hi1
  have GS := Lib.hid h.s1
  have s0 : (0 : Int) ≤ (s : Int) := by omega
  have s1 : (s : Int) < (n : Int) := by omega
  clear hj hy0 hy1 hy2 h hL hn ho
  obtain ⟨w1, hw1⟩ : ∃ w1, w1 = w.setCells gs 0 (List.replicate n (.int .i64 0)) := ⟨_, rfl⟩
  have hclr : (Builtin.clear_ #[25] 0 #[.slice (some ⟨gs, 0, none⟩) n n]).run Try.prog w = .ok (.tuple #[]) w1 := by
    rw [hw1]
    exact Lib.run_clear_slice w 25 3 0 (.int .i64 0) Try.underlying25 Try.zeroValue3 rfl rfl gs 0 n n (by omega)
      (fun j hj => by rw [Nat.zero_add, HS.out.row.c j _ (stp_get hj)]; rfl) (fun j hj => by rw [Nat.zero_add]; exact HS.out.row.fz j (by rw [stp_len]; exact hj))
  have S1 : Hid (Sr lo hi gp gs gq n (.slice (some ⟨nb, noff, none⟩) n nc) w1 (fun _ => 0) q) := by show Sr _ _ _ _ _ _ _ _ _ _; rw [hw1]; exact HS.out.clear
  have K1 : Hid (Keep lo hi w w1) := by show Keep _ _ _ _; rw [hw1]; exact Keep.sets GS.out.1 GS.out.2 _ _ _
  clear hw1
  have c1' := S1.out.c1
  have l1' : gp < w1.heap.size := Nat.lt_of_lt_of_le S1.out.p1.2 S1.out.hi1
  have l2 : gs < w1.heap.size := S1.out.row.lt
  have r1 : w1.cell? ⟨gs, s, none⟩ = some (.int .i64 0) := S1.out.row.c s _ (stp_get hs)
  have r2 : w1.frozen? ⟨gs, s, none⟩ = false := S1.out.row.fz s (by rw [stp_len]; exact hs)
  go_enter Try.func31, Try.ntmps31
  have S2 : Hid (Sr lo hi gp gs gq n (.slice (some ⟨nb, noff, none⟩) n nc) (w1.setCell ⟨gs, s, none⟩ (.int .i64 1)) (upd (fun _ => 0) (s : Int) 1) q) := S1.out.step hs 1
  have K2 : Hid (Keep lo hi w (w1.setCell ⟨gs, s, none⟩ (.int .i64 1))) := K1.out.trans (Keep.set _ _ _ GS.out.1 GS.out.2)
  have c2 : (w1.setCell ⟨gs, s, none⟩ (.int .i64 1)).cell? ⟨gp, 2, none⟩ = some (.slice (some ⟨gq, 0, none⟩) q.length n) := S2.out.c2
  go_wp2_with (at_builtin; refine wpList_append_fits _ rfl (.tmp 23) (.tmp 25) 25 rfl lo 3 rj 1 Try.underlying25 Hj.out Hy1.out gq 0 n [] rfl (own_zero (S2.out.que.alloc _)) ⟨w1.heap.size, 0, none⟩ 1 1 [.int .i64 (s : Int)] rfl rfl ?f1 ?f2 ?f3 ?_)
  case f1 => exact cell_new1 _ _ _ _ (by simp)
  case f2 => intro u hu; simp at hu; subst hu; rfl
  case f3 => omega
  intro w3 hown3 hgrow3
  have SA := Lib.hid (S2.out.below (Below.new1 (.cells #[.int .i64 (s : Int)] 3)))
  obtain ⟨m1, m2, m3⟩ := SA.out.mid hgrow3
  have S3 := Lib.hid (SA.out.push (q' := [(s : Int)]) hgrow3 hown3)
  have K3 : Hid (Keep lo hi w (w3.setCell ⟨gp, 2, none⟩ (.slice (some ⟨gq, 0, none⟩) 1 n))) := ((K2.out.trans (Keep.of (Below.new1 _) _ _)).trans (Keep.grown hgrow3 (fun k e => by injection e with e; subst e; exact SA.out.q1))).trans (Keep.set _ _ _ SA.out.p1.1 SA.out.p1.2)
  clear hown3 hgrow3 c2 l1 S2 K2 SA S1 K1 c1 c1' l1' l2 r1 r2 hclr
  go_wp2_with fail
  go_loopw [4] (fun i wr => FRel es lo hi gp gs gq n (.slice (some ⟨nb, noff, none⟩) n nc) s w i wr) (fun i _ => ((n : Int) - intOf i).toNat)
  case atStart => exact ⟨0, _, _, rfl, by simp, Bf.start es ⟨s0, s1⟩, S3.out, K3.out⟩
  case round =>
    clear S3 K3 m1 m2 m3
    obtain ⟨k, f1, q1, rfl, hk, hB, hS, hK⟩ := hrel
    have HB := Lib.hid hB
    have HS1 := Lib.hid hS
    have HK := Lib.hid hK
    have k0 : (0 : Int) ≤ (k : Int) := by omega
    have c2 := hS.c2
    have l1 : gp < wr.heap.size := Nat.lt_of_lt_of_le hS.p1.2 hS.hi1
    have qn := hB.len
    clear hB hS hK
    by_cases c : k < q1.length
    case neg =>
      have c0 : ¬ (k : Int) < (q1.length : Int) := by omega
      go_wp2_with fail
      go_end0
      exact ⟨rfl, f1, ⟨q1, HS1.out⟩, HB.out.dist (by omega), HK.out⟩
    case pos =>
      have c0 : (k : Int) < (q1.length : Int) := by omega
      obtain ⟨v', hv'⟩ : ∃ v, q1[k]? = some v := ⟨_, List.getElem?_eq_getElem c⟩
      have vn := HB.out.rg v' (List.mem_of_getElem? hv')
      obtain ⟨v, rfl⟩ := Int.eq_ofNat_of_zero_le vn.1
      have HV := Lib.hid hv'
      have vN : v < n := by omega
      have g1 : wr.cell? ⟨gq, k, none⟩ = some (.int .i64 (v : Int)) := by
        rw [HS1.out.que.cellAt k (by omega)]
        exact ints_at hv'
      have g2 : gq < wr.heap.size := Nat.lt_of_lt_of_le HS1.out.q1.2 HS1.out.hi1
      have c00 := HS1.out.c0
      obtain ⟨x, hx, b1, b2⟩ := (HL.out.keep HK.out HO.out).get (adjs_get vN)
      obtain ⟨xa, xc, rfl, -, -⟩ := id hx
      rw [List.length_map] at b2
      have HX := Lib.hid hx
      have v0 : (0 : Int) ≤ (v : Int) := by omega
      have v1 : (v : Int) < (n : Int) := by omega
      have al : (adj es (v : Int)).length ≤ 2000 := Nat.le_trans (adj_len _ _) hel
      clear hv' vn hx
      go_wp2_with fail
      go_loopw [53] (fun i wx => IRel es lo hi gp gs gq n (.slice (some ⟨nb, noff, none⟩) n nc) s v k wr i wx) (fun i _ => ((adj es (v : Int)).length - intOf i).toNat)
      case atStart => exact ⟨0, f1, q1, rfl, Nat.zero_le _, HV.out, HB.out, HS1.out, Keep.refl _ _ _⟩
      case round =>
        clear c2 l1 g1 g2 c00 b1 b2 c c0 qn hk HB HS1 HV
        obtain ⟨j, f2, q2, rfl, hj, hv, hB, hS, hK⟩ := hrel
        have HB := Lib.hid hB
        have HS2 := Lib.hid hS
        have HK2 := Lib.hid hK
        have HV := Lib.hid hv
        have j0 : (0 : Int) ≤ (j : Int) := by omega
        clear hB hS hK hv
        by_cases d : j < (adj es (v : Int)).length
        case neg =>
          have d0 : ¬ (j : Int) < ((adj es (v : Int)).length : Int) := by omega
          have kq := (List.getElem?_eq_some_iff.1 HV.out).1
          have qn := HB.out.len
          go_wp2_with fail
          go_roundw
          case rel => exact ⟨k + 1, f2, q2, by congr 1, kq, HB.out.next HV.out (by omega), HS2.out, HK.out.trans HK2.out⟩
          case measure => simp [intOf]; omega
        case pos =>
          have d0 : (j : Int) < ((adj es (v : Int)).length : Int) := by omega
          obtain ⟨x', hx'⟩ : ∃ x, (adj es (v : Int))[j]? = some x := ⟨_, List.getElem?_eq_getElem d⟩
          have xn := (HN.out _ (mem_adj.1 (List.mem_of_getElem? hx'))).2
          simp only at xn
          obtain ⟨x, rfl⟩ := Int.eq_ofNat_of_zero_le xn.1
          have HXE := Lib.hid hx'
          have xN : x < n := by omega
          obtain ⟨xa', xc', e1, -, hxc⟩ := HX.out.keep HK2.out HO.out
          simp only [Value.slice.injEq] at e1
          obtain ⟨rfl, -, rfl⟩ := e1
          obtain ⟨xb, xo, rfl, -, t1, t2⟩ := hxc j _ (ints_at hx')
          have c1 := HS2.out.c1
          have l1 : gp < wr.heap.size := Nat.lt_of_lt_of_le HS2.out.p1.2 HS2.out.hi1
          have l2 : gs < wr.heap.size := HS2.out.row.lt
          have x0 : (0 : Int) ≤ (x : Int) := by omega
          have x1 : (x : Int) < (n : Int) := by omega
          obtain ⟨y, hy⟩ : ∃ y, f2 (x : Int) = y := ⟨_, rfl⟩
          have r1 : wr.cell? ⟨gs, x, none⟩ = some (.int .i64 y) := by rw [← hy]; exact HS2.out.row.c x _ (stp_get xN)
          have HY := Lib.hid hy
          clear hy hxc hx' xn
          by_cases g : y = 0
          case neg =>
            have g0 : (y == 0) = false := by simpa using g
            go_wp2_with fail
            go_roundw
            case rel => exact ⟨j + 1, f2, q2, by congr 1, by omega, HV.out, HB.out.old HV.out HXE.out (by rw [HY.out]; exact g), HS2.out, HK2.out⟩
            case measure => simp [intOf]; omega
          case pos =>
            subst g
            obtain ⟨z, hz⟩ : ∃ z, f2 (v : Int) = z := ⟨_, rfl⟩
            have HZ := Lib.hid hz
            have r3 : wr.cell? ⟨gs, v, none⟩ = some (.int .i64 z) := by rw [← hz]; exact HS2.out.row.c v _ (stp_get vN)
            have r4 : wr.frozen? ⟨gs, x, none⟩ = false := HS2.out.row.fz x (by rw [stp_len]; exact xN)
            have zp : 0 < z := by rw [← hz]; exact (HB.out.pos _).2 (List.mem_of_getElem? HV.out)
            have zb : z ≤ 300 := by have h1 := HB.out.bd (v : Int); have h2 := HB.out.len; rw [hz] at h1; omega
            have hvx : (v : Int) ≠ (x : Int) := fun e => by have h1 := HY.out; rw [← e] at h1; omega
            have HB3 := Lib.hid (HB.out.new HN.out HV.out HXE.out HY.out)
            have ST := Lib.hid (HS2.out.step xN (z + 1))
            have qn : q2.length + 1 ≤ n := by have := HB3.out.len; simpa using this
            have wz : IntKind.i64.wrap (z + 1) = z + 1 := (IntWalk.i64_left _).trans (IntWalk.wrap64_in _ ⟨by omega, by omega⟩)
            have st1 := ST.out.c1
            have st3 : (wr.setCell ⟨gs, x, none⟩ (.int .i64 (z + 1))).cell? ⟨gs, v, none⟩ = some (.int .i64 z) := by have h1 := ST.out.row.c v _ (stp_get vN); rw [upd_other hvx, HZ.out] at h1; exact h1
            clear hz
            go_wp2_with fail
            refine wp_region_held_drew (S := fun w' => w'.cell? ⟨gp, 1, none⟩ = some (.slice (some ⟨gs, 0, none⟩) n n) ∧ w'.cell? ⟨gs, v, none⟩ = some (.int .i64 z)) (by kernel_rfl) ?_ (fun hHeld => ?_)
            · exact ⟨c1, r3⟩
            refine takeN0 (v := ?_) (by kernel_rfl) (by kernel_rfl) (by kernel_rfl) (fun _ _ _ h => h) (by rfl) ?_ (by assumption) ?_
            rotate_left
            · intro wz hSw
              try dsimp only at hSw
              go_simp
              try with_reducible rfl
            try simp only [Act.put, List.setIfInBounds_toArray, List.set_cons_zero, List.set_cons_succ]
            refine takeN1 (v := ?_) (by kernel_rfl) (by kernel_rfl) (by kernel_rfl) (fun _ _ _ h => h) (by rfl) ?_ (by assumption) ?_
            rotate_left
            · intro wz hSw
              try dsimp only at hSw
              go_simp
              try with_reducible rfl
            try simp only [Act.put, List.setIfInBounds_toArray, List.set_cons_zero, List.set_cons_succ]
            refine takeN2 (v := ?_) (by kernel_rfl) (by kernel_rfl) (by kernel_rfl) (fun _ _ _ h => h) (by rfl) ?_ (by assumption) ?_
            rotate_left
            · intro wz hSw
              try dsimp only at hSw
              go_simp
              try with_reducible rfl
            try simp only [Act.put, List.setIfInBounds_toArray, List.set_cons_zero, List.set_cons_succ]
            refine takeN3 (v := ?_) (by kernel_rfl) (by kernel_rfl) (by kernel_rfl) (fun _ _ _ h => h) (by rfl) ?_ (by assumption) ?_
            rotate_left
            · intro wz hSw
              try dsimp only at hSw
              go_simp
              try with_reducible rfl
            try simp only [Act.put, List.setIfInBounds_toArray, List.set_cons_zero, List.set_cons_succ]
            refine takeN4 (v := ?_) (by kernel_rfl) (by kernel_rfl) (by kernel_rfl) (fun _ _ _ h => h) (by rfl) ?_ (by assumption) ?_
            rotate_left
            · intro wz hSw
              try dsimp only at hSw
              go_simp
              try with_reducible rfl
            try simp only [Act.put, List.setIfInBounds_toArray, List.set_cons_zero, List.set_cons_succ]
            refine takeN5 (v := ?_) (by kernel_rfl) (by kernel_rfl) (by kernel_rfl) (fun _ _ _ h => h) (by rfl) ?_ (by assumption) ?_
            rotate_left
            · intro wz hSw
              try dsimp only at hSw
              go_simp
              try with_reducible rfl
            try simp only [Act.put, List.setIfInBounds_toArray, List.set_cons_zero, List.set_cons_succ]
            refine takeN6 (v := ?_) (by kernel_rfl) (by kernel_rfl) (by kernel_rfl) (fun _ _ _ h => h) (by rfl) ?_ (by assumption) ?_
            rotate_left
            · intro wz hSw
              try dsimp only at hSw
              go_simp
              try with_reducible rfl
            try simp only [Act.put, List.setIfInBounds_toArray, List.set_cons_zero, List.set_cons_succ]
            refine takeN7 (v := ?_) (by kernel_rfl) (by kernel_rfl) (by kernel_rfl) (fun _ _ _ h => h) (by rfl) ?_ (by assumption) ?_
            rotate_left
            · intro wz hSw
              try dsimp only at hSw
              go_simp
              try with_reducible rfl
            try simp only [Act.put, List.setIfInBounds_toArray, List.set_cons_zero, List.set_cons_succ]
            refine takeN8 (v := ?_) (by kernel_rfl) (by kernel_rfl) (by kernel_rfl) (fun _ _ _ h => h) (by rfl) ?_ (by assumption) ?_
            rotate_left
            · intro wz hSw
              try dsimp only at hSw
              go_simp
              try with_reducible rfl
            try simp only [Act.put, List.setIfInBounds_toArray, List.set_cons_zero, List.set_cons_succ]
            refine takeN9 (v := ?_) (by kernel_rfl) (by kernel_rfl) (by kernel_rfl) (fun _ _ _ h => h) (by rfl) ?_ (by assumption) ?_
            rotate_left
            · intro wz hSw
              try dsimp only at hSw
              go_simp
              try with_reducible rfl
            try simp only [Act.put, List.setIfInBounds_toArray, List.set_cons_zero, List.set_cons_succ]
            refine takeN10 (v := ?_) (by kernel_rfl) (by kernel_rfl) (by kernel_rfl) (fun _ _ _ h => h) (by rfl) ?_ (by assumption) ?_
            rotate_left
            · intro wz hSw
              try dsimp only at hSw
              go_simp
              try with_reducible rfl
            try simp only [Act.put, List.setIfInBounds_toArray, List.set_cons_zero, List.set_cons_succ]
            refine takeN11 (v := ?_) (by kernel_rfl) (by kernel_rfl) (by kernel_rfl) (fun _ _ _ h => h) (by rfl) ?_ (by assumption) ?_
            rotate_left
            · intro wz hSw
              try dsimp only at hSw
              go_simp
              try with_reducible rfl
            try simp only [Act.put, List.setIfInBounds_toArray, List.set_cons_zero, List.set_cons_succ]
            refine takeN12 (v := ?_) (by kernel_rfl) (by kernel_rfl) (by kernel_rfl) (fun _ _ _ h => h) (by rfl) ?_ (by assumption) ?_
            rotate_left
            · intro wz hSw
              try dsimp only at hSw
              go_simp
              try with_reducible rfl
            try simp only [Act.put, List.setIfInBounds_toArray, List.set_cons_zero, List.set_cons_succ]
            refine takeN13 (v := ?_) (by kernel_rfl) (by kernel_rfl) (by kernel_rfl) (fun _ _ _ h => h) (by rfl) ?_ (by assumption) ?_
            rotate_left
            · intro wz hSw
              try dsimp only at hSw
              go_simp
              try with_reducible rfl
            try simp only [Act.put, List.setIfInBounds_toArray, List.set_cons_zero, List.set_cons_succ]
            refine comeN14 (by kernel_rfl) (by rfl) (fun K hK => ?_)
            go_simp
            refine hK.out _ _ ?_ (fun hHeld => ?_)
            · exact ⟨st1, st3⟩
            clear hK K
            try simp only [Act.put, List.setIfInBounds_toArray, List.set_cons_zero, List.set_cons_succ]
            refine wpAnyH_done (by kernel_rfl) ?_ _
            clear c1 r1 r3 r4 st1 st3 hHeld
            have c2 := ST.out.c2
            have l3 : gp < (wr.setCell ⟨gs, x, none⟩ (.int .i64 (z + 1))).heap.size := by simpa using l1
            go_wp2_with (at_builtin; refine wpList_append_fits _ rfl (.tmp 83) (.tmp 85) 25 rfl lo 3 rj 1 Try.underlying25 Hj.out Hy1.out gq q2.length n (ints q2) rfl (ST.out.que.alloc _) ⟨wr.heap.size, 0, none⟩ 1 1 [.int .i64 (x : Int)] rfl rfl ?f1 ?f2 ?f3 ?_)
            case f1 => exact cell_new1 _ _ _ _ (by simp)
            case f2 => intro u hu; simp at hu; subst hu; rfl
            case f3 => omega
            intro w5 hown5 hgrow5
            have SA := Lib.hid (ST.out.below (Below.new1 (.cells #[.int .i64 (x : Int)] 3)).drew)
            have hown6 : w5.ownsRow lo 3 1 (.slice (some ⟨gq, 0, none⟩) (q2 ++ [(x : Int)]).length n) (q2 ++ [(x : Int)]).length (ints (q2 ++ [(x : Int)])) := by
              rw [List.length_append, ints, List.map_append]
              exact hown5
            obtain ⟨m1, m2, m3⟩ := SA.out.mid hgrow5
            have S5 := Lib.hid (SA.out.push hgrow5 hown6)
            have K5 : Hid (Keep lo hi wr (w5.setCell ⟨gp, 2, none⟩ (.slice (some ⟨gq, 0, none⟩) (q2 ++ [(x : Int)]).length n))) := (((Keep.set _ _ _ GS.out.1 GS.out.2).trans (Keep.of (Below.new1 _).drew _ _)).trans (Keep.grown hgrow5 (fun k e => by injection e with e; subst e; exact SA.out.q1))).trans (Keep.set _ _ _ SA.out.p1.1 SA.out.p1.2)
            rw [List.length_append] at S5 K5
            clear hown5 hown6 hgrow5 c2 SA
            go_wp2_with fail
            go_roundw
            case rel => exact ⟨j + 1, _, q2 ++ [(x : Int)], by congr 1, by omega, by rw [List.getElem?_append_left (List.getElem?_eq_some_iff.1 HV.out).1]; exact HV.out, by rw [← HZ.out]; exact HB3.out, S5.out, HK2.out.trans K5.out⟩
            case measure => simp [intOf]; omega

end Go.Proofs.Ytndcbhgdlaemaaa
