/-
  JournalFull.
-/
import Derived.Test.YtemldlhhlneleaaDoorJlE
namespace Go.Proofs.YtemldlhhlneleaaDoor.Jn
open Go.RowKit Dk Wi

def FuRel (nn m g : Nat) (l : List S) (w : World) (r i : Value) (wr : World) : Prop := ∃ (k rm : Nat) (q : List S) (d : D) (a : Option Addr) (c : Nat) (p : Option Addr) (c2 : Nat), k ≤ l.length ∧ r = .int .i64 (rm : Int) ∧ i = .int .i64 (k : Int) ∧ q.length ≤ k ∧ (encA q).length + rm = 16 * m ∧ Fil nn q d ∧
  Bx (.slice a nn c) (.slice p 0 c2) (-1) false g wr ∧ DAt wr (.agg #[.slice a nn c, .slice p 0 c2, .int .i64 (-1), .bool false]) d ∧ Below w.heap.size w wr
theorem conv_zero {P : Program} {f : FuncId} {args : Array Value} {w : World} {v : D × Int} {e : Int} (h : Calls P f args w fun r w' => ∃ x, r = .returned (.tuple #[x, .int .i64 v.2]) ∧ DAt w' x v.1 ∧ Below w.heap.size w w') (hv : v = (D0, e)) :
    Calls P f args w fun r w' => ∃ a c p c2, r = .returned (.tuple #[.agg #[.slice a 0 c, .slice p 0 c2, .int .i64 0, .bool false], .int .i64 e]) ∧ DAt w' (.agg #[.slice a 0 c, .slice p 0 c2, .int .i64 0, .bool false]) D0 ∧ Below w.heap.size w w' :=
  conv_sh h hv rfl rfl rfl rfl

set_option maxHeartbeats 12800000 in
set_option maxRecDepth 100000 in
theorem full_x (jk : JournalOk) (n : Int) (v : Value) (l : List S) (w : World) (ht : Tb w) (hn : I64 n) (h : LAt w v l) (hl : l.length ≤ 9223372036854775807) (hs : ∀ s ∈ l, s.length ≤ 9223372036854775807) :
    Calls Tryd.prog 6 #[.int .i64 n, v] w fun r w' => r = .returned (.bool true) ∧ Below w.heap.size w w' := by
  have HT := Lib.hid ht
  clear ht
  have HL0 := Lib.hid h
  obtain ⟨sa, sc, rfl, -, hg⟩ := h
  have ll : (strs (l.map mkB)).length = l.length := by simp
  rw [ll] at HL0 ⊢
  have HG : Hid (∀ (j : Nat) (x : S), l[j]? = some x → ∃ g off, sa = some ⟨g, off, none⟩ ∧ g < w.heap.size ∧ w.cell? ⟨g, off + j, none⟩ = some (.string (mkB x))) := fun j x hx => hg j _ (strs_get (by rw [List.getElem?_map, hx]; rfl))
  have HS := Lib.hid hs
  have HLE := Lib.hid hl
  clear hg ll hs hl
  obtain ⟨fb, hfb⟩ : ∃ t, fitsB (l.map mkB) ((8 : Nat) : Int) = t := ⟨_, rfl⟩
  have HFB := Lib.hid hfb
  clear hfb
  obtain ⟨m, hm⟩ : ∃ m, sizeN n = m := ⟨_, rfl⟩
  have ⟨m1, m2⟩ := size_in n
  rw [hm] at m1 m2
  have HSI : Hid (∀ W, Calls Tryd.prog 10 #[.int .i64 n] W fun r w' => r = .returned (.int .i64 (m : Int)) ∧ W = w') := by
    show ∀ W, _
    intro W
    rw [← hm]
    exact size_x n W hn
  clear hm
  obtain ⟨nn, hnn⟩ : ∃ x, 2 + m = x := ⟨_, rfl⟩
  have HNN := Lib.hid hnn
  have nb : 3 ≤ nn ∧ nn ≤ 42 := by omega
  have e2 : (2 : Int) + (m : Int) = (nn : Int) := by omega
  clear hnn
  go_enter Tryd.func6, Tryd.ntmps6
  have HSN := Lib.hid (sane_x jk w HT.out)
  go_wp2_with fail
  refine HSN.out.mono ?_
  rintro r w1 ⟨rfl, b1⟩
  have B1 := Lib.hid b1
  have HL1 := Lib.hid (HL0.out.next b1)
  clear b1 HSN
  have HFT := Lib.hid (fits_l _ l 8 w1 HL1.out HLE.out HS.out HFB.out)
  go_wp2_with fail
  refine HFT.out.mono ?_
  rintro r w2 ⟨rfl, rfl⟩
  clear HFT
  cases fb with
  | false =>
    go_wp2_with fail
    go_ret
    exact ⟨by rfl, B1.out⟩
  | true =>
  obtain ⟨hs1, hl8⟩ := fits_lst.1 HFB.out
  have HS1 := Lib.hid hs1
  clear hs1
  go_wp2_with fail
  refine (HSI.out _).mono ?_
  rintro r w2 ⟨rfl, rfl⟩
  have HFD := Lib.hid (filled_x jk nn (.slice none 0 0) [] w1 (HT.out.next B1.out) (SAt.nil _) (by omega) (by omega) (by decide) (fun s hs => absurd hs List.not_mem_nil) (by simp))
  go_wp2_with fail
  refine HFD.out.mono ?_
  rintro r w2 ⟨x, d, rfl, hF, hD, b2⟩
  obtain ⟨a, c, p, c2, rfl, -, -, -, -⟩ := hD.form
  have f1 := hF.len
  have f2 : d.pend.length = 0 := by rw [hF.check.2.2]; rfl
  have f3 := hF.left
  have f4 := hF.check.2.1
  rw [f1, f2, f3, f4] at hD ⊢
  have R0 : Hid (FuRel nn m w2.heap.size l w (.int .i64 (16 * (m : Int))) (.int .i64 0) (w2.alloc (.cells #[.slice a nn c, .slice p 0 c2, .int .i64 (-1), .bool false] 27))) :=
    ⟨0, 16 * m, [], d, a, c, p, c2, Nat.zero_le _, by congr 1, rfl, Nat.le_refl _, by simp [encA], hF, Bx.new _ _ _ _ _ _, hD.next (Below.new1 _), chain (chain B1.out b2) (Below.new1 _)⟩
  have GG : Hid (w.heap.size ≤ w2.heap.size) := (chain B1.out b2).size
  clear f1 f2 f3 f4 hF hD b2 HFD
  go_wp2_with fail
  refine (HSI.out _).mono ?_
  rintro r w3 ⟨rfl, rfl⟩
  clear HSI e2
  go_wp2_with fail
  go_loopw [8, 9] (fun r i wr => FuRel nn m w2.heap.size l w r i wr) (fun _ i _ => l.length - (intOf i).toNat)
  case atStart => exact R0.out
  case round =>
    clear R0
    obtain ⟨k, rm, q, d, a, c, p, e, hk, rfl, rfl, hq, he, hF, hP, hH, hB⟩ := hrel
    have HF := Lib.hid hF
    have HP := Lib.hid hP
    have HH := Lib.hid hH
    have HB := Lib.hid hB
    have HE := Lib.hid he
    have k0 : (0 : Int) ≤ (k : Int) := by omega
    have r0 : rm ≤ 640 := by omega
    have p0 := hP.c0
    have p1' := hP.c1
    have p2' := hP.c2
    have p3 := hP.c3
    have pl := hP.lt
    clear hF hP hH hB he
    by_cases cc : k < l.length
    case neg =>
      have cc0 : ¬ (k : Int) < (l.length : Int) := by omega
      by_cases t : 2 ≤ rm
      case pos =>
        have t1 : (2 : Int) ≤ (rm : Int) := by omega
        have t0 : decide ((2 : Int) ≤ (rm : Int)) = true := decide_eq_true t1
        obtain ⟨d', q1, q2⟩ := HF.out.more (s := []) (by decide) (by omega) (by
          have m3 : (Wm.encS []).length = 2 := by decide
          have := HE.out; have := HNN.out
          rw [m3]; omega)
        have HAP := Lib.hid (conv_fil (jk.append _ d (mkB []) wr HH.out HF.out.fit (by decide) (HT.out.next HB.out)) q1 q2)
        clear q1 t
        go_wp2_with fail
        refine HAP.out.mono ?_
        rintro r w9 ⟨a5, c5, p5, e5, rfl, h5', b5⟩
        have HB9 := Lib.hid (chain HB.out b5)
        clear h5' b5 p0 p1' p2' p3 pl HAP
        go_wp2_with fail
        go_ret
        exact ⟨by rfl, chain HB9.out (Below.new1 _)⟩
      case neg =>
        have t1 : ¬ (2 : Int) ≤ (rm : Int) := by omega
        have t0 : decide ((2 : Int) ≤ (rm : Int)) = false := decide_eq_false t1
        have q1 := HF.out.full (s := []) (by decide) (by
          have m3 : (Wm.encS []).length = 2 := by decide
          have := HE.out; have := HNN.out
          rw [m3]; omega)
        have HAP := Lib.hid (conv_zero (jk.append _ d (mkB []) wr HH.out HF.out.fit (by decide) (HT.out.next HB.out)) q1)
        clear q1 t
        go_wp2_with fail
        refine HAP.out.mono ?_
        rintro r w9 ⟨a5, c5, p5, e5, rfl, h5', b5⟩
        have HB9 := Lib.hid (chain HB.out b5)
        clear h5' b5 p0 p1' p2' p3 pl HAP
        go_wp2_with fail
        go_ret
        exact ⟨by rfl, chain HB9.out (Below.new1 _)⟩
    case pos =>
      have cc0 : (k : Int) < (l.length : Int) := by omega
      obtain ⟨x, hx⟩ : ∃ s, l[k]? = some s := ⟨_, List.getElem?_eq_getElem cc⟩
      obtain ⟨g, off, rfl, g1, g2⟩ := HG.out k x hx
      have g3 : wr.cell? ⟨g, off + k, none⟩ = some (.string (mkB x)) := by rw [HB.out.cell (p := ⟨g, off + k, none⟩) g1]; exact g2
      have g4 : g < wr.heap.size := Nat.lt_of_lt_of_le g1 HB.out.size
      have GX : Hid (g < w.heap.size ∧ w.cell? ⟨g, off + k, none⟩ = some (.string (mkB x))) := ⟨g1, g2⟩
      have hx1 : x.length ≤ 100 := HS1.out x (List.mem_of_getElem? hx)
      have wg : w2.heap.size ≠ wr.heap.size := by omega
      obtain ⟨nd, hnd⟩ : ∃ y, (Wm.encS x).length = y := ⟨_, rfl⟩
      have nd1 : nd ≤ 104 := by rw [← hnd]; exact encS_100 hx1
      have HND := Lib.hid hnd
      have HST : Hid (∀ W, Calls Tryd.prog 30 #[.string (mkB x)] W fun r w' => r = .returned (.string (mkB (Wm.encS x))) ∧ Below W.heap.size W w') := by
        show ∀ W, _
        intro W
        exact String_x (mkB x) W (by rw [mkB_size]; omega)
      have hsz : (mkB (Wm.encS x)).size = nd := hnd
      clear hx g2 hnd
      by_cases t : nd ≤ rm
      case pos =>
        obtain ⟨d', q1, q2⟩ := HF.out.more (s := x) (by omega) (by omega) (by have := HE.out; have := HNN.out; have := HND.out; omega)
        have HQ := Lib.hid q2
        have hne : (encA (q ++ [x])).length + (rm - nd) = 16 * m := by rw [encA_snoc, List.length_append, HND.out]; have := HE.out; omega
        have HNE := Lib.hid hne
        have t1 : ¬ (rm : Int) < (nd : Int) := by omega
        have t2 : (nd : Int) ≤ (rm : Int) := by omega
        have t3 : (rm : Int) - (nd : Int) = ((rm - nd : Nat) : Int) := by omega
        have T3 := Lib.hid t3
        have HAP : Hid (∀ W, Below w.heap.size w W → DAt W (.agg #[.slice a nn c, .slice p 0 e, .int .i64 (-1), .bool false]) d → Calls Tryd.prog 13 #[.agg #[.slice a nn c, .slice p 0 e, .int .i64 (-1), .bool false], .string (mkB x)] W fun r w' => ∃ a c p c2, r = .returned (.tuple #[.agg #[.slice a nn c, .slice p 0 c2, .int .i64 (-1), .bool false], .int .i64 0]) ∧ DAt w' (.agg #[.slice a nn c, .slice p 0 c2, .int .i64 (-1), .bool false]) d' ∧ Below W.heap.size W w') := by
          show ∀ W, _
          intro W hBl hW
          exact conv_fil (jk.append _ d (mkB x) W hW HF.out.fit (by rw [mkB_size]; omega) (HT.out.next hBl)) q1 q2
        clear q1 q2 hne t3 t
        go_wp2_with fail
        refine wp_region_held_drew (S := fun w' => w'.cell? ⟨w2.heap.size, 0, none⟩ = some (.slice a nn c) ∧ w'.cell? ⟨w2.heap.size, 1, none⟩ = some (.slice p 0 e) ∧ w'.cell? ⟨w2.heap.size, 2, none⟩ = some (.int .i64 (-1)) ∧ w'.cell? ⟨w2.heap.size, 3, none⟩ = some (.bool false) ∧ w'.cell? ⟨g, off + k, none⟩ = some (.string (mkB x))) (by kernel_rfl) ?_ (fun hHeld => ?_)
        · exact ⟨p0, p1', p2', p3, g3⟩
        refine takeN0 (v := ?_) (by kernel_rfl) (by kernel_rfl) (by kernel_rfl) (fun _ _ _ h => h) (by rfl) ?_ (by assumption) ?_
        rotate_left
        · intro wz hSw
          try dsimp only at hSw
          go_simp
          try with_reducible rfl
        try simp only [Act.put, List.setIfInBounds_toArray, List.set_cons_zero, List.set_cons_succ]
        refine takeN1 (v := ?_) (by kernel_rfl) (by kernel_rfl) (by kernel_rfl) (fun _ _ _ h => h) (by rfl) ?_ (by assumption) ?_
        rotate_left
        · intro wz hSw
          try dsimp only at hSw
          go_simp
          try with_reducible rfl
        try simp only [Act.put, List.setIfInBounds_toArray, List.set_cons_zero, List.set_cons_succ]
        refine takeN2 (v := ?_) (by kernel_rfl) (by kernel_rfl) (by kernel_rfl) (fun _ _ _ h => h) (by rfl) ?_ (by assumption) ?_
        rotate_left
        · intro wz hSw
          try dsimp only at hSw
          go_simp
          try with_reducible rfl
        try simp only [Act.put, List.setIfInBounds_toArray, List.set_cons_zero, List.set_cons_succ]
        refine takeN3 (v := ?_) (by kernel_rfl) (by kernel_rfl) (by kernel_rfl) (fun _ _ _ h => h) (by rfl) ?_ (by assumption) ?_
        rotate_left
        · intro wz hSw
          try dsimp only at hSw
          go_simp
          try with_reducible rfl
        try simp only [Act.put, List.setIfInBounds_toArray, List.set_cons_zero, List.set_cons_succ]
        refine takeN4 (v := ?_) (by kernel_rfl) (by kernel_rfl) (by kernel_rfl) (fun _ _ _ h => h) (by rfl) ?_ (by assumption) ?_
        rotate_left
        · intro wz hSw
          try dsimp only at hSw
          go_simp
          try with_reducible rfl
        try simp only [Act.put, List.setIfInBounds_toArray, List.set_cons_zero, List.set_cons_succ]
        have P1 := Lib.hid (HP.out.next (Below.refl _ _).drew)
        have H1 := Lib.hid (HH.out.next (Below.refl _ _).drew)
        have B2 := Lib.hid (chain HB.out (Below.refl _ _).drew)
        refine wpAnyH_ready (rs := [5, 9]) (by kernel_rfl) (by simp) (AllReadyH.cons rfl (fun K hK => ?_) (AllReadyH.cons rfl (fun K hK => ?_) AllReadyH.nil))
        · rw [if_pos (by rfl)]
          go_simp
          (go_at_call 13; refine (HAP.out _ B2.out H1.out).mono ?_; rintro r w5 ⟨a5, c5, p5, e5, rfl, h5', b5⟩)
          try go_wp2_with fail
          have P5 := Lib.hid (P1.out.next b5)
          have B5 := Lib.hid (chain B2.out b5)
          have H5 := Lib.hid h5'
          clear h5' b5
          refine hK.out _ _ ?_ (fun hHeld => ?_)
          · exact ⟨P5.out.c0, P5.out.c1, P5.out.c2, P5.out.c3, (B5.out.cell (p := ⟨g, off + k, none⟩) GX.out.1).trans GX.out.2⟩
          clear hK K
          try simp only [Act.put, List.setIfInBounds_toArray, List.set_cons_zero, List.set_cons_succ]
          refine takeN6 (v := ?_) (by kernel_rfl) (by kernel_rfl) (by kernel_rfl) (fun _ _ _ h => h) (by rfl) ?_ (by assumption) ?_
          rotate_left
          · intro wz hSw
            try dsimp only at hSw
            go_simp
            try with_reducible rfl
          try simp only [Act.put, List.setIfInBounds_toArray, List.set_cons_zero, List.set_cons_succ]
          refine takeN7 (v := ?_) (by kernel_rfl) (by kernel_rfl) (by kernel_rfl) (fun _ _ _ h => h) (by rfl) ?_ (by assumption) ?_
          rotate_left
          · intro wz hSw
            try dsimp only at hSw
            go_simp
            try with_reducible rfl
          try simp only [Act.put, List.setIfInBounds_toArray, List.set_cons_zero, List.set_cons_succ]
          refine takeN8 (v := ?_) (by kernel_rfl) (by kernel_rfl) (by kernel_rfl) (fun _ _ _ h => h) (by rfl) ?_ (by assumption) ?_
          rotate_left
          · intro wz hSw
            try dsimp only at hSw
            go_simp
            try with_reducible rfl
          try simp only [Act.put, List.setIfInBounds_toArray, List.set_cons_zero, List.set_cons_succ]
          refine comeN9 (by kernel_rfl) (by rfl) (fun K hK => ?_)
          go_simp
          have P6 := Lib.hid (P5.out.next (Below.new1 (.cells #[.slice none 0 0, .slice none 0 0, .int .i64 0, .bool false] 27)))
          have B6 := Lib.hid (chain B5.out (Below.new1 (.cells #[.slice none 0 0, .slice none 0 0, .int .i64 0, .bool false] 27)))
          refine hK.out _ _ ?_ (fun hHeld => ?_)
          · exact ⟨P6.out.c0, P6.out.c1, P6.out.c2, P6.out.c3, (B6.out.cell (p := ⟨g, off + k, none⟩) GX.out.1).trans GX.out.2⟩
          clear hK K
          try simp only [Act.put, List.setIfInBounds_toArray, List.set_cons_zero, List.set_cons_succ]
          refine comeN10 (by kernel_rfl) (by rfl) (fun K hK => ?_)
          go_simp
          have P7 := Lib.hid (P5.out.next (Below.new1 (.cells #[.slice a5 nn c5, .slice p5 0 e5, .int .i64 (-1), .bool false] 27)))
          have B7 := Lib.hid (chain B5.out (Below.new1 (.cells #[.slice a5 nn c5, .slice p5 0 e5, .int .i64 (-1), .bool false] 27)))
          have N7 := Lib.hid (Bx.new w5 (.slice a5 nn c5) (.slice p5 0 e5) (-1) false 27)
          have H7 := Lib.hid (H5.out.next (Below.new1 (.cells #[.slice a5 nn c5, .slice p5 0 e5, .int .i64 (-1), .bool false] 27)))

          refine hK.out _ _ ?_ (fun hHeld => ?_)
          · exact ⟨P7.out.c0, P7.out.c1, P7.out.c2, P7.out.c3, (B7.out.cell (p := ⟨g, off + k, none⟩) GX.out.1).trans GX.out.2⟩
          clear hK K
          try simp only [Act.put, List.setIfInBounds_toArray, List.set_cons_zero, List.set_cons_succ]
          refine takeN11 (v := ?_) (by kernel_rfl) (by kernel_rfl) (by kernel_rfl) (fun _ _ _ h => h) (by rfl) ?_ (by assumption) ?_
          rotate_left
          · intro wz hSw
            try dsimp only at hSw
            go_simp
            try with_reducible rfl
          try simp only [Act.put, List.setIfInBounds_toArray, List.set_cons_zero, List.set_cons_succ]
          clear p0 p1' p2' p3 pl g3 g4
          refine wpAnyH_done (by kernel_rfl) ?_ _
          have pl := P7.out.lt
          have GG2 := Lib.hid (B7.out.cell (p := ⟨g, off + k, none⟩) GX.out.1)
          have g3 : (w5.alloc (.cells #[.slice a5 nn c5, .slice p5 0 e5, .int .i64 (-1), .bool false] 27)).cell? ⟨g, off + k, none⟩ = some (.string (mkB x)) := by rw [GG2.out]; exact GX.out.2
          have g4 : g < (w5.alloc (.cells #[.slice a5 nn c5, .slice p5 0 e5, .int .i64 (-1), .bool false] 27)).heap.size := Nat.lt_of_lt_of_le GX.out.1 B7.out.size
          go_wp2_with fail
          refine (HST.out _).mono ?_
          rintro r w8 ⟨rfl, b8⟩
          have P8 := Lib.hid (P7.out.next b8)
          have B8 := Lib.hid (chain B7.out b8)
          have N8 := Lib.hid (N7.out.next b8)
          have H8 := Lib.hid (H7.out.next b8)
          clear b8 pl g3 g4
          have p0 := P8.out.c0
          have p1' := P8.out.c1
          have p2' := P8.out.c2
          have p3 := P8.out.c3
          have pl := P8.out.lt
          have pf := P8.out.fz
          have n0 := N8.out.c0
          have n1 := N8.out.c1
          have n2 := N8.out.c2
          have n3 := N8.out.c3
          have nl := N8.out.lt
          have P9 := Lib.hid (P8.out.put (.slice a5 nn c5) (.slice p5 0 e5) (-1) false)
          have H9 := Lib.hid (H8.out.put P8.out (fun s => by simp) (fun s => by simp) (.slice a5 nn c5) (.slice p5 0 e5) (-1) false)
          have B9 := Lib.hid (below_put B8.out (g := w2.heap.size) (by have := GG.out; omega) (.slice a5 nn c5) (.slice p5 0 e5) (-1) false)
          go_wp2_with fail
          go_roundw
          case rel => exact ⟨k + 1, rm - nd, q ++ [x], d', a5, c5, p5, e5, by omega, by congr 1, by congr 1, by rw [List.length_append, List.length_singleton]; omega, HNE.out, HQ.out, P9.out, H9.out, B9.out⟩
          case measure => simp [intOf]; omega
        · rw [if_pos (by rfl)]
          go_simp
          have P2 := Lib.hid (P1.out.next (Below.new1 (.cells #[.slice none 0 0, .slice none 0 0, .int .i64 0, .bool false] 27)))
          have H2 := Lib.hid (H1.out.next (Below.new1 (.cells #[.slice none 0 0, .slice none 0 0, .int .i64 0, .bool false] 27)))
          have B3 := Lib.hid (chain B2.out (Below.new1 (.cells #[.slice none 0 0, .slice none 0 0, .int .i64 0, .bool false] 27)))
          have N2 : Hid (Bx (.slice none 0 0) (.slice none 0 0) 0 false wr.heap.size (wr.drew.alloc (.cells #[.slice none 0 0, .slice none 0 0, .int .i64 0, .bool false] 27))) := Bx.new wr.drew (.slice none 0 0) (.slice none 0 0) 0 false 27
          refine hK.out _ _ ?_ (fun hHeld => ?_)
          · exact ⟨P2.out.c0, P2.out.c1, P2.out.c2, P2.out.c3, (B3.out.cell (p := ⟨g, off + k, none⟩) GX.out.1).trans GX.out.2⟩
          clear hK K
          try simp only [Act.put, List.setIfInBounds_toArray, List.set_cons_zero, List.set_cons_succ]
          refine comeN5 (by kernel_rfl) (by rfl) (fun K hK => ?_)
          go_simp
          (go_at_call 13; refine (HAP.out _ B3.out H2.out).mono ?_; rintro r w5 ⟨a5, c5, p5, e5, rfl, h5', b5⟩)
          try go_wp2_with fail
          have P5 := Lib.hid (P2.out.next b5)
          have B5 := Lib.hid (chain B3.out b5)
          have H5 := Lib.hid h5'
          have N5 := Lib.hid (N2.out.next b5)
          clear h5' b5
          refine hK.out _ _ ?_ (fun hHeld => ?_)
          · exact ⟨P5.out.c0, P5.out.c1, P5.out.c2, P5.out.c3, (B5.out.cell (p := ⟨g, off + k, none⟩) GX.out.1).trans GX.out.2⟩
          clear hK K
          try simp only [Act.put, List.setIfInBounds_toArray, List.set_cons_zero, List.set_cons_succ]
          refine takeN6 (v := ?_) (by kernel_rfl) (by kernel_rfl) (by kernel_rfl) (fun _ _ _ h => h) (by rfl) ?_ (by assumption) ?_
          rotate_left
          · intro wz hSw
            try dsimp only at hSw
            go_simp
            try with_reducible rfl
          try simp only [Act.put, List.setIfInBounds_toArray, List.set_cons_zero, List.set_cons_succ]
          refine takeN7 (v := ?_) (by kernel_rfl) (by kernel_rfl) (by kernel_rfl) (fun _ _ _ h => h) (by rfl) ?_ (by assumption) ?_
          rotate_left
          · intro wz hSw
            try dsimp only at hSw
            go_simp
            try with_reducible rfl
          try simp only [Act.put, List.setIfInBounds_toArray, List.set_cons_zero, List.set_cons_succ]
          refine takeN8 (v := ?_) (by kernel_rfl) (by kernel_rfl) (by kernel_rfl) (fun _ _ _ h => h) (by rfl) ?_ (by assumption) ?_
          rotate_left
          · intro wz hSw
            try dsimp only at hSw
            go_simp
            try with_reducible rfl
          try simp only [Act.put, List.setIfInBounds_toArray, List.set_cons_zero, List.set_cons_succ]
          refine comeN10 (by kernel_rfl) (by rfl) (fun K hK => ?_)
          have n0 := N5.out.c0
          have n1 := N5.out.c1
          have n2 := N5.out.c2
          have n3 := N5.out.c3
          have nl := N5.out.lt
          have nf := N5.out.fz
          go_simp
          have P7 := Lib.hid (P5.out.putO (g := wr.heap.size) wg (.slice a5 nn c5) (.slice p5 0 e5) (-1) false)
          have B7 := Lib.hid (below_put B5.out (g := wr.heap.size) (by have := HB.out.size; omega) (.slice a5 nn c5) (.slice p5 0 e5) (-1) false)
          have N7 := Lib.hid (N5.out.put (.slice a5 nn c5) (.slice p5 0 e5) (-1) false)
          have H7 := Lib.hid (H5.out.put N5.out (fun s => by simp) (fun s => by simp) (.slice a5 nn c5) (.slice p5 0 e5) (-1) false)
          clear n0 n1 n2 n3 nl nf
          refine hK.out _ _ ?_ (fun hHeld => ?_)
          · exact ⟨P7.out.c0, P7.out.c1, P7.out.c2, P7.out.c3, (B7.out.cell (p := ⟨g, off + k, none⟩) GX.out.1).trans GX.out.2⟩
          clear hK K
          try simp only [Act.put, List.setIfInBounds_toArray, List.set_cons_zero, List.set_cons_succ]
          refine takeN11 (v := ?_) (by kernel_rfl) (by kernel_rfl) (by kernel_rfl) (fun _ _ _ h => h) (by rfl) ?_ (by assumption) ?_
          rotate_left
          · intro wz hSw
            try dsimp only at hSw
            go_simp
            try with_reducible rfl
          try simp only [Act.put, List.setIfInBounds_toArray, List.set_cons_zero, List.set_cons_succ]
          clear p0 p1' p2' p3 pl g3 g4
          refine wpAnyH_done (by kernel_rfl) ?_ _
          have pl := P7.out.lt
          have GG2 := Lib.hid (B7.out.cell (p := ⟨g, off + k, none⟩) GX.out.1)
          have g3 : (put4 w5 wr.heap.size (.slice a5 nn c5) (.slice p5 0 e5) (-1) false).cell? ⟨g, off + k, none⟩ = some (.string (mkB x)) := by rw [GG2.out]; exact GX.out.2
          have g4 : g < (put4 w5 wr.heap.size (.slice a5 nn c5) (.slice p5 0 e5) (-1) false).heap.size := Nat.lt_of_lt_of_le GX.out.1 B7.out.size
          go_wp2_with fail
          refine (HST.out _).mono ?_
          rintro r w8 ⟨rfl, b8⟩
          have P8 := Lib.hid (P7.out.next b8)
          have B8 := Lib.hid (chain B7.out b8)
          have N8 := Lib.hid (N7.out.next b8)
          have H8 := Lib.hid (H7.out.next b8)
          clear b8 pl g3 g4
          have p0 := P8.out.c0
          have p1' := P8.out.c1
          have p2' := P8.out.c2
          have p3 := P8.out.c3
          have pl := P8.out.lt
          have pf := P8.out.fz
          have n0 := N8.out.c0
          have n1 := N8.out.c1
          have n2 := N8.out.c2
          have n3 := N8.out.c3
          have nl := N8.out.lt
          have P9 := Lib.hid (P8.out.put (.slice a5 nn c5) (.slice p5 0 e5) (-1) false)
          have H9 := Lib.hid (H8.out.put P8.out (fun s => by simp) (fun s => by simp) (.slice a5 nn c5) (.slice p5 0 e5) (-1) false)
          have B9 := Lib.hid (below_put B8.out (g := w2.heap.size) (by have := GG.out; omega) (.slice a5 nn c5) (.slice p5 0 e5) (-1) false)
          go_wp2_with fail
          go_roundw
          case rel => exact ⟨k + 1, rm - nd, q ++ [x], d', a5, c5, p5, e5, by omega, by congr 1, by congr 1, by rw [List.length_append, List.length_singleton]; omega, HNE.out, HQ.out, P9.out, H9.out, B9.out⟩
          case measure => simp [intOf]; omega
      case neg =>
        have q1 := HF.out.full (s := x) (by omega) (by have := HE.out; have := HNN.out; have := HND.out; omega)
        have t1 : (rm : Int) < (nd : Int) := by omega
        have HAP : Hid (∀ W, Below w.heap.size w W → DAt W (.agg #[.slice a nn c, .slice p 0 e, .int .i64 (-1), .bool false]) d → Calls Tryd.prog 13 #[.agg #[.slice a nn c, .slice p 0 e, .int .i64 (-1), .bool false], .string (mkB x)] W fun r w' => ∃ a c p c2, r = .returned (.tuple #[.agg #[.slice a 0 c, .slice p 0 c2, .int .i64 0, .bool false], .int .i64 6]) ∧ DAt w' (.agg #[.slice a 0 c, .slice p 0 c2, .int .i64 0, .bool false]) D0 ∧ Below W.heap.size W w') := by
          show ∀ W, _
          intro W hBl hW
          exact conv_zero (jk.append _ d (mkB x) W hW HF.out.fit (by rw [mkB_size]; omega) (HT.out.next hBl)) q1
        clear q1 t
        go_wp2_with fail
        refine wp_region_held_drew (S := fun w' => w'.cell? ⟨w2.heap.size, 0, none⟩ = some (.slice a nn c) ∧ w'.cell? ⟨w2.heap.size, 1, none⟩ = some (.slice p 0 e) ∧ w'.cell? ⟨w2.heap.size, 2, none⟩ = some (.int .i64 (-1)) ∧ w'.cell? ⟨w2.heap.size, 3, none⟩ = some (.bool false) ∧ w'.cell? ⟨g, off + k, none⟩ = some (.string (mkB x))) (by kernel_rfl) ?_ (fun hHeld => ?_)
        · exact ⟨p0, p1', p2', p3, g3⟩
        refine takeN0 (v := ?_) (by kernel_rfl) (by kernel_rfl) (by kernel_rfl) (fun _ _ _ h => h) (by rfl) ?_ (by assumption) ?_
        rotate_left
        · intro wz hSw
          try dsimp only at hSw
          go_simp
          try with_reducible rfl
        try simp only [Act.put, List.setIfInBounds_toArray, List.set_cons_zero, List.set_cons_succ]
        refine takeN1 (v := ?_) (by kernel_rfl) (by kernel_rfl) (by kernel_rfl) (fun _ _ _ h => h) (by rfl) ?_ (by assumption) ?_
        rotate_left
        · intro wz hSw
          try dsimp only at hSw
          go_simp
          try with_reducible rfl
        try simp only [Act.put, List.setIfInBounds_toArray, List.set_cons_zero, List.set_cons_succ]
        refine takeN2 (v := ?_) (by kernel_rfl) (by kernel_rfl) (by kernel_rfl) (fun _ _ _ h => h) (by rfl) ?_ (by assumption) ?_
        rotate_left
        · intro wz hSw
          try dsimp only at hSw
          go_simp
          try with_reducible rfl
        try simp only [Act.put, List.setIfInBounds_toArray, List.set_cons_zero, List.set_cons_succ]
        refine takeN3 (v := ?_) (by kernel_rfl) (by kernel_rfl) (by kernel_rfl) (fun _ _ _ h => h) (by rfl) ?_ (by assumption) ?_
        rotate_left
        · intro wz hSw
          try dsimp only at hSw
          go_simp
          try with_reducible rfl
        try simp only [Act.put, List.setIfInBounds_toArray, List.set_cons_zero, List.set_cons_succ]
        refine takeN4 (v := ?_) (by kernel_rfl) (by kernel_rfl) (by kernel_rfl) (fun _ _ _ h => h) (by rfl) ?_ (by assumption) ?_
        rotate_left
        · intro wz hSw
          try dsimp only at hSw
          go_simp
          try with_reducible rfl
        try simp only [Act.put, List.setIfInBounds_toArray, List.set_cons_zero, List.set_cons_succ]
        have P1 := Lib.hid (HP.out.next (Below.refl _ _).drew)
        have H1 := Lib.hid (HH.out.next (Below.refl _ _).drew)
        have B2 := Lib.hid (chain HB.out (Below.refl _ _).drew)
        refine wpAnyH_ready (rs := [5, 9]) (by kernel_rfl) (by simp) (AllReadyH.cons rfl (fun K hK => ?_) (AllReadyH.cons rfl (fun K hK => ?_) AllReadyH.nil))
        · rw [if_pos (by rfl)]
          go_simp
          (go_at_call 13; refine (HAP.out _ B2.out H1.out).mono ?_; rintro r w5 ⟨a5, c5, p5, e5, rfl, h5', b5⟩)
          try go_wp2_with fail
          have P5 := Lib.hid (P1.out.next b5)
          have B5 := Lib.hid (chain B2.out b5)
          have H5 := Lib.hid h5'
          have HH5 := Lib.hid (H1.out.next b5)
          clear h5' b5
          refine hK.out _ _ ?_ (fun hHeld => ?_)
          · exact ⟨P5.out.c0, P5.out.c1, P5.out.c2, P5.out.c3, (B5.out.cell (p := ⟨g, off + k, none⟩) GX.out.1).trans GX.out.2⟩
          clear hK K
          try simp only [Act.put, List.setIfInBounds_toArray, List.set_cons_zero, List.set_cons_succ]
          refine takeN6 (v := ?_) (by kernel_rfl) (by kernel_rfl) (by kernel_rfl) (fun _ _ _ h => h) (by rfl) ?_ (by assumption) ?_
          rotate_left
          · intro wz hSw
            try dsimp only at hSw
            go_simp
            try with_reducible rfl
          try simp only [Act.put, List.setIfInBounds_toArray, List.set_cons_zero, List.set_cons_succ]
          refine takeN7 (v := ?_) (by kernel_rfl) (by kernel_rfl) (by kernel_rfl) (fun _ _ _ h => h) (by rfl) ?_ (by assumption) ?_
          rotate_left
          · intro wz hSw
            try dsimp only at hSw
            go_simp
            try with_reducible rfl
          try simp only [Act.put, List.setIfInBounds_toArray, List.set_cons_zero, List.set_cons_succ]
          refine takeN8 (v := ?_) (by kernel_rfl) (by kernel_rfl) (by kernel_rfl) (fun _ _ _ h => h) (by rfl) ?_ (by assumption) ?_
          rotate_left
          · intro wz hSw
            try dsimp only at hSw
            go_simp
            try with_reducible rfl
          try simp only [Act.put, List.setIfInBounds_toArray, List.set_cons_zero, List.set_cons_succ]
          refine comeN9 (by kernel_rfl) (by rfl) (fun K hK => ?_)
          go_simp
          have P6 := Lib.hid (P5.out.next (Below.new1 (.cells #[.slice none 0 0, .slice none 0 0, .int .i64 0, .bool false] 27)))
          have B6 := Lib.hid (chain B5.out (Below.new1 (.cells #[.slice none 0 0, .slice none 0 0, .int .i64 0, .bool false] 27)))
          refine hK.out _ _ ?_ (fun hHeld => ?_)
          · exact ⟨P6.out.c0, P6.out.c1, P6.out.c2, P6.out.c3, (B6.out.cell (p := ⟨g, off + k, none⟩) GX.out.1).trans GX.out.2⟩
          clear hK K
          try simp only [Act.put, List.setIfInBounds_toArray, List.set_cons_zero, List.set_cons_succ]
          refine comeN10 (by kernel_rfl) (by rfl) (fun K hK => ?_)
          go_simp
          have P7 := Lib.hid (P5.out.next (Below.new1 (.cells #[.slice a5 0 c5, .slice p5 0 e5, .int .i64 0, .bool false] 27)))
          have B7 := Lib.hid (chain B5.out (Below.new1 (.cells #[.slice a5 0 c5, .slice p5 0 e5, .int .i64 0, .bool false] 27)))
          have N7 := Lib.hid (Bx.new w5 (.slice a5 0 c5) (.slice p5 0 e5) 0 false 27)
          have H7 := Lib.hid (H5.out.next (Below.new1 (.cells #[.slice a5 0 c5, .slice p5 0 e5, .int .i64 0, .bool false] 27)))
          have HH7 := Lib.hid (HH5.out.next (Below.new1 (.cells #[.slice a5 0 c5, .slice p5 0 e5, .int .i64 0, .bool false] 27)))

          refine hK.out _ _ ?_ (fun hHeld => ?_)
          · exact ⟨P7.out.c0, P7.out.c1, P7.out.c2, P7.out.c3, (B7.out.cell (p := ⟨g, off + k, none⟩) GX.out.1).trans GX.out.2⟩
          clear hK K
          try simp only [Act.put, List.setIfInBounds_toArray, List.set_cons_zero, List.set_cons_succ]
          refine takeN11 (v := ?_) (by kernel_rfl) (by kernel_rfl) (by kernel_rfl) (fun _ _ _ h => h) (by rfl) ?_ (by assumption) ?_
          rotate_left
          · intro wz hSw
            try dsimp only at hSw
            go_simp
            try with_reducible rfl
          try simp only [Act.put, List.setIfInBounds_toArray, List.set_cons_zero, List.set_cons_succ]
          clear p0 p1' p2' p3 pl g3 g4
          refine wpAnyH_done (by kernel_rfl) ?_ _
          have pl := P7.out.lt
          have GG2 := Lib.hid (B7.out.cell (p := ⟨g, off + k, none⟩) GX.out.1)
          have g3 : (w5.alloc (.cells #[.slice a5 0 c5, .slice p5 0 e5, .int .i64 0, .bool false] 27)).cell? ⟨g, off + k, none⟩ = some (.string (mkB x)) := by rw [GG2.out]; exact GX.out.2
          have g4 : g < (w5.alloc (.cells #[.slice a5 0 c5, .slice p5 0 e5, .int .i64 0, .bool false] 27)).heap.size := Nat.lt_of_lt_of_le GX.out.1 B7.out.size
          go_wp2_with fail
          refine (HST.out _).mono ?_
          rintro r w8 ⟨rfl, b8⟩
          have P8 := Lib.hid (P7.out.next b8)
          have B8 := Lib.hid (chain B7.out b8)
          have N8 := Lib.hid (N7.out.next b8)
          have H8 := Lib.hid (H7.out.next b8)
          have HH8 := Lib.hid (HH7.out.next b8)
          clear b8 pl g3 g4
          go_wp2_with fail
          go_roundw
          case rel => exact ⟨k + 1, rm, q, d, a, c, p, e, by omega, rfl, by congr 1, by omega, HE.out, HF.out, P8.out, HH8.out, B8.out⟩
          case measure => simp [intOf]; omega
        · rw [if_pos (by rfl)]
          go_simp
          have P2 := Lib.hid (P1.out.next (Below.new1 (.cells #[.slice none 0 0, .slice none 0 0, .int .i64 0, .bool false] 27)))
          have H2 := Lib.hid (H1.out.next (Below.new1 (.cells #[.slice none 0 0, .slice none 0 0, .int .i64 0, .bool false] 27)))
          have B3 := Lib.hid (chain B2.out (Below.new1 (.cells #[.slice none 0 0, .slice none 0 0, .int .i64 0, .bool false] 27)))
          have N2 : Hid (Bx (.slice none 0 0) (.slice none 0 0) 0 false wr.heap.size (wr.drew.alloc (.cells #[.slice none 0 0, .slice none 0 0, .int .i64 0, .bool false] 27))) := Bx.new wr.drew (.slice none 0 0) (.slice none 0 0) 0 false 27
          refine hK.out _ _ ?_ (fun hHeld => ?_)
          · exact ⟨P2.out.c0, P2.out.c1, P2.out.c2, P2.out.c3, (B3.out.cell (p := ⟨g, off + k, none⟩) GX.out.1).trans GX.out.2⟩
          clear hK K
          try simp only [Act.put, List.setIfInBounds_toArray, List.set_cons_zero, List.set_cons_succ]
          refine comeN5 (by kernel_rfl) (by rfl) (fun K hK => ?_)
          go_simp
          (go_at_call 13; refine (HAP.out _ B3.out H2.out).mono ?_; rintro r w5 ⟨a5, c5, p5, e5, rfl, h5', b5⟩)
          try go_wp2_with fail
          have P5 := Lib.hid (P2.out.next b5)
          have B5 := Lib.hid (chain B3.out b5)
          have H5 := Lib.hid h5'
          have N5 := Lib.hid (N2.out.next b5)
          have HH5 := Lib.hid (H2.out.next b5)
          clear h5' b5
          refine hK.out _ _ ?_ (fun hHeld => ?_)
          · exact ⟨P5.out.c0, P5.out.c1, P5.out.c2, P5.out.c3, (B5.out.cell (p := ⟨g, off + k, none⟩) GX.out.1).trans GX.out.2⟩
          clear hK K
          try simp only [Act.put, List.setIfInBounds_toArray, List.set_cons_zero, List.set_cons_succ]
          refine takeN6 (v := ?_) (by kernel_rfl) (by kernel_rfl) (by kernel_rfl) (fun _ _ _ h => h) (by rfl) ?_ (by assumption) ?_
          rotate_left
          · intro wz hSw
            try dsimp only at hSw
            go_simp
            try with_reducible rfl
          try simp only [Act.put, List.setIfInBounds_toArray, List.set_cons_zero, List.set_cons_succ]
          refine takeN7 (v := ?_) (by kernel_rfl) (by kernel_rfl) (by kernel_rfl) (fun _ _ _ h => h) (by rfl) ?_ (by assumption) ?_
          rotate_left
          · intro wz hSw
            try dsimp only at hSw
            go_simp
            try with_reducible rfl
          try simp only [Act.put, List.setIfInBounds_toArray, List.set_cons_zero, List.set_cons_succ]
          refine takeN8 (v := ?_) (by kernel_rfl) (by kernel_rfl) (by kernel_rfl) (fun _ _ _ h => h) (by rfl) ?_ (by assumption) ?_
          rotate_left
          · intro wz hSw
            try dsimp only at hSw
            go_simp
            try with_reducible rfl
          try simp only [Act.put, List.setIfInBounds_toArray, List.set_cons_zero, List.set_cons_succ]
          refine comeN10 (by kernel_rfl) (by rfl) (fun K hK => ?_)
          have n0 := N5.out.c0
          have n1 := N5.out.c1
          have n2 := N5.out.c2
          have n3 := N5.out.c3
          have nl := N5.out.lt
          have nf := N5.out.fz
          go_simp
          have P7 := Lib.hid (P5.out.putO (g := wr.heap.size) wg (.slice a5 0 c5) (.slice p5 0 e5) 0 false)
          have B7 := Lib.hid (below_put B5.out (g := wr.heap.size) (by have := HB.out.size; omega) (.slice a5 0 c5) (.slice p5 0 e5) 0 false)
          have N7 := Lib.hid (N5.out.put (.slice a5 0 c5) (.slice p5 0 e5) 0 false)
          have H7 := Lib.hid (H5.out.put N5.out (fun s => by simp) (fun s => by simp) (.slice a5 0 c5) (.slice p5 0 e5) 0 false)
          have HH7 := Lib.hid (HH5.out.put N5.out (fun s => by simp) (fun s => by simp) (.slice a5 0 c5) (.slice p5 0 e5) 0 false)
          clear n0 n1 n2 n3 nl nf
          refine hK.out _ _ ?_ (fun hHeld => ?_)
          · exact ⟨P7.out.c0, P7.out.c1, P7.out.c2, P7.out.c3, (B7.out.cell (p := ⟨g, off + k, none⟩) GX.out.1).trans GX.out.2⟩
          clear hK K
          try simp only [Act.put, List.setIfInBounds_toArray, List.set_cons_zero, List.set_cons_succ]
          refine takeN11 (v := ?_) (by kernel_rfl) (by kernel_rfl) (by kernel_rfl) (fun _ _ _ h => h) (by rfl) ?_ (by assumption) ?_
          rotate_left
          · intro wz hSw
            try dsimp only at hSw
            go_simp
            try with_reducible rfl
          try simp only [Act.put, List.setIfInBounds_toArray, List.set_cons_zero, List.set_cons_succ]
          clear p0 p1' p2' p3 pl g3 g4
          refine wpAnyH_done (by kernel_rfl) ?_ _
          have pl := P7.out.lt
          have GG2 := Lib.hid (B7.out.cell (p := ⟨g, off + k, none⟩) GX.out.1)
          have g3 : (put4 w5 wr.heap.size (.slice a5 0 c5) (.slice p5 0 e5) 0 false).cell? ⟨g, off + k, none⟩ = some (.string (mkB x)) := by rw [GG2.out]; exact GX.out.2
          have g4 : g < (put4 w5 wr.heap.size (.slice a5 0 c5) (.slice p5 0 e5) 0 false).heap.size := Nat.lt_of_lt_of_le GX.out.1 B7.out.size
          go_wp2_with fail
          refine (HST.out _).mono ?_
          rintro r w8 ⟨rfl, b8⟩
          have P8 := Lib.hid (P7.out.next b8)
          have B8 := Lib.hid (chain B7.out b8)
          have N8 := Lib.hid (N7.out.next b8)
          have H8 := Lib.hid (H7.out.next b8)
          have HH8 := Lib.hid (HH7.out.next b8)
          clear b8 pl g3 g4
          go_wp2_with fail
          go_roundw
          case rel => exact ⟨k + 1, rm, q, d, a, c, p, e, by omega, rfl, by congr 1, by omega, HE.out, HF.out, P8.out, HH8.out, B8.out⟩
          case measure => simp [intOf]; omega

end Go.Proofs.YtemldlhhlneleaaDoor.Jn
