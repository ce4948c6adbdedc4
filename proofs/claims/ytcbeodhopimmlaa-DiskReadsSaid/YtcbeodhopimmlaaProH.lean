/-
  The program: New; the contracts of the layer.
-/
import Derived.Test.YtcbeodhopimmlaaProF
import Derived.Test.YtcbeodhopimmlaaProG
import Derived.Laws.CopyOwn
namespace Go.Proofs.Ytcbeodhopimmlaa
open Go.RowKit Dk

theorem Row.heap {W : World} {g : Nat} {cur : List Value} {T : TypeId} {l : List Value} (h : W.heap[g]? = some (.cells cur.toArray T (0, 0))) (hc : ∀ (j : Nat) (v : Value), l[j]? = some v → cur[j]? = some v) : Row W g l :=
  ⟨(Array.getElem?_eq_some_iff.1 h).1, fun j v hv => by simp [World.cell?, h, hc j v hv], fun j hj => by simp [World.frozen?, h]⟩
theorem made_heap {W : World} {base g n : Nat} {T : TypeId} {xs : List Value} (h : W.ownsRow base T 1 (.slice (some ⟨g, 0, none⟩) n n) n xs) : ∃ cur : List Value, cur.length = n ∧ W.heap[g]? = some (.cells cur.toArray T (0, 0)) := by
  rcases h.2 with ⟨e, h0⟩ | ⟨g', cap, cur, e, -, h3, -, -, h5, -⟩
  · cases e
  · simp only [Value.slice.injEq, Option.some.injEq, Addr.mk.injEq] at e
    obtain ⟨⟨rfl, -, -⟩, -, rfl⟩ := e
    exact ⟨cur.toList, by simpa using h5, by simpa using h3⟩
theorem step_cp {P : Program} {o : Oper} {a : Act} {w : World} {K : Act → World → Prop} {Q : Exit → Act → World → Prop} (hgd : o.guard = none) (d s : Operand) (T : TypeId)
    (ho : o.op = .call { callee := .builtin .copy, args := #[d, s], argTypes := #[T, T] }) (el : TypeId) (hu : P.underlying T = some (.slice el)) (hsz : (P.info? el).map (·.size) = some 1) (g k m n : Nat)
    (hd : a.eval d = .slice (some ⟨g, k, none⟩) m m) (hs : a.eval s = .slice (some ⟨g, 0, none⟩) k n) (cur cs : List Value) (t : TypeId) (hg : w.heap[g]? = some (.cells cur.toArray t (0, 0))) (hn : cs.length = Nat.min k m)
    (hcs : ∀ j v, cs[j]? = some v → w.cell? ((⟨g, 0, none⟩ : Addr).add j) = some v) (hfit : k + cs.length ≤ cur.length) (h1 : ∀ v ∈ cs, v.oneCell' = true) (B : Nat) (w0 : World) (hb : Below B w0 w) (hBg : B ≤ g)
    (h : ∀ w', Hid (w'.heap[g]? = some (.cells (splice cur k cs).toArray t (0, 0))) → Below B w0 w' → K (a.put o.dst (goInt cs.length)) w') : Oper.wp P o a w K Q := by
  have hr := step_copy_splice (ops := #[]) (E := True) (Q := Q) hgd d s T T ho el hu hsz _ _ m m k n hd hs g k cur t hg cs hn (fun _ => ⟨rfl, _, rfl, hcs⟩) hfit h1 B w0 hb hBg h
  rw [if_pos (by simp [Region.wanted, hgd])] at hr
  exact hr
theorem splice_get {L cs : List Value} {k j : Nat} {x : Value} (hL : ∀ i, i < k → L[i]? = some x) (hcs : ∀ v ∈ cs, v = x) (hk : k + cs.length ≤ L.length) (hj : j < k + cs.length) : (splice L k cs)[j]? = some x := by
  unfold splice
  rw [List.getElem?_append]
  have ht : (L.take k).length = k := by rw [List.length_take]; omega
  rw [ht]
  by_cases c : j < k
  · rw [if_pos c, List.getElem?_take_of_lt c]; exact hL j c
  · rw [if_neg c, List.getElem?_append, if_pos (by omega), List.getElem?_eq_getElem (by omega)]
    rw [hcs _ (List.getElem_mem _)]

def RpRel (s : B) (n g : Nat) (w : World) (i : Value) (wr : World) : Prop := ∃ (k : Nat) (cur : List Value), i = .int .i64 (k : Int) ∧ 1 ≤ k ∧ k ≤ n ∧ cur.length = n ∧ (∀ j, j < k → cur[j]? = some (.string s)) ∧ Hid (wr.heap[g]? = some (.cells cur.toArray 9 (0, 0))) ∧ Below w.heap.size w wr

set_option maxHeartbeats 3200000 in
set_option maxRecDepth 100000 in
theorem repeat_x (s : B) (b n : Nat) (w : World) (hc : w.cell? ⟨b, 0, none⟩ = some (.string s)) (hb : b < w.heap.size) (h1 : 1 ≤ n) (hn : n ≤ 512) :
    Calls Try.prog 30 #[.slice (some ⟨b, 0, none⟩) 1 1, .int .i64 (n : Int)] w fun r w' => ∃ g, r = .returned (.slice (some ⟨g, 0, none⟩) n n) ∧ w.heap.size ≤ g ∧ Row w' g (strs (List.replicate n s)) ∧ Below w.heap.size w w' := by
  have HM := Lib.hid (Try.bits_Mul 1 n (by omega) (by omega) w)
  rw [show 1 * n / 18446744073709551616 = 0 by omega, show 1 * n % 18446744073709551616 = n by omega] at HM
  obtain ⟨rj, hj, hy0, hy1, hy2⟩ := info_parts infoS
  have Hj := Lib.hid hj
  have Hy0 := Lib.hid hy0
  have Hy1 := Lib.hid hy1
  have Hy2 := Lib.hid hy2
  clear hj hy0 hy1 hy2
  go_enter Try.func30, Try.ntmps30
  go_wp2_with fail
  refine HM.out.mono ?_
  rintro r w1 ⟨rfl, rfl⟩
  clear HM
  go_wp2_with (at_make; refine wpList_make_full _ rfl (.tmp 29) (.tmp 29) 22 rfl w1.heap.size 9 rj (.string ⟨#[]⟩) 1 Try.underlying22 Hj.out Hy0.out Hy1.out .i64 .i64 (n : Int) (n : Int) n rfl rfl rfl rfl ?f1 ?f2 ?f3 ?_)
  case f1 => rw [Hy2.out]; omega
  case f2 => unfold maxLen; omega
  case f3 => exact Nat.le_refl _
  intro w2 hown hgrow
  obtain ⟨cur0, hl0, hg0⟩ := made_heap hown
  have B2 : Hid (Below w1.heap.size w1 w2) := (Below.refl _ _).grown hgrow (Nat.le_refl _) (fun k e => by cases e)
  have hc2 : w2.cell? ⟨b, 0, none⟩ = some (.string s) := by rw [B2.out.cell (p := ⟨b, 0, none⟩) hb]; exact hc
  have HG0 := Lib.hid hg0
  have HC2 := Lib.hid hc2
  clear hown hgrow hg0 hc2 hc
  go_wp2_with (refine wpList_copy_splice rfl (.tmp 31) (.tmp 32) 22 22 rfl 9 Try.underlying22 (by kernel_rfl) _ _ n n 1 1 rfl rfl w1.heap.size 0 cur0 9 HG0.out [.string s] ?f1 ?f2 ?f3 ?f4 w1.heap.size w1 B2.out (Nat.le_refl _) ?_)
  case f1 => show 1 = min 1 n; omega
  case f2 =>
    intro j v hj
    cases j with
    | zero => simp at hj; subst hj; exact HC2.out
    | succ j => simp at hj
  case f3 => simp; omega
  case f4 => intro v hv; simp at hv; subst hv; rfl
  intro w3 hg3 hb3
  have HB3 := Lib.hid hb3
  have sl : (splice cur0 0 [Value.string s]).length = n := by rw [length_splice _ _ _ (by simp; omega)]; exact hl0
  have s0 : ∀ j, j < 1 → (splice cur0 0 [Value.string s])[j]? = some (.string s) := fun j hj => splice_get (fun i hi => by omega) (fun v hv => by simpa using hv) (by simp; omega) (by simpa using hj)
  have HS0 := Lib.hid s0
  clear hb3 B2 s0
  go_wp2_with fail
  go_loopw [8] (fun i wr => RpRel s n w1.heap.size w1 i wr) (fun i _ => n - (intOf i).toNat)
  case atStart => exact ⟨1, _, rfl, Nat.le_refl _, h1, sl, HS0.out, hg3, HB3.out⟩
  case round =>
    clear hg3 HB3 HS0 sl HG0 HC2
    obtain ⟨k, cur, rfl, hk1, hk2, hcl, hcs, hgw, hbw⟩ := hrel
    have HCS := Lib.hid hcs
    have HBW := Lib.hid hbw
    have k0 : (0 : Int) ≤ (k : Int) := by omega
    clear hcs hbw
    by_cases cc : k < n
    case neg =>
      have cc0 : ¬ (k : Int) < (n : Int) := by omega
      have RW : Hid (Row wr w1.heap.size (List.replicate n (Value.string s))) := Row.heap hgw.out (fun j v hv => by
        rw [List.getElem?_replicate] at hv
        split at hv
        · simp only [Option.some.injEq] at hv
          subst hv
          exact HCS.out j (by omega)
        · cases hv)
      go_wp2_with fail
      go_ret
      exact ⟨_, rfl, Nat.le_refl _, by first | exact RW.out | (rw [strs, List.map_replicate]; exact RW.out), HBW.out⟩
    case pos =>
      have cc0 : (k : Int) < (n : Int) := by omega
      have nk : ¬ n = k := by omega
      go_wp2_with fail
      refine wp_region_held_drew (S := fun _ => True) (by kernel_rfl) ?_ (fun hHeld => ?_)
      · trivial
      refine takeN0 (v := ?_) (by kernel_rfl) (by kernel_rfl) (by kernel_rfl) (fun _ _ _ h => h) (by rfl) ?_ (by assumption) ?_
      rotate_left
      · intro wz hSw
        try dsimp only at hSw
        go_simp
        try with_reducible rfl
      try simp only [Act.put, List.setIfInBounds_toArray, List.set_cons_zero, List.set_cons_succ]
      refine takeN1 (v := ?_) (by kernel_rfl) (by kernel_rfl) (by kernel_rfl) (fun _ _ _ h => h) (by rfl) ?_ (by assumption) ?_
      rotate_left
      · intro wz hSw
        try dsimp only at hSw
        go_simp
        try with_reducible rfl
      try simp only [Act.put, List.setIfInBounds_toArray, List.set_cons_zero, List.set_cons_succ]
      refine takeN2 (v := ?_) (by kernel_rfl) (by kernel_rfl) (by kernel_rfl) (fun _ _ _ h => h) (by rfl) ?_ (by assumption) ?_
      rotate_left
      · intro wz hSw
        try dsimp only at hSw
        go_simp
        try with_reducible rfl
      try simp only [Act.put, List.setIfInBounds_toArray, List.set_cons_zero, List.set_cons_succ]
      refine takeN3 (v := ?_) (by kernel_rfl) (by kernel_rfl) (by kernel_rfl) (fun _ _ _ h => h) (by rfl) ?_ (by assumption) ?_
      rotate_left
      · intro wz hSw
        try dsimp only at hSw
        go_simp
        try with_reducible rfl
      try simp only [Act.put, List.setIfInBounds_toArray, List.set_cons_zero, List.set_cons_succ]
      refine takeN4 (v := ?_) (by kernel_rfl) (by kernel_rfl) (by kernel_rfl) (fun _ _ _ h => h) (by rfl) ?_ (by assumption) ?_
      rotate_left
      · intro wz hSw
        try dsimp only at hSw
        go_simp
        try with_reducible rfl
      try simp only [Act.put, List.setIfInBounds_toArray, List.set_cons_zero, List.set_cons_succ]
      refine takeN5 (v := ?_) (by kernel_rfl) (by kernel_rfl) (by kernel_rfl) (fun _ _ _ h => h) (by rfl) ?_ (by assumption) ?_
      rotate_left
      · intro wz hSw
        try dsimp only at hSw
        go_simp
        try with_reducible rfl
      try simp only [Act.put, List.setIfInBounds_toArray, List.set_cons_zero, List.set_cons_succ]
      refine takeN6 (v := ?_) (by kernel_rfl) (by kernel_rfl) (by kernel_rfl) (fun _ _ _ h => h) (by rfl) ?_ (by assumption) ?_
      rotate_left
      · intro wz hSw
        try dsimp only at hSw
        go_simp
        try with_reducible rfl
      try simp only [Act.put, List.setIfInBounds_toArray, List.set_cons_zero, List.set_cons_succ]
      refine comeN7 (by kernel_rfl) (by rfl) (fun K hK => ?_)
      obtain ⟨q, hq⟩ : ∃ q : Nat, min k (n - k) = q := ⟨_, rfl⟩
      have q1 : 1 ≤ q := by omega
      have q2 : k + q ≤ n := by omega
      have wq : IntKind.i64.wrap ((k : Int) + (q : Int)) = (k : Int) + (q : Int) := IntWalk.i64_in _ (by omega)
      refine step_cp rfl (.tmp 41) (.tmp 44) 22 rfl 9 Try.underlying22 (by kernel_rfl) w1.heap.size k (n - k) n rfl rfl cur (List.replicate q (.string s)) 9 hgw.out ?f1 ?f2 ?f3 ?f4 w1.heap.size w1 HBW.out.drew (Nat.le_refl _) ?_
      case f1 => rw [List.length_replicate]; exact hq.symm
      case f2 =>
        intro j v hj
        rw [List.getElem?_replicate] at hj
        split at hj
        · simp only [Option.some.injEq] at hj
          subst hj
          rw [add_plain, Nat.zero_add]
          have hz := HCS.out j (by omega)
          have hh : wr.drew.heap[w1.heap.size]? = some (.cells cur.toArray 9 (0, 0)) := hgw.out
          simp [World.cell?, hh, hz]
        · cases hj
      case f3 => rw [List.length_replicate]; omega
      case f4 => intro v hv; rw [List.mem_replicate] at hv; rw [hv.2]; rfl
      intro w5 hg5 hb5
      have HB5 := Lib.hid hb5
      have sl : (splice cur k (List.replicate q (Value.string s))).length = n := by rw [length_splice _ _ _ (by rw [List.length_replicate]; omega)]; exact hcl
      have HS5 : Hid (∀ j, j < k + q → (splice cur k (List.replicate q (Value.string s)))[j]? = some (.string s)) := fun j hj => splice_get HCS.out (fun v hv => (List.mem_replicate.1 hv).2) (by rw [List.length_replicate]; omega) (by rw [List.length_replicate]; omega)
      clear hb5 hq
      try simp only [List.length_replicate, goInt]
      refine hK.out _ _ ?_ (fun hHeld => ?_)
      · trivial
      clear hK K
      try simp only [Act.put, List.setIfInBounds_toArray, List.set_cons_zero, List.set_cons_succ]
      refine takeN8 (v := ?_) (by kernel_rfl) (by kernel_rfl) (by kernel_rfl) (fun _ _ _ h => h) (by rfl) ?_ (by assumption) ?_
      rotate_left
      · intro wz hSw
        try dsimp only at hSw
        go_simp
        try with_reducible rfl
      try simp only [Act.put, List.setIfInBounds_toArray, List.set_cons_zero, List.set_cons_succ]
      refine takeN9 (v := ?_) (by kernel_rfl) (by kernel_rfl) (by kernel_rfl) (fun _ _ _ h => h) (by rfl) ?_ (by assumption) ?_
      rotate_left
      · intro wz hSw
        try dsimp only at hSw
        go_simp
        try with_reducible rfl
      try simp only [Act.put, List.setIfInBounds_toArray, List.set_cons_zero, List.set_cons_succ]
      refine wpAnyH_done (by kernel_rfl) ?_ _
      go_wp2_with fail
      go_roundw
      case rel => exact ⟨k + q, _, by congr 1, by omega, q2, sl, HS5.out, hg5, HB5.out⟩
      case measure => simp [intOf]; omega

theorem pad_nil : pad (⟨#[]⟩ : B) = zb 16 := by kernel_rfl
set_option maxHeartbeats 3200000 in
set_option maxRecDepth 100000 in
theorem pNew_x (n : Int) (w : World) (hn : I64 n) :
    Calls Try.prog 10 #[.int .i64 n] w fun r w' => ∃ x, r = .returned (.tuple #[x, .int .i64 (newV n).2]) ∧ DAt w' x (newV n).1 ∧ Below w.heap.size w w' := by
  unfold I64 at hn
  have BY0 := Lib.hid (Bx.new w (.slice none 0 0) (.slice none 0 0) 0 false 25)
  have BW0 : Hid (Below w.heap.size w (w.alloc (.cells #[.slice none 0 0, .slice none 0 0, .int .i64 0, .bool false] 25))) := Below.new1 _
  by_cases t1 : n < 1
  · have hv : Hid (newV n = (D0, 1)) := by show _ = _; unfold newV; rw [if_neg (by omega)]
    go_enter Try.func10, Try.ntmps10
    go_wp2_with fail
    exact bodyPost_ret (v := .tuple #[.agg #[.slice none 0 0, .slice none 0 0, .int .i64 0, .bool false], .int .i64 1]) (by simp [results, Try.results10, go_sem]) rfl ⟨_, by rw [hv.out]; try rfl, by rw [hv.out]; exact DAt.zero _, Below.new1 _⟩
  by_cases t2 : 512 < n
  · have hv : Hid (newV n = (D0, 1)) := by show _ = _; unfold newV; rw [if_neg (by omega)]
    go_enter Try.func10, Try.ntmps10
    go_wp2_with fail
    exact bodyPost_ret (v := .tuple #[.agg #[.slice none 0 0, .slice none 0 0, .int .i64 0, .bool false], .int .i64 1]) (by simp [results, Try.results10, go_sem]) rfl ⟨_, by rw [hv.out]; try rfl, by rw [hv.out]; exact DAt.zero _, Below.new1 _⟩
  obtain ⟨m, rfl⟩ := Int.eq_ofNat_of_zero_le (show 0 ≤ n by omega)
  have hv : Hid (newV (m : Int) = (⟨List.replicate m (zb 16), [], -1, false⟩, 0)) := by show _ = _; unfold newV; rw [if_pos (by omega), Int.toNat_natCast]
  have m1 : 1 ≤ m := by omega
  have m2 : m ≤ 512 := by omega
  go_enter Try.func10, Try.ntmps10
  go_wp2_with fail
  refine (filled_x ⟨#[]⟩ _ (by decide)).mono ?_
  rintro r w1 ⟨rfl, b1⟩
  rw [pad_nil]
  have BY1 := Lib.hid ((BY0.out.next b1).next (Below.new1 (.cells #[.string (zb 16)] 9)))
  have BE1 : Hid (Below w.heap.size w (w1.alloc (.cells #[.string (zb 16)] 9))) := chain (chain BW0.out b1) (Below.new1 _)
  have HR := Lib.hid (repeat_x (zb 16) w1.heap.size m (w1.alloc (.cells #[.string (zb 16)] 9)) (by rw [World.cell?_alloc_new]; rfl) (by simp) m1 m2)
  clear b1
  go_wp2_with fail
  refine HR.out.mono ?_
  rintro r w2 ⟨g, rfl, hg, hrow, b2⟩
  have BY := Lib.hid (BY1.out.next b2)
  have BE := Lib.hid (chain BE1.out b2)
  have RW := Lib.hid hrow
  have k1 : w.heap.size ≠ g := by have := BY1.out.lt; omega
  clear hrow b2 BY1 BE1 HR
  have y0 := BY.out.c0
  have y1 := BY.out.c1
  have y2 := BY.out.c2
  have y3 := BY.out.c3
  have yl := BY.out.lt
  have yf := BY.out.fz
  go_wp2_with fail
  exact bodyPost_ret (v := .tuple #[.agg #[.slice (some ⟨g, 0, none⟩) m m, .slice none 0 0, .int .i64 (-1), .bool false], .int .i64 0]) (by simp [results, Try.results10, go_sem, y0, y1, y2, y3]) rfl ⟨_, by rw [hv.out]; try rfl, by rw [hv.out]; exact DAt.made (by repeat (first | with_reducible exact RW.out | refine Row.other ?_ k1 _)) (by rw [List.length_replicate]) (Nat.le_refl _), (((BE.out.setCell (Nat.le_refl _) _).setCell (Nat.le_refl _) _).setCell (Nat.le_refl _) _).setCell (Nat.le_refl _) _⟩

/-- THE PROGRAM's CONTRACTS. -/
theorem diskOk : DiskOk := ⟨pNew_x, pCheck_x, pRead_x, pWrite_x, pFlush_x, fun v d n w h hf _ => pArm_x v d n w h hf, pCut_x, pStart_x⟩

end Go.Proofs.Ytcbeodhopimmlaa
