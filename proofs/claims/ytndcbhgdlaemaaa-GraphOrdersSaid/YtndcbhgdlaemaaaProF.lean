/-
  The program's neighbours, ahead and behind.
-/
import Derived.Test.YtndcbhgdlaemaaaProE
import Derived.Maps.AppendAt
namespace Go.Proofs.Ytndcbhgdlaemaaa
open Go.RowKit Gr

theorem step_app_at {P : Program} {w : World} {o : Oper} {a : Act} {K : Act → World → Prop} {Q : Exit → Act → World → Prop} (s x : Operand) (t : TypeId)
    (ho : o.op = .call { callee := .builtin .append, args := #[s, x], argTypes := #[t, t] })
    (base : Nat) (e : TypeId) (i : TypeInfo) (z : Value) (size bytes : Nat) (ht : P.underlying t = some (.slice e)) (hi : P.info? e = some i) (hz : i.zero = some z)
    (hsize : i.size = size) (hby : i.bytes = bytes) (hzs : z.cells.size = size) (hsz : 0 < size)
    (v : Value) (n : Nat) (xs : List Value) (hs : a.eval s = v) (hown : w.ownsRow base e size v n xs)
    (ad : Addr) (m c : Nat) (news : List Value) (hx : a.eval x = .slice (some ad) m c) (hl : news.length = m * size) (hnews : ∀ j u, news[j]? = some u → w.cell? (ad.add j) = some u) (h1 : ∀ u ∈ news, u.oneCell' = true)
    (h63 : n + m ≤ maxLen) (hbytes : (n + m) * bytes ≤ 140737488355328) (hbase : base ≤ w.heap.size)
    (h : ∀ v' w', w'.ownsRow base e size v' (n + m) (xs ++ news) → w.grownBy w' v.ownBlock → (v'.ownBlock = v.ownBlock ∨ v'.ownBlock = some w.heap.size) → K (a.put o.dst v') w') : Oper.wp P o a w K Q := by
  obtain ⟨v', w', hr, h2, h3, -, h5⟩ := run_append_own_at (P := P) w base t o.type e i z size bytes ht hi hz hsize hby hzs hsz v n xs hown ad m c news hl hnews h1 h63 hbytes hbase
  unfold Oper.wp execOp
  simp only [ho, resolve, invoke, builtin, Sem.run_bind, Sem.run_pure, Result.andThen_ok, List.map_toArray, List.map_cons, List.map_nil, hs, hx, hr]
  exact h v' w' h2 h3 h5

/-- the list of lists under way: the lists lie in blocks of their own -/
structure Nb (w W : World) (n : Nat) (R : Int → List Int) (vs : List Value) : Prop where
  row : Row W w.heap.size vs
  len : vs.length = n
  own : ∀ (i : Nat) (x : Value), vs[i]? = some x → W.ownsRow (w.heap.size + 1) 3 1 x (R i).length (ints (R i))
  far : ∀ (i j : Nat) (x y : Value) (k : Nat), vs[i]? = some x → vs[j]? = some y → x.ownBlock = some k → y.ownBlock = some k → i = j
  below : Below w.heap.size w W
theorem Nb.next {w W W' : World} {n : Nat} {R : Int → List Int} {vs : List Value} (h : Nb w W n R vs) (hb : Below W.heap.size W W') : Nb w W' n R vs :=
  ⟨h.row.next hb, h.len, fun i x hx => own_below (h.own i x hx) hb, h.far, chain h.below hb⟩
theorem Nb.block {w W : World} {n : Nat} {R : Int → List Int} {vs : List Value} (h : Nb w W n R vs) {i : Nat} {x : Value} (hx : vs[i]? = some x) : ∀ k, x.ownBlock = some k → w.heap.size + 1 ≤ k ∧ k < W.heap.size := (h.own i x hx).lt
theorem Nb.others {w W W1 : World} {n : Nat} {R : Int → List Int} {vs : List Value} (h : Nb w W n R vs) {u : Nat} {x : Value} (hx : vs[u]? = some x) (hg : W.grownBy W1 x.ownBlock) :
    Row W1 w.heap.size vs ∧ Below w.heap.size w W1 ∧ ∀ (i : Nat) (y : Value), i ≠ u → vs[i]? = some y → W1.ownsRow (w.heap.size + 1) 3 1 y (R i).length (ints (R i)) := by
  refine ⟨h.row.keep (lo := w.heap.size + 1) (hi := W.heap.size) (Keep.grown hg (h.block hx)) (by omega), h.below.grown hg h.below.size (fun k hk => by have := h.block hx k hk; omega), fun i y hi hy => ?_⟩
  refine (h.own i y hy).kept hg ?_
  cases hb : y.ownBlock with
  | none => exact .inl rfl
  | some k => exact .inr fun e => hi (h.far i u y x k hy hx hb e.symm)
theorem Nb.sorted {w W W1 : World} {n : Nat} {R R' : Int → List Int} {vs : List Value} (h : Nb w W n R vs) {u : Nat} {x : Value} (hx : vs[u]? = some x) (hg : W.grownBy W1 x.ownBlock) (hown : W1.ownsRow (w.heap.size + 1) 3 1 x (R' u).length (ints (R' u)))
    (hR : ∀ i : Nat, i ≠ u → R' i = R i) : Nb w W1 n R' vs := by
  obtain ⟨h1, h2, h3⟩ := h.others hx hg
  refine ⟨h1, h.len, fun i y hy => ?_, h.far, h2⟩
  by_cases c : i = u
  · subst c
    rw [hx] at hy
    simp only [Option.some.injEq] at hy
    subst hy
    exact hown
  · rw [hR i c]
    exact h3 i y c hy
theorem Nb.push {w W W1 : World} {n : Nat} {R R' : Int → List Int} {vs : List Value} (h : Nb w W n R vs) {u : Nat} {x v' : Value} (hx : vs[u]? = some x) (hg : W.grownBy W1 x.ownBlock) (hown : W1.ownsRow (w.heap.size + 1) 3 1 v' (R' u).length (ints (R' u)))
    (hlies : v'.ownBlock = x.ownBlock ∨ ∃ k, W.heap.size ≤ k ∧ v'.ownBlock = some k) (hR : ∀ i : Nat, i ≠ u → R' i = R i) : Nb w (W1.setCell ⟨w.heap.size, u, none⟩ v') n R' (vs.set u v') := by
  obtain ⟨h1, h2, h3⟩ := h.others hx hg
  have hu := (List.getElem?_eq_some_iff.1 hx).1
  have hk : Keep w.heap.size (w.heap.size + 1) W1 (W1.setCell ⟨w.heap.size, u, none⟩ v') := Keep.set W1 u v' (Nat.le_refl _) (Nat.lt_succ_self _)
  have at' : ∀ (i : Nat) (y : Value), (vs.set u v')[i]? = some y → (i = u ∧ y = v') ∨ (i ≠ u ∧ vs[i]? = some y) := by
    intro i y hy
    rw [List.getElem?_set] at hy
    by_cases c : u = i
    · rw [if_pos c, if_pos hu] at hy
      simp only [Option.some.injEq] at hy
      exact .inl ⟨c.symm, hy.symm⟩
    · rw [if_neg c] at hy
      exact .inr ⟨fun e => c e.symm, hy⟩
  have new : ∀ (i : Nat) (y : Value) (k : Nat), i ≠ u → vs[i]? = some y → y.ownBlock = some k → v'.ownBlock ≠ some k := by
    intro i y k hi hy hb e
    rcases hlies with c | ⟨m, hm, c⟩
    · rw [c] at e
      exact hi (h.far i u y x k hy hx hb e)
    · rw [c] at e
      injection e with e
      have := h.block hy k hb
      omega
  refine ⟨h1.set u v' hu, by rw [List.length_set]; exact h.len, fun i y hy => ?_, fun i j y z k hy hz b1 b2 => ?_, h2.setCell (Nat.le_refl _) _⟩
  · rcases at' i y hy with ⟨rfl, rfl⟩ | ⟨c, hy⟩
    · exact own_keep hown hk (Nat.le_refl _)
    · rw [hR i c]
      exact own_keep (h3 i y c hy) hk (Nat.le_refl _)
  · rcases at' i y hy with ⟨rfl, rfl⟩ | ⟨c, hy1⟩ <;> rcases at' j z hz with ⟨rfl, rfl⟩ | ⟨d, hz1⟩
    · rfl
    · exact absurd b1 (new j z k d hz1 b2)
    · exact absurd b2 (new i y k c hy1 b1)
    · exact h.far i j y z k hy1 hz1 b1 b2
theorem Nb.lin {w W : World} {n : Nat} {R : Int → List Int} {vs : List Value} (h : Nb w W n R vs) : LIn w.heap.size W.heap.size W (.slice (some ⟨w.heap.size, 0, none⟩) n n) ((nodes n).map R) := by
  refine ⟨vs, ?_, by rw [h.len, List.length_map, nodes_len]; simp, fun i x l hx hl => ?_⟩
  · have hl := h.len
    subst hl
    have := h.row.lt
    exact ⟨_, _, rfl, Nat.le_refl _, fun j x hx => ⟨_, 0, rfl, ⟨Nat.le_refl _, h.row.lt⟩, h.row.lt, by rw [Nat.zero_add]; exact h.row.c j x hx⟩⟩
  · rw [List.getElem?_map] at hl
    have hi : i < n := by have := (List.getElem?_eq_some_iff.1 hx).1; rw [h.len] at this; exact this
    rw [nodes_get (by simpa using hi)] at hl
    simp only [Option.map_some, Option.some.injEq] at hl
    subst hl
    exact (SIn.own (h.own i x hx) (by simp) (Nat.le_refl _)).mono (Nat.le_succ _) (Nat.le_refl _)
theorem made_nils (n : Nat) : (madeCells #[Value.slice none 0 0] n).toList = List.replicate n (Value.slice none 0 0) := by rw [toList_madeCells_one]
theorem Nb.start {w W : World} {n : Nat} (hs : W.ownsRow w.heap.size 25 1 (.slice (some ⟨w.heap.size, 0, none⟩) n n) n (List.replicate n (.slice none 0 0))) (hb : Below w.heap.size w W) {R : Int → List Int} (hR : ∀ u, R u = []) : Nb w W n R (List.replicate n (.slice none 0 0)) := by
  have nil : ∀ (i : Nat) (x : Value), (List.replicate n (Value.slice none 0 0))[i]? = some x → x = .slice none 0 0 := fun i x hx => by
    have := List.mem_of_getElem? hx
    exact List.eq_of_mem_replicate this
  refine ⟨Row.own hs (by simp), by simp, fun i x hx => ?_, fun i j x y k hx hy b1 b2 => ?_, hb⟩
  · rw [nil i x hx, hR]
    exact World.ownsRow_nil _ _ _ _
  · rw [nil i x hx] at b1
    cases b1
def NRel (es : E) (n : Nat) (w : World) (i : Value) (wr : World) : Prop := ∃ (k : Nat) (vs : List Value), i = .int .i64 (k : Int) ∧ k ≤ es.length ∧ Nb w wr n (nbr (es.take k)) vs
def sof (es : E) (k : Nat) (u : Int) : List Int := if u < (k : Int) then adj es u else nbr es u
def SRel (es : E) (n : Nat) (w : World) (vs : List Value) (i : Value) (wr : World) : Prop := ∃ k : Nat, i = .int .i64 (k : Int) ∧ k ≤ n ∧ Nb w wr n (sof es k) vs
theorem fl_get {b : Bool} {e : E} {k : Nat} {p : Int × Int} (h : e[k]? = some p) : (fl b e)[k]? = some (match b with | false => p | true => (p.2, p.1)) := by
  cases b with
  | false => exact h
  | true => show (e.map _)[k]? = _; rw [List.getElem?_map, h]; rfl

set_option maxHeartbeats 6400000 in
theorem neighbours_false (v : Value) (n : Nat) (e : E) (w : World) (hat : EAt w v e) (hel : e.length ≤ 2000) (n300 : n ≤ 300) (hn : ∀ p ∈ e, (0 ≤ p.1 ∧ p.1 < (n : Int)) ∧ 0 ≤ p.2 ∧ p.2 < (n : Int)) :
    Calls Try.prog 36 #[.int .i64 (n : Int), v, .int .i64 0] w fun r w' => ∃ a c, r = .returned (.slice a n c) ∧ LIn w.heap.size w'.heap.size w' (.slice a n c) ((nodes n).map (adj (fl false e))) ∧ Below w.heap.size w w' := by
  have HAT := Lib.hid hat
  have HN := Lib.hid hn
  obtain ⟨a, cap, rfl, -, -⟩ := hat
  obtain ⟨rj, hj, hy0, hy1, hy2⟩ := info_parts infoI
  obtain ⟨rl, hi, hz0, hz1, hz2⟩ := info_parts infoL
  have Hj := Lib.hid hj
  have Hy0 := Lib.hid hy0
  have Hy1 := Lib.hid hy1
  have Hy2 := Lib.hid hy2
  have Hi := Lib.hid hi
  have Hz0 := Lib.hid hz0
  have Hz1 := Lib.hid hz1
  have Hz2 := Lib.hid hz2
  clear hj hy0 hy1 hy2 hi hz0 hz1 hz2 hn
  go_enter Try.func36, Try.ntmps36
  go_wp2_with (at_make; refine wpList_make_full _ rfl (.tmp 12) (.tmp 12) 34 rfl w.heap.size 25 rl (.slice none 0 0) 1 Try.underlying34 Hi.out Hz0.out Hz1.out .i64 .i64 (n : Int) (n : Int) n rfl rfl rfl rfl ?f1 ?f2 ?f3 ?_)
  case f1 => rw [Hz2.out]; omega
  case f2 => unfold maxLen; omega
  case f3 => exact Nat.le_refl _
  intro w1 hown1 hgrow1
  have N1 : Hid (Nb w w1 n (nbr ((fl false e).take 0)) (List.replicate n (.slice none 0 0))) := by
    rw [made_nils] at hown1
    exact Nb.start hown1 (grown_below hgrow1) (fun u => rfl)
  clear hown1 hgrow1
  go_wp2_with fail
  go_loopw [16] (fun i wr => NRel (fl false e) n w i wr) (fun i _ => e.length - (intOf i).toNat)
  case atStart => exact ⟨0, _, rfl, Nat.zero_le _, N1.out⟩
  case round =>
    clear N1
    obtain ⟨k, vs, rfl, hk, hB⟩ := hrel
    rw [fl_len] at hk
    have HB := Lib.hid hB
    have k0 : (0 : Int) ≤ (k : Int) := by omega
    clear hB
    by_cases c : k < e.length
    case neg =>
      have c0 : ¬ (k : Int) < (e.length : Int) := by omega
      have N2 : Hid (Nb w wr n (sof (fl false e) 0) vs) := by
        have h := HB.out
        rw [List.take_of_length_le (by rw [fl_len]; omega)] at h
        refine ⟨h.row, h.len, fun i x hx => ?_, h.far, h.below⟩
        have h0 : sof (fl false e) 0 (i : Int) = nbr (fl false e) (i : Int) := if_neg (by omega)
        rw [h0]
        exact h.own i x hx
      clear HB
      go_wp2_with fail
      go_loopw [40] (fun i wr => SRel (fl false e) n w vs i wr) (fun i _ => n - (intOf i).toNat)
      case atStart => exact ⟨0, rfl, Nat.zero_le _, N2.out⟩
      case round =>
        clear N2
        obtain ⟨j, rfl, hj, hB⟩ := hrel
        have HB := Lib.hid hB
        have j0 : (0 : Int) ≤ (j : Int) := by omega
        by_cases d : j < n
        case neg =>
          have d0 : ¬ (j : Int) < (n : Int) := by omega
          obtain rfl : j = n := by omega
          clear hB
          go_wp2_with fail
          go_ret
          refine ⟨_, _, rfl, ?_, HB.out.below⟩
          have h := HB.out.lin
          have e1 : (nodes j).map (sof (fl false e) j) = (nodes j).map (adj (fl false e)) := List.map_congr_left fun u hu => if_pos (mem_nodes.1 hu).2
          rw [e1] at h
          exact h
        case pos =>
          have d0 : (j : Int) < (n : Int) := by omega
          obtain ⟨x, hx⟩ : ∃ x, vs[j]? = some x := ⟨_, List.getElem?_eq_getElem (by rw [hB.len]; exact d)⟩
          have r1 := hB.row.c j x hx
          have l1 := hB.row.lt
          have ho := hB.own j x hx
          have e0 : sof (fl false e) j (j : Int) = nbr (fl false e) (j : Int) := if_neg (by omega)
          rw [e0] at ho
          obtain ⟨xa, xc, rfl, -, -⟩ := SAt.own ho (by simp)
          rw [List.length_map] at ho r1 hx
          have HX := Lib.hid hx
          have HO := Lib.hid ho
          clear hx ho hB
          go_wp2_with fail
          refine (sort_x _ _ _ _ HO.out (by have := nbr_len (fl false e) (j : Int); rw [fl_len] at this; omega)).mono ?_
          rintro r w5 ⟨rfl, ho5, hg5⟩
          have e1 : sof (fl false e) (j + 1) (j : Int) = adj (fl false e) (j : Int) := if_pos (by omega)
          have e2 : (adj (fl false e) (j : Int)).length = (nbr (fl false e) (j : Int)).length := srt_length _
          have N5 : Hid (Nb w w5 n (sof (fl false e) (j + 1)) vs) := by
            refine HB.out.sorted HX.out hg5 ?_ (fun i hi => ?_)
            · rw [e1, e2]
              exact ho5
            · unfold sof
              by_cases q : (i : Int) < (j : Int)
              · rw [if_pos q, if_pos (by omega)]
              · rw [if_neg q, if_neg (by omega)]
          clear ho5 hg5 e0 e1 e2
          go_wp2_with fail
          go_roundw
          case rel => exact ⟨j + 1, by congr 1, by omega, N5.out⟩
          case measure => simp [intOf]; omega
    case pos =>
      obtain ⟨p, hp⟩ : ∃ p, e[k]? = some p := ⟨e[k], List.getElem?_eq_getElem c⟩
      have pn := HN.out p (List.mem_of_getElem? hp)
      obtain ⟨p1, p2⟩ := p
      simp only at pn
      obtain ⟨p1, rfl⟩ := Int.eq_ofNat_of_zero_le pn.1.1
      obtain ⟨p2, rfl⟩ := Int.eq_ofNat_of_zero_le pn.2.1
      obtain ⟨a', cap', e1, -, hc⟩ := HAT.out.below HB.out.below (Nat.le_refl _)
      cases e1
      obtain ⟨b, off, rfl, hb, q0, q1⟩ := hc k _ hp
      simp only at q0 q1
      have c0 : (k : Int) < (e.length : Int) := by omega
      have HP := Lib.hid (fl_get (b := false) hp)
      have uN : p1 < n := by omega
      have u0 : (0 : Int) ≤ (p1 : Int) := by omega
      have u1 : (p1 : Int) < (n : Int) := by omega
      obtain ⟨x, hx⟩ : ∃ x, vs[p1]? = some x := ⟨_, List.getElem?_eq_getElem (by rw [HB.out.len]; exact uN)⟩
      obtain ⟨l, hl⟩ : ∃ l, nbr ((fl false e).take k) (p1 : Int) = l := ⟨_, rfl⟩
      have HLl := Lib.hid hl
      have ho := HB.out.own p1 x hx
      rw [hl] at ho
      obtain ⟨xa, xc, rfl, -, -⟩ := SAt.own ho (by simp)
      rw [List.length_map] at ho hx
      have r1 := HB.out.row.c p1 _ hx
      have lL : l.length ≤ 2000 := by rw [← hl]; have h1 := nbr_len ((fl false e).take k) (p1 : Int); rw [List.length_take, fl_len] at h1; omega
      have HX := Lib.hid hx
      have l1 : w.heap.size < wr.heap.size := HB.out.row.lt
      have HE := Lib.hid (HB.out.next (Below.new1 (.cells #[.int .i64 (p1 : Int), .int .i64 (p2 : Int)] 40)))
      have HR : Hid (∀ u : Int, nbr ((fl false e).take (k + 1)) u = nbr ((fl false e).take k) u ++ (if (p1 : Int) = u then [(p2 : Int)] else [])) := fun u => nbr_next HP.out u
      have BR : Hid (∀ k, (Value.slice xa l.length xc).ownBlock = some k → w.heap.size + 1 ≤ k ∧ k < wr.heap.size) := HB.out.block hx
      have z0 : (wr.alloc (.cells #[.int .i64 (p1 : Int), .int .i64 (p2 : Int)] 40)).cell? ⟨wr.heap.size, 0, none⟩ = some (.int .i64 (p1 : Int)) := by rw [World.cell?_alloc_new]; rfl
      have z1 : (wr.alloc (.cells #[.int .i64 (p1 : Int), .int .i64 (p2 : Int)] 40)).cell? ⟨wr.heap.size, 1, none⟩ = some (.int .i64 (p2 : Int)) := by rw [World.cell?_alloc_new]; rfl
      have wa : IntKind.i64.wrap 1 = 1 := by decide
      have wb : IntKind.i64.wrap 0 = 0 := by decide
      clear hp pn hc hx hl ho
      go_wp2_with fail
      refine wp_region_held_drew (S := fun w' => w'.cell? ⟨wr.heap.size, 0, none⟩ = some (.int .i64 (p1 : Int)) ∧ w'.cell? ⟨wr.heap.size, 1, none⟩ = some (.int .i64 (p2 : Int))) (by kernel_rfl) ?_ (fun hHeld => ?_)
      · exact ⟨z0, z1⟩
      refine takeN0 (v := ?_) (by kernel_rfl) (by kernel_rfl) (by kernel_rfl) (fun _ _ _ h => h) (by rfl) ?_ (by assumption) ?_
      rotate_left
      · intro wz hSw
        try dsimp only at hSw
        go_simp
        try with_reducible rfl
      try simp only [Act.put, List.setIfInBounds_toArray, List.set_cons_zero, List.set_cons_succ]
      refine takeN1 (v := ?_) (by kernel_rfl) (by kernel_rfl) (by kernel_rfl) (fun _ _ _ h => h) (by rfl) ?_ (by assumption) ?_
      rotate_left
      · intro wz hSw
        try dsimp only at hSw
        go_simp
        try with_reducible rfl
      try simp only [Act.put, List.setIfInBounds_toArray, List.set_cons_zero, List.set_cons_succ]
      refine takeN2 (v := ?_) (by kernel_rfl) (by kernel_rfl) (by kernel_rfl) (fun _ _ _ h => h) (by rfl) ?_ (by assumption) ?_
      rotate_left
      · intro wz hSw
        try dsimp only at hSw
        go_simp
        try with_reducible rfl
      try simp only [Act.put, List.setIfInBounds_toArray, List.set_cons_zero, List.set_cons_succ]
      refine takeN3 (v := ?_) (by kernel_rfl) (by kernel_rfl) (by kernel_rfl) (fun _ _ _ h => h) (by rfl) ?_ (by assumption) ?_
      rotate_left
      · intro wz hSw
        try dsimp only at hSw
        go_simp
        try with_reducible rfl
      try simp only [Act.put, List.setIfInBounds_toArray, List.set_cons_zero, List.set_cons_succ]
      refine takeN4 (v := ?_) (by kernel_rfl) (by kernel_rfl) (by kernel_rfl) (fun _ _ _ h => h) (by rfl) ?_ (by assumption) ?_
      rotate_left
      · intro wz hSw
        try dsimp only at hSw
        go_simp
        try with_reducible rfl
      try simp only [Act.put, List.setIfInBounds_toArray, List.set_cons_zero, List.set_cons_succ]
      refine takeN5 (v := ?_) (by kernel_rfl) (by kernel_rfl) (by kernel_rfl) (fun _ _ _ h => h) (by rfl) ?_ (by assumption) ?_
      rotate_left
      · intro wz hSw
        try dsimp only at hSw
        go_simp
        try with_reducible rfl
      try simp only [Act.put, List.setIfInBounds_toArray, List.set_cons_zero, List.set_cons_succ]
      refine takeN6 (v := ?_) (by kernel_rfl) (by kernel_rfl) (by kernel_rfl) (fun _ _ _ h => h) (by rfl) ?_ (by assumption) ?_
      rotate_left
      · intro wz hSw
        try dsimp only at hSw
        go_simp
        try with_reducible rfl
      try simp only [Act.put, List.setIfInBounds_toArray, List.set_cons_zero, List.set_cons_succ]
      refine takeN7 (v := ?_) (by kernel_rfl) (by kernel_rfl) (by kernel_rfl) (fun _ _ _ h => h) (by rfl) ?_ (by assumption) ?_
      rotate_left
      · intro wz hSw
        try dsimp only at hSw
        go_simp
        try with_reducible rfl
      try simp only [Act.put, List.setIfInBounds_toArray, List.set_cons_zero, List.set_cons_succ]
      refine takeN8 (v := ?_) (by kernel_rfl) (by kernel_rfl) (by kernel_rfl) (fun _ _ _ h => h) (by rfl) ?_ (by assumption) ?_
      rotate_left
      · intro wz hSw
        try dsimp only at hSw
        go_simp
        try with_reducible rfl
      try simp only [Act.put, List.setIfInBounds_toArray, List.set_cons_zero, List.set_cons_succ]
      refine takeN10 (v := ?_) (by kernel_rfl) (by kernel_rfl) (by kernel_rfl) (fun _ _ _ h => h) (by rfl) ?_ (by assumption) ?_
      rotate_left
      · intro wz hSw
        try dsimp only at hSw
        go_simp
        try with_reducible rfl
      try simp only [Act.put, List.setIfInBounds_toArray, List.set_cons_zero, List.set_cons_succ]
      refine takeN11 (v := ?_) (by kernel_rfl) (by kernel_rfl) (by kernel_rfl) (fun _ _ _ h => h) (by rfl) ?_ (by assumption) ?_
      rotate_left
      · intro wz hSw
        try dsimp only at hSw
        go_simp
        try with_reducible rfl
      try simp only [Act.put, List.setIfInBounds_toArray, List.set_cons_zero, List.set_cons_succ]
      refine takeN12 (v := ?_) (by kernel_rfl) (by kernel_rfl) (by kernel_rfl) (fun _ _ _ h => h) (by rfl) ?_ (by assumption) ?_
      rotate_left
      · intro wz hSw
        try dsimp only at hSw
        go_simp
        try with_reducible rfl
      try simp only [Act.put, List.setIfInBounds_toArray, List.set_cons_zero, List.set_cons_succ]
      refine takeN13 (v := ?_) (by kernel_rfl) (by kernel_rfl) (by kernel_rfl) (fun _ _ _ h => h) (by rfl) ?_ (by assumption) ?_
      rotate_left
      · intro wz hSw
        try dsimp only at hSw
        go_simp
        try with_reducible rfl
      try simp only [Act.put, List.setIfInBounds_toArray, List.set_cons_zero, List.set_cons_succ]
      refine wpAnyH_ready (rs := [9, 14]) (by kernel_rfl) (by simp) (AllReadyH.cons rfl (fun K hK => ?_) (AllReadyH.cons rfl (fun K hK => ?_) AllReadyH.nil))
      · rw [if_pos (by rfl)]
        go_simp
        refine hK.out _ _ ?_ (fun hHeld => ?_)
        · exact ⟨z0, z1⟩
        clear hK K
        try simp only [Act.put, List.setIfInBounds_toArray, List.set_cons_zero, List.set_cons_succ]
        refine comeN14 (by kernel_rfl) (by rfl) (fun K hK => ?_)
        go_simp
        refine hK.out _ _ ?_ (fun hHeld => ?_)
        · exact ⟨Lib.cell?_alloc_some _ z0, Lib.cell?_alloc_some _ z1⟩
        clear hK K
        try simp only [Act.put, List.setIfInBounds_toArray, List.set_cons_zero, List.set_cons_succ]
        refine comeN15 (by kernel_rfl) (by rfl) (fun K hK => ?_)
        refine step_app_at (.tmp 29) (.tmp 34) 25 rfl (w.heap.size + 1) 3 rj (.int .i64 0) 1 8 Try.underlying25 Hj.out Hy0.out Hy1.out Hy2.out rfl (by decide) _ l.length (ints l) rfl ?f1 ⟨wr.heap.size + 1, 0, none⟩ 1 1 [.int .i64 (p2 : Int)] rfl rfl ?f2 ?f3 ?f4 ?f5 ?f6 ?_
        case f1 => have h := (HE.out.next ((Below.new1 (.cells #[.int .i64 (p2 : Int)] 3)).drew)).own p1 _ HX.out; rw [HLl.out] at h; exact h
        case f2 => exact cell_new1 (wr.alloc _) _ _ _ (by simp)
        case f3 => intro u hu; simp at hu; subst hu; rfl
        case f4 => unfold maxLen; omega
        case f5 => omega
        case f6 => simp; omega
        intro v5 w5 hown5 hgrow5 hlies5
        obtain ⟨va, vc, e5, -, -⟩ := SAt.own hown5 (by simp)
        rw [List.length_append, List.length_map, List.length_singleton] at e5
        subst e5
        have NW := Lib.hid (HE.out.next ((Below.new1 (.cells #[.int .i64 (p2 : Int)] 3)).drew))
        have N5 : Hid (Nb w (w5.setCell ⟨w.heap.size, p1, none⟩ (.slice va (l.length + 1) vc)) n (nbr ((fl false e).take (k + 1))) (vs.set p1 (.slice va (l.length + 1) vc))) := by
          refine NW.out.push HX.out hgrow5 ?_ (hlies5.imp id (fun h => ⟨_, Nat.le_refl _, h⟩)) (fun i hi => ?_)
          · rw [HR.out, if_pos rfl, HLl.out, List.length_append, ints, List.map_append]
            exact hown5
          · rw [HR.out, if_neg (by omega), List.append_nil]
        have z5 := hgrow5.cell (a := ⟨wr.heap.size, 0, none⟩) (v := .int .i64 (p1 : Int)) (by first | exact hHeld.1 | exact (Lib.cell?_alloc_some _ z0)) (fun e => by have := BR.out wr.heap.size e.symm; omega)
        have z6 := hgrow5.cell (a := ⟨wr.heap.size, 1, none⟩) (v := .int .i64 (p2 : Int)) (by first | exact hHeld.2 | exact (Lib.cell?_alloc_some _ z1)) (fun e => by have := BR.out wr.heap.size e.symm; omega)
        obtain ⟨o1, -, -⟩ := NW.out.others HX.out hgrow5
        have c5 := o1.c p1 _ HX.out
        have f5 := o1.fz p1 (by rw [NW.out.len]; exact uN)
        have l5 := o1.lt
        clear o1 hown5 hgrow5 hlies5
        refine hK.out _ _ ?_ (fun hHeld => ?_)
        · exact ⟨z5, z6⟩
        clear hK K
        try simp only [Act.put, List.setIfInBounds_toArray, List.set_cons_zero, List.set_cons_succ]
        refine takeN16 (v := ?_) (by kernel_rfl) (by kernel_rfl) (by kernel_rfl) (fun _ _ _ h => h) (by rfl) ?_ (by assumption) ?_
        rotate_left
        · intro wz hSw
          try dsimp only at hSw
          go_simp
          try with_reducible rfl
        try simp only [Act.put, List.setIfInBounds_toArray, List.set_cons_zero, List.set_cons_succ]
        have s5 : (w5.setCell ⟨w.heap.size, p1, none⟩ (.slice va (l.length + 1) vc)).cell? ⟨wr.heap.size, 0, none⟩ = some (.int .i64 (p1 : Int)) := by rw [World.cell?_of_block (Below.heap_setCell _ _ _ _ (by show wr.heap.size ≠ w.heap.size; omega))]; exact z5
        have s6 : (w5.setCell ⟨w.heap.size, p1, none⟩ (.slice va (l.length + 1) vc)).cell? ⟨wr.heap.size, 1, none⟩ = some (.int .i64 (p2 : Int)) := by rw [World.cell?_of_block (Below.heap_setCell _ _ _ _ (by show wr.heap.size ≠ w.heap.size; omega))]; exact z6
        refine comeN17 (by kernel_rfl) (by rfl) (fun K hK => ?_)
        go_simp
        refine hK.out _ _ ?_ (fun hHeld => ?_)
        · exact ⟨s5, s6⟩
        clear hK K
        try simp only [Act.put, List.setIfInBounds_toArray, List.set_cons_zero, List.set_cons_succ]
        refine wpAnyH_done (by kernel_rfl) ?_ _
        clear s5 s6 z5 z6 c5 f5 l5
        go_wp2_with fail
        go_roundw
        case rel => exact ⟨k + 1, _, by congr 1, by rw [fl_len]; omega, N5.out⟩
        case measure => simp [intOf]; omega
      · rw [if_pos (by rfl)]
        go_simp
        refine hK.out _ _ ?_ (fun hHeld => ?_)
        · exact ⟨Lib.cell?_alloc_some _ z0, Lib.cell?_alloc_some _ z1⟩
        clear hK K
        try simp only [Act.put, List.setIfInBounds_toArray, List.set_cons_zero, List.set_cons_succ]
        refine comeN9 (by kernel_rfl) (by rfl) (fun K hK => ?_)
        go_simp
        refine hK.out _ _ ?_ (fun hHeld => ?_)
        · exact ⟨Lib.cell?_alloc_some _ z0, Lib.cell?_alloc_some _ z1⟩
        clear hK K
        try simp only [Act.put, List.setIfInBounds_toArray, List.set_cons_zero, List.set_cons_succ]
        refine comeN15 (by kernel_rfl) (by rfl) (fun K hK => ?_)
        refine step_app_at (.tmp 29) (.tmp 34) 25 rfl (w.heap.size + 1) 3 rj (.int .i64 0) 1 8 Try.underlying25 Hj.out Hy0.out Hy1.out Hy2.out rfl (by decide) _ l.length (ints l) rfl ?f1 ⟨wr.heap.size + 1, 0, none⟩ 1 1 [.int .i64 (p2 : Int)] rfl rfl ?f2 ?f3 ?f4 ?f5 ?f6 ?_
        case f1 => have h := (HE.out.next ((Below.new1 (.cells #[.int .i64 (p2 : Int)] 3)).drew)).own p1 _ HX.out; rw [HLl.out] at h; exact h
        case f2 => exact cell_new1 (wr.alloc _) _ _ _ (by simp)
        case f3 => intro u hu; simp at hu; subst hu; rfl
        case f4 => unfold maxLen; omega
        case f5 => omega
        case f6 => simp; omega
        intro v5 w5 hown5 hgrow5 hlies5
        obtain ⟨va, vc, e5, -, -⟩ := SAt.own hown5 (by simp)
        rw [List.length_append, List.length_map, List.length_singleton] at e5
        subst e5
        have NW := Lib.hid (HE.out.next ((Below.new1 (.cells #[.int .i64 (p2 : Int)] 3)).drew))
        have N5 : Hid (Nb w (w5.setCell ⟨w.heap.size, p1, none⟩ (.slice va (l.length + 1) vc)) n (nbr ((fl false e).take (k + 1))) (vs.set p1 (.slice va (l.length + 1) vc))) := by
          refine NW.out.push HX.out hgrow5 ?_ (hlies5.imp id (fun h => ⟨_, Nat.le_refl _, h⟩)) (fun i hi => ?_)
          · rw [HR.out, if_pos rfl, HLl.out, List.length_append, ints, List.map_append]
            exact hown5
          · rw [HR.out, if_neg (by omega), List.append_nil]
        have z5 := hgrow5.cell (a := ⟨wr.heap.size, 0, none⟩) (v := .int .i64 (p1 : Int)) (by first | exact hHeld.1 | exact (Lib.cell?_alloc_some _ z0)) (fun e => by have := BR.out wr.heap.size e.symm; omega)
        have z6 := hgrow5.cell (a := ⟨wr.heap.size, 1, none⟩) (v := .int .i64 (p2 : Int)) (by first | exact hHeld.2 | exact (Lib.cell?_alloc_some _ z1)) (fun e => by have := BR.out wr.heap.size e.symm; omega)
        obtain ⟨o1, -, -⟩ := NW.out.others HX.out hgrow5
        have c5 := o1.c p1 _ HX.out
        have f5 := o1.fz p1 (by rw [NW.out.len]; exact uN)
        have l5 := o1.lt
        clear o1 hown5 hgrow5 hlies5
        refine hK.out _ _ ?_ (fun hHeld => ?_)
        · exact ⟨z5, z6⟩
        clear hK K
        try simp only [Act.put, List.setIfInBounds_toArray, List.set_cons_zero, List.set_cons_succ]
        refine takeN16 (v := ?_) (by kernel_rfl) (by kernel_rfl) (by kernel_rfl) (fun _ _ _ h => h) (by rfl) ?_ (by assumption) ?_
        rotate_left
        · intro wz hSw
          try dsimp only at hSw
          go_simp
          try with_reducible rfl
        try simp only [Act.put, List.setIfInBounds_toArray, List.set_cons_zero, List.set_cons_succ]
        have s5 : (w5.setCell ⟨w.heap.size, p1, none⟩ (.slice va (l.length + 1) vc)).cell? ⟨wr.heap.size, 0, none⟩ = some (.int .i64 (p1 : Int)) := by rw [World.cell?_of_block (Below.heap_setCell _ _ _ _ (by show wr.heap.size ≠ w.heap.size; omega))]; exact z5
        have s6 : (w5.setCell ⟨w.heap.size, p1, none⟩ (.slice va (l.length + 1) vc)).cell? ⟨wr.heap.size, 1, none⟩ = some (.int .i64 (p2 : Int)) := by rw [World.cell?_of_block (Below.heap_setCell _ _ _ _ (by show wr.heap.size ≠ w.heap.size; omega))]; exact z6
        refine comeN17 (by kernel_rfl) (by rfl) (fun K hK => ?_)
        go_simp
        refine hK.out _ _ ?_ (fun hHeld => ?_)
        · exact ⟨s5, s6⟩
        clear hK K
        try simp only [Act.put, List.setIfInBounds_toArray, List.set_cons_zero, List.set_cons_succ]
        refine wpAnyH_done (by kernel_rfl) ?_ _
        clear s5 s6 z5 z6 c5 f5 l5
        go_wp2_with fail
        go_roundw
        case rel => exact ⟨k + 1, _, by congr 1, by rw [fl_len]; omega, N5.out⟩
        case measure => simp [intOf]; omega

set_option maxHeartbeats 6400000 in
theorem neighbours_true (v : Value) (n : Nat) (e : E) (w : World) (hat : EAt w v e) (hel : e.length ≤ 2000) (n300 : n ≤ 300) (hn : ∀ p ∈ e, (0 ≤ p.1 ∧ p.1 < (n : Int)) ∧ 0 ≤ p.2 ∧ p.2 < (n : Int)) :
    Calls Try.prog 36 #[.int .i64 (n : Int), v, .int .i64 1] w fun r w' => ∃ a c, r = .returned (.slice a n c) ∧ LIn w.heap.size w'.heap.size w' (.slice a n c) ((nodes n).map (adj (fl true e))) ∧ Below w.heap.size w w' := by
  have HAT := Lib.hid hat
  have HN := Lib.hid hn
  obtain ⟨a, cap, rfl, -, -⟩ := hat
  obtain ⟨rj, hj, hy0, hy1, hy2⟩ := info_parts infoI
  obtain ⟨rl, hi, hz0, hz1, hz2⟩ := info_parts infoL
  have Hj := Lib.hid hj
  have Hy0 := Lib.hid hy0
  have Hy1 := Lib.hid hy1
  have Hy2 := Lib.hid hy2
  have Hi := Lib.hid hi
  have Hz0 := Lib.hid hz0
  have Hz1 := Lib.hid hz1
  have Hz2 := Lib.hid hz2
  clear hj hy0 hy1 hy2 hi hz0 hz1 hz2 hn
  go_enter Try.func36, Try.ntmps36
  go_wp2_with (at_make; refine wpList_make_full _ rfl (.tmp 12) (.tmp 12) 34 rfl w.heap.size 25 rl (.slice none 0 0) 1 Try.underlying34 Hi.out Hz0.out Hz1.out .i64 .i64 (n : Int) (n : Int) n rfl rfl rfl rfl ?f1 ?f2 ?f3 ?_)
  case f1 => rw [Hz2.out]; omega
  case f2 => unfold maxLen; omega
  case f3 => exact Nat.le_refl _
  intro w1 hown1 hgrow1
  have N1 : Hid (Nb w w1 n (nbr ((fl true e).take 0)) (List.replicate n (.slice none 0 0))) := by
    rw [made_nils] at hown1
    exact Nb.start hown1 (grown_below hgrow1) (fun u => rfl)
  clear hown1 hgrow1
  go_wp2_with fail
  go_loopw [16] (fun i wr => NRel (fl true e) n w i wr) (fun i _ => e.length - (intOf i).toNat)
  case atStart => exact ⟨0, _, rfl, Nat.zero_le _, N1.out⟩
  case round =>
    clear N1
    obtain ⟨k, vs, rfl, hk, hB⟩ := hrel
    rw [fl_len] at hk
    have HB := Lib.hid hB
    have k0 : (0 : Int) ≤ (k : Int) := by omega
    clear hB
    by_cases c : k < e.length
    case neg =>
      have c0 : ¬ (k : Int) < (e.length : Int) := by omega
      have N2 : Hid (Nb w wr n (sof (fl true e) 0) vs) := by
        have h := HB.out
        rw [List.take_of_length_le (by rw [fl_len]; omega)] at h
        refine ⟨h.row, h.len, fun i x hx => ?_, h.far, h.below⟩
        have h0 : sof (fl true e) 0 (i : Int) = nbr (fl true e) (i : Int) := if_neg (by omega)
        rw [h0]
        exact h.own i x hx
      clear HB
      go_wp2_with fail
      go_loopw [40] (fun i wr => SRel (fl true e) n w vs i wr) (fun i _ => n - (intOf i).toNat)
      case atStart => exact ⟨0, rfl, Nat.zero_le _, N2.out⟩
      case round =>
        clear N2
        obtain ⟨j, rfl, hj, hB⟩ := hrel
        have HB := Lib.hid hB
        have j0 : (0 : Int) ≤ (j : Int) := by omega
        by_cases d : j < n
        case neg =>
          have d0 : ¬ (j : Int) < (n : Int) := by omega
          obtain rfl : j = n := by omega
          clear hB
          go_wp2_with fail
          go_ret
          refine ⟨_, _, rfl, ?_, HB.out.below⟩
          have h := HB.out.lin
          have e1 : (nodes j).map (sof (fl true e) j) = (nodes j).map (adj (fl true e)) := List.map_congr_left fun u hu => if_pos (mem_nodes.1 hu).2
          rw [e1] at h
          exact h
        case pos =>
          have d0 : (j : Int) < (n : Int) := by omega
          obtain ⟨x, hx⟩ : ∃ x, vs[j]? = some x := ⟨_, List.getElem?_eq_getElem (by rw [hB.len]; exact d)⟩
          have r1 := hB.row.c j x hx
          have l1 := hB.row.lt
          have ho := hB.own j x hx
          have e0 : sof (fl true e) j (j : Int) = nbr (fl true e) (j : Int) := if_neg (by omega)
          rw [e0] at ho
          obtain ⟨xa, xc, rfl, -, -⟩ := SAt.own ho (by simp)
          rw [List.length_map] at ho r1 hx
          have HX := Lib.hid hx
          have HO := Lib.hid ho
          clear hx ho hB
          go_wp2_with fail
          refine (sort_x _ _ _ _ HO.out (by have := nbr_len (fl true e) (j : Int); rw [fl_len] at this; omega)).mono ?_
          rintro r w5 ⟨rfl, ho5, hg5⟩
          have e1 : sof (fl true e) (j + 1) (j : Int) = adj (fl true e) (j : Int) := if_pos (by omega)
          have e2 : (adj (fl true e) (j : Int)).length = (nbr (fl true e) (j : Int)).length := srt_length _
          have N5 : Hid (Nb w w5 n (sof (fl true e) (j + 1)) vs) := by
            refine HB.out.sorted HX.out hg5 ?_ (fun i hi => ?_)
            · rw [e1, e2]
              exact ho5
            · unfold sof
              by_cases q : (i : Int) < (j : Int)
              · rw [if_pos q, if_pos (by omega)]
              · rw [if_neg q, if_neg (by omega)]
          clear ho5 hg5 e0 e1 e2
          go_wp2_with fail
          go_roundw
          case rel => exact ⟨j + 1, by congr 1, by omega, N5.out⟩
          case measure => simp [intOf]; omega
    case pos =>
      obtain ⟨p, hp⟩ : ∃ p, e[k]? = some p := ⟨e[k], List.getElem?_eq_getElem c⟩
      have pn := HN.out p (List.mem_of_getElem? hp)
      obtain ⟨p1, p2⟩ := p
      simp only at pn
      obtain ⟨p1, rfl⟩ := Int.eq_ofNat_of_zero_le pn.1.1
      obtain ⟨p2, rfl⟩ := Int.eq_ofNat_of_zero_le pn.2.1
      obtain ⟨a', cap', e1, -, hc⟩ := HAT.out.below HB.out.below (Nat.le_refl _)
      cases e1
      obtain ⟨b, off, rfl, hb, q0, q1⟩ := hc k _ hp
      simp only at q0 q1
      have c0 : (k : Int) < (e.length : Int) := by omega
      have HP := Lib.hid (fl_get (b := true) hp)
      have uN : p2 < n := by omega
      have u0 : (0 : Int) ≤ (p2 : Int) := by omega
      have u1 : (p2 : Int) < (n : Int) := by omega
      obtain ⟨x, hx⟩ : ∃ x, vs[p2]? = some x := ⟨_, List.getElem?_eq_getElem (by rw [HB.out.len]; exact uN)⟩
      obtain ⟨l, hl⟩ : ∃ l, nbr ((fl true e).take k) (p2 : Int) = l := ⟨_, rfl⟩
      have HLl := Lib.hid hl
      have ho := HB.out.own p2 x hx
      rw [hl] at ho
      obtain ⟨xa, xc, rfl, -, -⟩ := SAt.own ho (by simp)
      rw [List.length_map] at ho hx
      have r1 := HB.out.row.c p2 _ hx
      have lL : l.length ≤ 2000 := by rw [← hl]; have h1 := nbr_len ((fl true e).take k) (p2 : Int); rw [List.length_take, fl_len] at h1; omega
      have HX := Lib.hid hx
      have l1 : w.heap.size < wr.heap.size := HB.out.row.lt
      have HE := Lib.hid (HB.out.next (Below.new1 (.cells #[.int .i64 (p1 : Int), .int .i64 (p2 : Int)] 40)))
      have HR : Hid (∀ u : Int, nbr ((fl true e).take (k + 1)) u = nbr ((fl true e).take k) u ++ (if (p2 : Int) = u then [(p1 : Int)] else [])) := fun u => nbr_next HP.out u
      have BR : Hid (∀ k, (Value.slice xa l.length xc).ownBlock = some k → w.heap.size + 1 ≤ k ∧ k < wr.heap.size) := HB.out.block hx
      have z0 : (wr.alloc (.cells #[.int .i64 (p1 : Int), .int .i64 (p2 : Int)] 40)).cell? ⟨wr.heap.size, 0, none⟩ = some (.int .i64 (p1 : Int)) := by rw [World.cell?_alloc_new]; rfl
      have z1 : (wr.alloc (.cells #[.int .i64 (p1 : Int), .int .i64 (p2 : Int)] 40)).cell? ⟨wr.heap.size, 1, none⟩ = some (.int .i64 (p2 : Int)) := by rw [World.cell?_alloc_new]; rfl
      have wa : IntKind.i64.wrap 1 = 1 := by decide
      have wb : IntKind.i64.wrap 0 = 0 := by decide
      clear hp pn hc hx hl ho
      go_wp2_with fail
      refine wp_region_held_drew (S := fun w' => w'.cell? ⟨wr.heap.size, 0, none⟩ = some (.int .i64 (p1 : Int)) ∧ w'.cell? ⟨wr.heap.size, 1, none⟩ = some (.int .i64 (p2 : Int))) (by kernel_rfl) ?_ (fun hHeld => ?_)
      · exact ⟨z0, z1⟩
      refine takeN0 (v := ?_) (by kernel_rfl) (by kernel_rfl) (by kernel_rfl) (fun _ _ _ h => h) (by rfl) ?_ (by assumption) ?_
      rotate_left
      · intro wz hSw
        try dsimp only at hSw
        go_simp
        try with_reducible rfl
      try simp only [Act.put, List.setIfInBounds_toArray, List.set_cons_zero, List.set_cons_succ]
      refine takeN1 (v := ?_) (by kernel_rfl) (by kernel_rfl) (by kernel_rfl) (fun _ _ _ h => h) (by rfl) ?_ (by assumption) ?_
      rotate_left
      · intro wz hSw
        try dsimp only at hSw
        go_simp
        try with_reducible rfl
      try simp only [Act.put, List.setIfInBounds_toArray, List.set_cons_zero, List.set_cons_succ]
      refine takeN2 (v := ?_) (by kernel_rfl) (by kernel_rfl) (by kernel_rfl) (fun _ _ _ h => h) (by rfl) ?_ (by assumption) ?_
      rotate_left
      · intro wz hSw
        try dsimp only at hSw
        go_simp
        try with_reducible rfl
      try simp only [Act.put, List.setIfInBounds_toArray, List.set_cons_zero, List.set_cons_succ]
      refine takeN3 (v := ?_) (by kernel_rfl) (by kernel_rfl) (by kernel_rfl) (fun _ _ _ h => h) (by rfl) ?_ (by assumption) ?_
      rotate_left
      · intro wz hSw
        try dsimp only at hSw
        go_simp
        try with_reducible rfl
      try simp only [Act.put, List.setIfInBounds_toArray, List.set_cons_zero, List.set_cons_succ]
      refine takeN4 (v := ?_) (by kernel_rfl) (by kernel_rfl) (by kernel_rfl) (fun _ _ _ h => h) (by rfl) ?_ (by assumption) ?_
      rotate_left
      · intro wz hSw
        try dsimp only at hSw
        go_simp
        try with_reducible rfl
      try simp only [Act.put, List.setIfInBounds_toArray, List.set_cons_zero, List.set_cons_succ]
      refine takeN5 (v := ?_) (by kernel_rfl) (by kernel_rfl) (by kernel_rfl) (fun _ _ _ h => h) (by rfl) ?_ (by assumption) ?_
      rotate_left
      · intro wz hSw
        try dsimp only at hSw
        go_simp
        try with_reducible rfl
      try simp only [Act.put, List.setIfInBounds_toArray, List.set_cons_zero, List.set_cons_succ]
      refine takeN6 (v := ?_) (by kernel_rfl) (by kernel_rfl) (by kernel_rfl) (fun _ _ _ h => h) (by rfl) ?_ (by assumption) ?_
      rotate_left
      · intro wz hSw
        try dsimp only at hSw
        go_simp
        try with_reducible rfl
      try simp only [Act.put, List.setIfInBounds_toArray, List.set_cons_zero, List.set_cons_succ]
      refine takeN7 (v := ?_) (by kernel_rfl) (by kernel_rfl) (by kernel_rfl) (fun _ _ _ h => h) (by rfl) ?_ (by assumption) ?_
      rotate_left
      · intro wz hSw
        try dsimp only at hSw
        go_simp
        try with_reducible rfl
      try simp only [Act.put, List.setIfInBounds_toArray, List.set_cons_zero, List.set_cons_succ]
      refine takeN8 (v := ?_) (by kernel_rfl) (by kernel_rfl) (by kernel_rfl) (fun _ _ _ h => h) (by rfl) ?_ (by assumption) ?_
      rotate_left
      · intro wz hSw
        try dsimp only at hSw
        go_simp
        try with_reducible rfl
      try simp only [Act.put, List.setIfInBounds_toArray, List.set_cons_zero, List.set_cons_succ]
      refine takeN10 (v := ?_) (by kernel_rfl) (by kernel_rfl) (by kernel_rfl) (fun _ _ _ h => h) (by rfl) ?_ (by assumption) ?_
      rotate_left
      · intro wz hSw
        try dsimp only at hSw
        go_simp
        try with_reducible rfl
      try simp only [Act.put, List.setIfInBounds_toArray, List.set_cons_zero, List.set_cons_succ]
      refine takeN11 (v := ?_) (by kernel_rfl) (by kernel_rfl) (by kernel_rfl) (fun _ _ _ h => h) (by rfl) ?_ (by assumption) ?_
      rotate_left
      · intro wz hSw
        try dsimp only at hSw
        go_simp
        try with_reducible rfl
      try simp only [Act.put, List.setIfInBounds_toArray, List.set_cons_zero, List.set_cons_succ]
      refine takeN12 (v := ?_) (by kernel_rfl) (by kernel_rfl) (by kernel_rfl) (fun _ _ _ h => h) (by rfl) ?_ (by assumption) ?_
      rotate_left
      · intro wz hSw
        try dsimp only at hSw
        go_simp
        try with_reducible rfl
      try simp only [Act.put, List.setIfInBounds_toArray, List.set_cons_zero, List.set_cons_succ]
      refine takeN13 (v := ?_) (by kernel_rfl) (by kernel_rfl) (by kernel_rfl) (fun _ _ _ h => h) (by rfl) ?_ (by assumption) ?_
      rotate_left
      · intro wz hSw
        try dsimp only at hSw
        go_simp
        try with_reducible rfl
      try simp only [Act.put, List.setIfInBounds_toArray, List.set_cons_zero, List.set_cons_succ]
      refine wpAnyH_ready (rs := [9, 14]) (by kernel_rfl) (by simp) (AllReadyH.cons rfl (fun K hK => ?_) (AllReadyH.cons rfl (fun K hK => ?_) AllReadyH.nil))
      · rw [if_pos (by rfl)]
        go_simp
        refine hK.out _ _ ?_ (fun hHeld => ?_)
        · exact ⟨z0, z1⟩
        clear hK K
        try simp only [Act.put, List.setIfInBounds_toArray, List.set_cons_zero, List.set_cons_succ]
        refine comeN14 (by kernel_rfl) (by rfl) (fun K hK => ?_)
        go_simp
        refine hK.out _ _ ?_ (fun hHeld => ?_)
        · exact ⟨Lib.cell?_alloc_some _ z0, Lib.cell?_alloc_some _ z1⟩
        clear hK K
        try simp only [Act.put, List.setIfInBounds_toArray, List.set_cons_zero, List.set_cons_succ]
        refine comeN15 (by kernel_rfl) (by rfl) (fun K hK => ?_)
        refine step_app_at (.tmp 29) (.tmp 34) 25 rfl (w.heap.size + 1) 3 rj (.int .i64 0) 1 8 Try.underlying25 Hj.out Hy0.out Hy1.out Hy2.out rfl (by decide) _ l.length (ints l) rfl ?f1 ⟨wr.heap.size + 1, 0, none⟩ 1 1 [.int .i64 (p1 : Int)] rfl rfl ?f2 ?f3 ?f4 ?f5 ?f6 ?_
        case f1 => have h := (HE.out.next ((Below.new1 (.cells #[.int .i64 (p1 : Int)] 3)).drew)).own p2 _ HX.out; rw [HLl.out] at h; exact h
        case f2 => exact cell_new1 (wr.alloc _) _ _ _ (by simp)
        case f3 => intro u hu; simp at hu; subst hu; rfl
        case f4 => unfold maxLen; omega
        case f5 => omega
        case f6 => simp; omega
        intro v5 w5 hown5 hgrow5 hlies5
        obtain ⟨va, vc, e5, -, -⟩ := SAt.own hown5 (by simp)
        rw [List.length_append, List.length_map, List.length_singleton] at e5
        subst e5
        have NW := Lib.hid (HE.out.next ((Below.new1 (.cells #[.int .i64 (p1 : Int)] 3)).drew))
        have N5 : Hid (Nb w (w5.setCell ⟨w.heap.size, p2, none⟩ (.slice va (l.length + 1) vc)) n (nbr ((fl true e).take (k + 1))) (vs.set p2 (.slice va (l.length + 1) vc))) := by
          refine NW.out.push HX.out hgrow5 ?_ (hlies5.imp id (fun h => ⟨_, Nat.le_refl _, h⟩)) (fun i hi => ?_)
          · rw [HR.out, if_pos rfl, HLl.out, List.length_append, ints, List.map_append]
            exact hown5
          · rw [HR.out, if_neg (by omega), List.append_nil]
        have z5 := hgrow5.cell (a := ⟨wr.heap.size, 0, none⟩) (v := .int .i64 (p1 : Int)) (by first | exact hHeld.1 | exact (Lib.cell?_alloc_some _ z0)) (fun e => by have := BR.out wr.heap.size e.symm; omega)
        have z6 := hgrow5.cell (a := ⟨wr.heap.size, 1, none⟩) (v := .int .i64 (p2 : Int)) (by first | exact hHeld.2 | exact (Lib.cell?_alloc_some _ z1)) (fun e => by have := BR.out wr.heap.size e.symm; omega)
        obtain ⟨o1, -, -⟩ := NW.out.others HX.out hgrow5
        have c5 := o1.c p2 _ HX.out
        have f5 := o1.fz p2 (by rw [NW.out.len]; exact uN)
        have l5 := o1.lt
        clear o1 hown5 hgrow5 hlies5
        refine hK.out _ _ ?_ (fun hHeld => ?_)
        · exact ⟨z5, z6⟩
        clear hK K
        try simp only [Act.put, List.setIfInBounds_toArray, List.set_cons_zero, List.set_cons_succ]
        refine takeN16 (v := ?_) (by kernel_rfl) (by kernel_rfl) (by kernel_rfl) (fun _ _ _ h => h) (by rfl) ?_ (by assumption) ?_
        rotate_left
        · intro wz hSw
          try dsimp only at hSw
          go_simp
          try with_reducible rfl
        try simp only [Act.put, List.setIfInBounds_toArray, List.set_cons_zero, List.set_cons_succ]
        have s5 : (w5.setCell ⟨w.heap.size, p2, none⟩ (.slice va (l.length + 1) vc)).cell? ⟨wr.heap.size, 0, none⟩ = some (.int .i64 (p1 : Int)) := by rw [World.cell?_of_block (Below.heap_setCell _ _ _ _ (by show wr.heap.size ≠ w.heap.size; omega))]; exact z5
        have s6 : (w5.setCell ⟨w.heap.size, p2, none⟩ (.slice va (l.length + 1) vc)).cell? ⟨wr.heap.size, 1, none⟩ = some (.int .i64 (p2 : Int)) := by rw [World.cell?_of_block (Below.heap_setCell _ _ _ _ (by show wr.heap.size ≠ w.heap.size; omega))]; exact z6
        refine comeN17 (by kernel_rfl) (by rfl) (fun K hK => ?_)
        go_simp
        refine hK.out _ _ ?_ (fun hHeld => ?_)
        · exact ⟨s5, s6⟩
        clear hK K
        try simp only [Act.put, List.setIfInBounds_toArray, List.set_cons_zero, List.set_cons_succ]
        refine wpAnyH_done (by kernel_rfl) ?_ _
        clear s5 s6 z5 z6 c5 f5 l5
        go_wp2_with fail
        go_roundw
        case rel => exact ⟨k + 1, _, by congr 1, by rw [fl_len]; omega, N5.out⟩
        case measure => simp [intOf]; omega
      · rw [if_pos (by rfl)]
        go_simp
        refine hK.out _ _ ?_ (fun hHeld => ?_)
        · exact ⟨Lib.cell?_alloc_some _ z0, Lib.cell?_alloc_some _ z1⟩
        clear hK K
        try simp only [Act.put, List.setIfInBounds_toArray, List.set_cons_zero, List.set_cons_succ]
        refine comeN9 (by kernel_rfl) (by rfl) (fun K hK => ?_)
        go_simp
        refine hK.out _ _ ?_ (fun hHeld => ?_)
        · exact ⟨Lib.cell?_alloc_some _ z0, Lib.cell?_alloc_some _ z1⟩
        clear hK K
        try simp only [Act.put, List.setIfInBounds_toArray, List.set_cons_zero, List.set_cons_succ]
        refine comeN15 (by kernel_rfl) (by rfl) (fun K hK => ?_)
        refine step_app_at (.tmp 29) (.tmp 34) 25 rfl (w.heap.size + 1) 3 rj (.int .i64 0) 1 8 Try.underlying25 Hj.out Hy0.out Hy1.out Hy2.out rfl (by decide) _ l.length (ints l) rfl ?f1 ⟨wr.heap.size + 1, 0, none⟩ 1 1 [.int .i64 (p1 : Int)] rfl rfl ?f2 ?f3 ?f4 ?f5 ?f6 ?_
        case f1 => have h := (HE.out.next ((Below.new1 (.cells #[.int .i64 (p1 : Int)] 3)).drew)).own p2 _ HX.out; rw [HLl.out] at h; exact h
        case f2 => exact cell_new1 (wr.alloc _) _ _ _ (by simp)
        case f3 => intro u hu; simp at hu; subst hu; rfl
        case f4 => unfold maxLen; omega
        case f5 => omega
        case f6 => simp; omega
        intro v5 w5 hown5 hgrow5 hlies5
        obtain ⟨va, vc, e5, -, -⟩ := SAt.own hown5 (by simp)
        rw [List.length_append, List.length_map, List.length_singleton] at e5
        subst e5
        have NW := Lib.hid (HE.out.next ((Below.new1 (.cells #[.int .i64 (p1 : Int)] 3)).drew))
        have N5 : Hid (Nb w (w5.setCell ⟨w.heap.size, p2, none⟩ (.slice va (l.length + 1) vc)) n (nbr ((fl true e).take (k + 1))) (vs.set p2 (.slice va (l.length + 1) vc))) := by
          refine NW.out.push HX.out hgrow5 ?_ (hlies5.imp id (fun h => ⟨_, Nat.le_refl _, h⟩)) (fun i hi => ?_)
          · rw [HR.out, if_pos rfl, HLl.out, List.length_append, ints, List.map_append]
            exact hown5
          · rw [HR.out, if_neg (by omega), List.append_nil]
        have z5 := hgrow5.cell (a := ⟨wr.heap.size, 0, none⟩) (v := .int .i64 (p1 : Int)) (by first | exact hHeld.1 | exact (Lib.cell?_alloc_some _ z0)) (fun e => by have := BR.out wr.heap.size e.symm; omega)
        have z6 := hgrow5.cell (a := ⟨wr.heap.size, 1, none⟩) (v := .int .i64 (p2 : Int)) (by first | exact hHeld.2 | exact (Lib.cell?_alloc_some _ z1)) (fun e => by have := BR.out wr.heap.size e.symm; omega)
        obtain ⟨o1, -, -⟩ := NW.out.others HX.out hgrow5
        have c5 := o1.c p2 _ HX.out
        have f5 := o1.fz p2 (by rw [NW.out.len]; exact uN)
        have l5 := o1.lt
        clear o1 hown5 hgrow5 hlies5
        refine hK.out _ _ ?_ (fun hHeld => ?_)
        · exact ⟨z5, z6⟩
        clear hK K
        try simp only [Act.put, List.setIfInBounds_toArray, List.set_cons_zero, List.set_cons_succ]
        refine takeN16 (v := ?_) (by kernel_rfl) (by kernel_rfl) (by kernel_rfl) (fun _ _ _ h => h) (by rfl) ?_ (by assumption) ?_
        rotate_left
        · intro wz hSw
          try dsimp only at hSw
          go_simp
          try with_reducible rfl
        try simp only [Act.put, List.setIfInBounds_toArray, List.set_cons_zero, List.set_cons_succ]
        have s5 : (w5.setCell ⟨w.heap.size, p2, none⟩ (.slice va (l.length + 1) vc)).cell? ⟨wr.heap.size, 0, none⟩ = some (.int .i64 (p1 : Int)) := by rw [World.cell?_of_block (Below.heap_setCell _ _ _ _ (by show wr.heap.size ≠ w.heap.size; omega))]; exact z5
        have s6 : (w5.setCell ⟨w.heap.size, p2, none⟩ (.slice va (l.length + 1) vc)).cell? ⟨wr.heap.size, 1, none⟩ = some (.int .i64 (p2 : Int)) := by rw [World.cell?_of_block (Below.heap_setCell _ _ _ _ (by show wr.heap.size ≠ w.heap.size; omega))]; exact z6
        refine comeN17 (by kernel_rfl) (by rfl) (fun K hK => ?_)
        go_simp
        refine hK.out _ _ ?_ (fun hHeld => ?_)
        · exact ⟨s5, s6⟩
        clear hK K
        try simp only [Act.put, List.setIfInBounds_toArray, List.set_cons_zero, List.set_cons_succ]
        refine wpAnyH_done (by kernel_rfl) ?_ _
        clear s5 s6 z5 z6 c5 f5 l5
        go_wp2_with fail
        go_roundw
        case rel => exact ⟨k + 1, _, by congr 1, by rw [fl_len]; omega, N5.out⟩
        case measure => simp [intOf]; omega

theorem ahead_x (v : Value) (n : Nat) (e : E) (w : World) (hat : EAt w v e) (hel : e.length ≤ 2000) (n300 : n ≤ 300) (hn : ∀ p ∈ e, (0 ≤ p.1 ∧ p.1 < (n : Int)) ∧ 0 ≤ p.2 ∧ p.2 < (n : Int)) :
    Calls Try.prog 26 #[.int .i64 (n : Int), v] w fun r w' => ∃ a c, r = .returned (.slice a n c) ∧ LIn w.heap.size w'.heap.size w' (.slice a n c) ((nodes n).map (adj (fl false e))) ∧ Below w.heap.size w w' := by
  have H := Lib.hid (neighbours_false v n e w hat hel n300 hn)
  go_enter Try.func26, Try.ntmps26
  go_wp2_with fail
  refine H.out.mono ?_
  rintro r w1 ⟨a, c, rfl, h1, h2⟩
  have H1 := Lib.hid h1
  have H2 := Lib.hid h2
  clear h1 h2
  go_wp2_with fail
  go_ret
  exact ⟨a, c, rfl, H1.out, H2.out⟩
theorem behind_x (v : Value) (n : Nat) (e : E) (w : World) (hat : EAt w v e) (hel : e.length ≤ 2000) (n300 : n ≤ 300) (hn : ∀ p ∈ e, (0 ≤ p.1 ∧ p.1 < (n : Int)) ∧ 0 ≤ p.2 ∧ p.2 < (n : Int)) :
    Calls Try.prog 33 #[.int .i64 (n : Int), v] w fun r w' => ∃ a c, r = .returned (.slice a n c) ∧ LIn w.heap.size w'.heap.size w' (.slice a n c) ((nodes n).map (adj (fl true e))) ∧ Below w.heap.size w w' := by
  have H := Lib.hid (neighbours_true v n e w hat hel n300 hn)
  go_enter Try.func33, Try.ntmps33
  go_wp2_with fail
  refine H.out.mono ?_
  rintro r w1 ⟨a, c, rfl, h1, h2⟩
  have H1 := Lib.hid h1
  have H2 := Lib.hid h2
  clear h1 h2
  go_wp2_with fail
  go_ret
  exact ⟨a, c, rfl, H1.out, H2.out⟩

end Go.Proofs.Ytndcbhgdlaemaaa
