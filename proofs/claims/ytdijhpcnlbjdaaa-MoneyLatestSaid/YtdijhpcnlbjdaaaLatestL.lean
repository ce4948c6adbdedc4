/-
  What MoneyLatest's walk needs: a list of rates as cells, appends, rates in new blocks.
-/
import Derived.Test.YtdijhpcnlbjdaaaRisesW
import Derived.Test.YtdijhpcnlbjdaaaMonM
import Derived.Deep.RegionHeld3
import Derived.Deep.DrawnRows
import Derived.Laws.AppendOwnNone
import Derived.Maps.AppendAt
import Derived.Deep.CutBlock
import Derived.Deep.AppendLies
import Derived.OwnWalk
namespace Go.Proofs.Ytdijhpcnlbjdaaa
open Go.RowKit Mon
attribute [local go_sem ↓] Go.wp_at_zero Go.wp_at_succ

theorem infoR : (Try.prog.info? 36).map (fun i => (i.zero, i.size, i.bytes)) = some (some (.agg #[.int .i64 0, .int .i64 0, .int .i64 0, .int .i64 0, .int .i64 0]), 5, 40) := by kernel_rfl
/-- the cells of a list of rates -/
abbrev ratesC (l : List R) : List Value := (l.map rateC).flatten
theorem ratesC_len (l : List R) : (ratesC l).length = l.length * 5 := by
  induction l with
  | nil => rfl
  | cons r l ih => simp only [ratesC, List.map_cons, List.flatten_cons, List.length_append, List.length_cons, List.length_nil] at ih ⊢; omega
theorem ratesC_one (l : List R) : ∀ u ∈ ratesC l, u.oneCell' = true := by
  intro u hu
  simp only [ratesC, List.mem_flatten, List.mem_map] at hu
  obtain ⟨c, ⟨r, -, rfl⟩, hu⟩ := hu
  simp only [rateC, List.mem_cons, List.not_mem_nil, or_false] at hu
  rcases hu with rfl | rfl | rfl | rfl | rfl <;> rfl
/-- a rate in a new block -/
structure BxR (w : World) (r : R) (W : World) : Prop where
  below : Below w.heap.size w W
  lt : w.heap.size < W.heap.size
  c0 : W.cell? ⟨w.heap.size, 0, none⟩ = some (.int .i64 r.f)
  c1 : W.cell? ⟨w.heap.size, 1, none⟩ = some (.int .i64 r.t)
  c2 : W.cell? ⟨w.heap.size, 2, none⟩ = some (.int .i64 r.n)
  c3 : W.cell? ⟨w.heap.size, 3, none⟩ = some (.int .i64 r.d)
  c4 : W.cell? ⟨w.heap.size, 4, none⟩ = some (.int .i64 r.s)
theorem BxR.next {w : World} {r : R} {W W' : World} (h : BxR w r W) (hb : Below W.heap.size W W') : BxR w r W' := by
  have s := h.lt
  refine ⟨chain h.below hb, by have := hb.size; omega, ?_, ?_, ?_, ?_, ?_⟩
  · rw [hb.cell (p := ⟨w.heap.size, 0, none⟩) s]; exact h.c0
  · rw [hb.cell (p := ⟨w.heap.size, 1, none⟩) s]; exact h.c1
  · rw [hb.cell (p := ⟨w.heap.size, 2, none⟩) s]; exact h.c2
  · rw [hb.cell (p := ⟨w.heap.size, 3, none⟩) s]; exact h.c3
  · rw [hb.cell (p := ⟨w.heap.size, 4, none⟩) s]; exact h.c4
theorem BxR.start (w : World) (r : R) (T : TypeId) : BxR w r (w.alloc (.cells #[.int .i64 r.f, .int .i64 r.t, .int .i64 r.n, .int .i64 r.d, .int .i64 r.s] T)) := by
  refine ⟨Below.new _, by simp, ?_, ?_, ?_, ?_, ?_⟩ <;> rw [World.cell?_alloc_new] <;> rfl
theorem BxR.nextB {w : World} {r : R} {W W' : World} {B : Nat} (h : BxR w r W) (hb : Below B W W') (hB : w.heap.size < B) : BxR w r W' := by
  refine ⟨h.below.trans (hb.mono (by omega)), Nat.lt_of_lt_of_le h.lt hb.size, ?_, ?_, ?_, ?_, ?_⟩
  · rw [hb.cell (p := ⟨w.heap.size, 0, none⟩) hB]; exact h.c0
  · rw [hb.cell (p := ⟨w.heap.size, 1, none⟩) hB]; exact h.c1
  · rw [hb.cell (p := ⟨w.heap.size, 2, none⟩) hB]; exact h.c2
  · rw [hb.cell (p := ⟨w.heap.size, 3, none⟩) hB]; exact h.c3
  · rw [hb.cell (p := ⟨w.heap.size, 4, none⟩) hB]; exact h.c4
theorem BxR.alloc {w : World} {r : R} {W : World} (h : BxR w r W) (o : Obj) : BxR w r (W.alloc o) := h.next (Below.new o)
theorem BxR.drew {w : World} {r : R} {W : World} (h : BxR w r W) : BxR w r W.drew := h.next (Below.refl _ _).drew
theorem BxR.grown {w : World} {r : R} {W W' : World} {row : Option Nat} (h : BxR w r W) (hg : W.grownBy W' row) (hr : ∀ k, row = some k → w.heap.size + 1 ≤ k) : BxR w r W' :=
  h.nextB ((Below.refl (w.heap.size + 1) W).grown hg h.lt hr) (Nat.lt_succ_self _)
theorem bx_all {w : World} {r : R} {W : World} (h : BxR w r W) : w.heap.size < W.heap.size ∧ W.cell? ⟨w.heap.size, 0, none⟩ = some (.int .i64 r.f) ∧ W.cell? ⟨w.heap.size, 1, none⟩ = some (.int .i64 r.t) ∧ W.cell? ⟨w.heap.size, 2, none⟩ = some (.int .i64 r.n) ∧ W.cell? ⟨w.heap.size, 3, none⟩ = some (.int .i64 r.d) ∧ W.cell? ⟨w.heap.size, 4, none⟩ = some (.int .i64 r.s) :=
  ⟨h.lt, h.c0, h.c1, h.c2, h.c3, h.c4⟩
theorem own_empty (W : World) (T : TypeId) (base n : Nat) (hn : n = W.heap.size) (hb : base ≤ n) : (W.alloc (.cells #[] T)).ownsRow base T 5 (.slice (some ⟨n, 0, none⟩) 0 0) 0 [] := by
  subst hn
  exact World.ownsRow_lit W #[] 0 hb (by decide) rfl
theorem step_app {P : Program} {w : World} {ops : Array Oper} {o : Oper} {a : Act} {K : Act → World → Prop} {Q : Exit → Act → World → Prop} {E : Prop} (hgd : o.guard = none) (s x : Operand) (t : TypeId)
    (ho : o.op = .call { callee := .builtin .append, args := #[s, x], argTypes := #[t, t] })
    (base : Nat) (e : TypeId) (i : TypeInfo) (z : Value) (size bytes : Nat) (ht : P.underlying t = some (.slice e)) (hi : P.info? e = some i) (hz : i.zero = some z)
    (hsize : i.size = size) (hby : i.bytes = bytes) (hzs : z.cells.size = size) (hsz : 0 < size)
    (v : Value) (n : Nat) (xs : List Value) (hs : a.eval s = v) (hown : w.ownsRow base e size v n xs)
    (ad : Addr) (m c : Nat) (news : List Value) (hx : a.eval x = .slice (some ad) m c) (hl : news.length = m * size) (hnews : ∀ j u, news[j]? = some u → w.cell? (ad.add j) = some u) (h1 : ∀ u ∈ news, u.oneCell' = true)
    (h63 : n + m ≤ maxLen) (hbytes : (n + m) * bytes ≤ 140737488355328) (hbase : base ≤ w.heap.size)
    (h : ∀ v' w', w'.ownsRow base e size v' (n + m) (xs ++ news) → w.grownBy w' v.ownBlock → K (a.put o.dst v') w') :
    if Region.wanted o (yielded ops a.tmps) = true then Oper.wp P o a w K Q else E := by
  rw [if_pos (by simp [Region.wanted, hgd])]
  exact wp_append_own w s x t ho base e i z size bytes ht hi hz hsize hby hzs hsz v n xs hs hown ad m c news hx hl hnews h1 h63 hbytes hbase fun v' w' h2 h3 _ => h v' w' h2 h3
/-- the cells of a list of rates, one after the other -/
theorem rates_flat {w : World} {l : List R} {ad : Addr} (h : ∀ j r, l[j]? = some r → ∃ b off, some ad = some (⟨b, off, none⟩ : Addr) ∧ b < w.heap.size ∧
    w.cell? ⟨b, off + j * 5, none⟩ = some (.int .i64 r.f) ∧ w.cell? ⟨b, off + j * 5 + 1, none⟩ = some (.int .i64 r.t) ∧ w.cell? ⟨b, off + j * 5 + 2, none⟩ = some (.int .i64 r.n) ∧ w.cell? ⟨b, off + j * 5 + 3, none⟩ = some (.int .i64 r.d) ∧ w.cell? ⟨b, off + j * 5 + 4, none⟩ = some (.int .i64 r.s)) :
    ∀ i u, (ratesC l)[i]? = some u → ad.block < w.heap.size ∧ ad.spot = none ∧ w.cell? ⟨ad.block, ad.off + i, none⟩ = some u := by
  have key : ∀ (l : List R) (i : Nat) (u : Value), (ratesC l)[i]? = some u → ∃ (j c : Nat) (r : R), i = j * 5 + c ∧ c < 5 ∧ l[j]? = some r ∧ (rateC r)[c]? = some u := by
    intro l
    induction l with
    | nil => intro i u hu; simp [ratesC] at hu
    | cons x l ih =>
      intro i u hu
      have e : ratesC (x :: l) = rateC x ++ ratesC l := by simp [ratesC]
      rw [e] at hu
      by_cases c : i < 5
      · rw [List.getElem?_append_left (by exact c)] at hu
        exact ⟨0, i, x, by omega, c, rfl, hu⟩
      · rw [List.getElem?_append_right (by show 5 ≤ i; omega)] at hu
        obtain ⟨j, c', r, h1, h2, h3, h4⟩ := ih _ _ hu
        have h5 : (rateC x).length = 5 := rfl
        exact ⟨j + 1, c', r, by omega, h2, by simpa using h3, h4⟩
  intro i u hu
  obtain ⟨j, c, r, rfl, hc, hj, hr⟩ := key l i u hu
  obtain ⟨b, off, e, hb, h0, h1, h2, h3, h4⟩ := h j r hj
  injection e with e
  subst e
  refine ⟨hb, rfl, ?_⟩
  match c, hc with
  | 0, _ => rw [← hr]; exact h0
  | 1, _ => rw [← hr]; exact h1
  | 2, _ => rw [← hr]; exact h2
  | 3, _ => rw [← hr]; exact h3
  | 4, _ => rw [← hr]; exact h4
theorem rates_take {w W : World} {l : List R} {ad : Addr} {k : Nat} (h : ∀ i u, (ratesC l)[i]? = some u → ad.block < w.heap.size ∧ ad.spot = none ∧ w.cell? ⟨ad.block, ad.off + i, none⟩ = some u) (hb : Below w.heap.size w W) {j : Nat} {u : Value} (hu : (ratesC (l.take k))[j]? = some u) : W.cell? (ad.add j) = some u := by
  have e : ratesC l = ratesC (l.take k) ++ ratesC (l.drop k) := by simp only [ratesC]; rw [← List.flatten_append, ← List.map_append, List.take_append_drop]
  have hj : j < (ratesC (l.take k)).length := (List.getElem?_eq_some_iff.1 hu).1
  obtain ⟨h1, h2, h3⟩ := h j u (by rw [e, List.getElem?_append_left hj]; exact hu)
  obtain ⟨b, off, spot⟩ := ad
  simp only at h2
  subst h2
  have hadd : (⟨b, off, none⟩ : Addr).add j = ⟨b, off + j, none⟩ := by unfold Addr.add; split <;> simp_all
  rw [hadd, hb.cell (p := ⟨b, off + j, none⟩) h1]
  exact h3
theorem rates_drop {w W : World} {l : List R} {ad : Addr} {k : Nat} (h : ∀ i u, (ratesC l)[i]? = some u → ad.block < w.heap.size ∧ ad.spot = none ∧ w.cell? ⟨ad.block, ad.off + i, none⟩ = some u) (hb : Below w.heap.size w W) (hk : k ≤ l.length) {j : Nat} {u : Value} (hu : (ratesC (l.drop k))[j]? = some u) : W.cell? ((ad.add (k * 5)).add j) = some u := by
  have e : ratesC l = ratesC (l.take k) ++ ratesC (l.drop k) := by simp only [ratesC]; rw [← List.flatten_append, ← List.map_append, List.take_append_drop]
  have hl : (ratesC (l.take k)).length = k * 5 := by rw [ratesC_len, List.length_take]; omega
  obtain ⟨h1, h2, h3⟩ := h (k * 5 + j) u (by rw [e, List.getElem?_append_right (by omega), hl]; rw [show k * 5 + j - k * 5 = j by omega]; exact hu)
  obtain ⟨b, off, spot⟩ := ad
  simp only at h2
  subst h2
  have hadd : ((⟨b, off, none⟩ : Addr).add (k * 5)).add j = ⟨b, off + (k * 5 + j), none⟩ := by
    unfold Addr.add
    by_cases c1 : k * 5 = 0 <;> by_cases c2 : j = 0 <;> simp [c1, c2]
    omega
  rw [hadd, hb.cell (p := ⟨b, off + (k * 5 + j), none⟩) h1]
  exact h3
theorem lessBlk (b o j : Nat) : ((⟨b, o, none⟩ : Addr).add j).block = b := by unfold Addr.add; split <;> rfl
theorem rate_one (r : R) : ∀ u ∈ rateC r, u.oneCell' = true := by
  intro u hu
  simp only [rateC, List.mem_cons, List.not_mem_nil, or_false] at hu
  rcases hu with rfl | rfl | rfl | rfl | rfl <;> rfl
theorem rates_get (l : List R) : ∀ (j : Nat) (r : R), l[j]? = some r → ∀ c u, (rateC r)[c]? = some u → c < 5 → (ratesC l)[j * 5 + c]? = some u := by
  induction l with
  | nil => intro j t h; simp at h
  | cons x l ih =>
    intro j t h i u hu hi
    have hl : (rateC x).length = 5 := rfl
    have e : ratesC (x :: l) = rateC x ++ ratesC l := by simp [ratesC]
    rw [e]
    cases j with
    | zero =>
      simp at h
      subst h
      rw [List.getElem?_append_left (by omega), Nat.zero_mul, Nat.zero_add]
      exact hu
    | succ j =>
      rw [List.getElem?_append_right (by omega), hl, show (j + 1) * 5 + i - 5 = j * 5 + i from by omega]
      exact ih j t (by simpa using h) i u hu hi
/-- what the call owns reads as rates -/
theorem RAt.own {w : World} {base n : Nat} {T : TypeId} {v : Value} {xs : List Value} {L : List R} (h : w.ownsRow base T 5 v n xs) (e : xs = ratesC L) (hn : n = L.length) : RAt w v L := by
  subst e hn
  rcases h.2 with ⟨rfl, h0⟩ | ⟨g, cap, cur, rfl, hg, hh, h1, h2, h3, h4⟩
  · refine ⟨none, 0, by rw [h0], by omega, fun j r hj => ?_⟩
    have := (List.getElem?_eq_some_iff.1 hj).1
    omega
  · have hlt : g < w.heap.size := (Array.getElem?_eq_some_iff.1 hh).1
    refine ⟨some ⟨g, 0, none⟩, cap, rfl, h1, fun j r hj => ⟨g, 0, rfl, hlt, ?_⟩⟩
    have hc : ∀ c u, (rateC r)[c]? = some u → c < 5 → w.cell? ⟨g, 0 + (j * 5 + c), none⟩ = some u := fun c u hu hc => by
      have h5 := h.cells rfl (j * 5 + c) u (rates_get L j r hj c u hu hc)
      have hadd : (⟨g, 0, none⟩ : Addr).add (j * 5 + c) = ⟨g, 0 + (j * 5 + c), none⟩ := by unfold Addr.add; split <;> simp_all
      rw [← hadd]
      exact h5
    exact ⟨hc 0 _ rfl (by omega), hc 1 _ rfl (by omega), hc 2 _ rfl (by omega), hc 3 _ rfl (by omega), hc 4 _ rfl (by omega)⟩
theorem rates_more (l : List R) (r : R) (k : Nat) : [] ++ ratesC (l.take k) ++ rateC r ++ ratesC (l.drop k) = ratesC (l.take k ++ r :: l.drop k) := by
  simp only [ratesC, List.map_append, List.map_cons, List.flatten_append, List.flatten_cons, List.nil_append, List.append_assoc]
theorem rate_new (W : World) (r : R) (T : TypeId) (n : Nat) (hn : n = W.heap.size) : ∀ j u, (rateC r)[j]? = some u → (W.alloc (.cells #[.int .i64 r.f, .int .i64 r.t, .int .i64 r.n, .int .i64 r.d, .int .i64 r.s] T)).cell? ((⟨n, 0, none⟩ : Addr).add j) = some u := by
  subst hn
  intro j u hu
  have hadd : (⟨W.heap.size, 0, none⟩ : Addr).add j = ⟨W.heap.size, j, none⟩ := by unfold Addr.add; split <;> simp_all
  rw [hadd, World.cell?_alloc_new]
  simpa using hu
theorem place (n at' : Int) (hn : 0 ≤ n) : ∃ (mn : Int) (k : Nat), (if n < at' then n else at') = mn ∧ (if 0 < mn then mn else 0) = (k : Int) ∧ (k : Int) ≤ n := by
  refine ⟨_, (if 0 < (if n < at' then n else at') then (if n < at' then n else at') else 0).toNat, rfl, ?_, ?_⟩ <;> (repeat' split) <;> omega

theorem step_none {P : Program} {w : World} {ops : Array Oper} {o : Oper} {a : Act} {K : Act → World → Prop} {Q : Exit → Act → World → Prop} {E : Prop} (hgd : o.guard = none) (s x : Operand) (t : TypeId)
    (ho : o.op = .call { callee := .builtin .append, args := #[s, x], argTypes := #[t, t] })
    (base : Nat) (e : TypeId) (i : TypeInfo) (size : Nat) (ht : P.underlying t = some (.slice e)) (hi : P.info? e = some i)
    (v : Value) (n : Nat) (xs : List Value) (hs : a.eval s = v) (hown : w.ownsRow base e size v n xs) (hx : a.eval x = .slice none 0 0)
    (h : ∀ v' w', w'.ownsRow base e size v' n xs → w.grownBy w' v.ownBlock → K (a.put o.dst v') w') :
    if Region.wanted o (yielded ops a.tmps) = true then Oper.wp P o a w K Q else E := by
  rw [if_pos (by simp [Region.wanted, hgd])]
  have hrun := run_append_owned_none (P := P) (w := w) base t o.type e i size ht hi v n xs hown
  unfold Oper.wp execOp
  simp only [ho, resolve, invoke, builtin, Sem.run_bind, Sem.run_pure, Result.andThen_ok, List.map_toArray, List.map_cons, List.map_nil, hs, hx, hrun]
  exact h v w hown (World.grownBy.refl _ _)
/-- the row of one rate, as a slice of the call's own -/
theorem own_one (W : World) (r : R) (T : TypeId) (base n : Nat) (hn : n = W.heap.size) (hb : base ≤ n) : (W.alloc (.cells #[.int .i64 r.f, .int .i64 r.t, .int .i64 r.n, .int .i64 r.d, .int .i64 r.s] T)).ownsRow base T 5 (.slice (some ⟨n, 0, none⟩) 1 1) 1 (rateC r) := by
  subst hn
  exact World.ownsRow_lit W #[.int .i64 r.f, .int .i64 r.t, .int .i64 r.n, .int .i64 r.d, .int .i64 r.s] 1 hb (by decide) rfl
theorem rates_cons (l : List R) (r : R) : rateC r ++ ratesC l = ratesC (r :: l) := by simp only [ratesC, List.map_cons, List.flatten_cons]
theorem rates_whole {w W : World} {l : List R} {ad : Addr} (h : ∀ i u, (ratesC l)[i]? = some u → ad.block < w.heap.size ∧ ad.spot = none ∧ w.cell? ⟨ad.block, ad.off + i, none⟩ = some u) (hb : Below w.heap.size w W) {j : Nat} {u : Value} (hu : (ratesC l)[j]? = some u) : W.cell? (ad.add j) = some u := by
  have e : l = l.take l.length := (List.take_length).symm
  rw [e] at hu
  exact rates_take h hb hu
/-- a rate of the pair, or of the opposite one -/
def pairB (r : R) (f t : Int) : Bool := decide (r.f = f ∧ r.t = t ∨ r.f = t ∧ r.t = f)

end Go.Proofs.Ytdijhpcnlbjdaaa
