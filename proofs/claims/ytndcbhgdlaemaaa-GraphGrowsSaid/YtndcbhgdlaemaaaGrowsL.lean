/-
  What GraphGrows' walk needs.
-/
import Derived.Test.YtndcbhgdlaemaaaGroupsL
import Derived.Test.YtndcbhgdlaemaaaLawB
import Derived.Deep.RegionHeld3
import Derived.Deep.DrawnRows
import Derived.Laws.AppendOwnNone
import Derived.Maps.AppendAt
import Derived.Deep.AppendLies
namespace Go.Proofs.Ytndcbhgdlaemaaa
open Go.RowKit Gr

/-- an edge in a new block -/
structure BxE (w : World) (m : Int × Int) (W : World) : Prop where
  below : Below w.heap.size w W
  lt : w.heap.size < W.heap.size
  c0 : W.cell? ⟨w.heap.size, 0, none⟩ = some (.int .i64 m.1)
  c1 : W.cell? ⟨w.heap.size, 1, none⟩ = some (.int .i64 m.2)
theorem BxE.nextB {w : World} {m : Int × Int} {W W' : World} {B : Nat} (h : BxE w m W) (hb : Below B W W') (hB : w.heap.size < B) : BxE w m W' := by
  refine ⟨h.below.trans (hb.mono (by omega)), Nat.lt_of_lt_of_le h.lt hb.size, ?_, ?_⟩
  · rw [hb.cell (p := ⟨w.heap.size, 0, none⟩) hB]; exact h.c0
  · rw [hb.cell (p := ⟨w.heap.size, 1, none⟩) hB]; exact h.c1
theorem BxE.next {w : World} {m : Int × Int} {W W' : World} (h : BxE w m W) (hb : Below W.heap.size W W') : BxE w m W' := h.nextB hb h.lt
theorem BxE.start (w : World) (m : Int × Int) (T : TypeId) : BxE w m (w.alloc (.cells #[.int .i64 m.1, .int .i64 m.2] T)) := by
  refine ⟨Below.new1 _, by simp, ?_, ?_⟩ <;> rw [World.cell?_alloc_new] <;> rfl
theorem BxE.alloc {w : World} {m : Int × Int} {W : World} (h : BxE w m W) (o : Obj) : BxE w m (W.alloc o) := h.next (Below.new1 o)
theorem BxE.drew {w : World} {m : Int × Int} {W : World} (h : BxE w m W) : BxE w m W.drew := h.next (Below.refl _ _).drew
theorem BxE.grown {w : World} {m : Int × Int} {W W' : World} {row : Option Nat} (h : BxE w m W) (hg : W.grownBy W' row) (hr : ∀ k, row = some k → w.heap.size + 1 ≤ k) : BxE w m W' :=
  h.nextB ((Below.refl (w.heap.size + 1) W).grown hg h.lt hr) (Nat.lt_succ_self _)
theorem be_all {w : World} {m : Int × Int} {W : World} (h : BxE w m W) : w.heap.size < W.heap.size ∧ W.cell? ⟨w.heap.size, 0, none⟩ = some (.int .i64 m.1) ∧ W.cell? ⟨w.heap.size, 1, none⟩ = some (.int .i64 m.2) := ⟨h.lt, h.c0, h.c1⟩
theorem step_app2 {P : Program} {w : World} {ops : Array Oper} {o : Oper} {a : Act} {K : Act → World → Prop} {Q : Exit → Act → World → Prop} {E : Prop} (hgd : o.guard = none) (s x : Operand) (t : TypeId)
    (ho : o.op = .call { callee := .builtin .append, args := #[s, x], argTypes := #[t, t] })
    (base : Nat) (e : TypeId) (i : TypeInfo) (z : Value) (size bytes : Nat) (ht : P.underlying t = some (.slice e)) (hi : P.info? e = some i) (hz : i.zero = some z)
    (hsize : i.size = size) (hby : i.bytes = bytes) (hzs : z.cells.size = size) (hsz : 0 < size)
    (v : Value) (n : Nat) (xs : List Value) (hs : a.eval s = v) (hown : w.ownsRow base e size v n xs)
    (ad : Addr) (m c : Nat) (news : List Value) (hx : a.eval x = .slice (some ad) m c) (hl : news.length = m * size) (hnews : ∀ j u, news[j]? = some u → w.cell? (ad.add j) = some u) (h1 : ∀ u ∈ news, u.oneCell' = true)
    (h63 : n + m ≤ maxLen) (hbytes : (n + m) * bytes ≤ 140737488355328) (hbase : base ≤ w.heap.size)
    (h : ∀ v' w', w'.ownsRow base e size v' (n + m) (xs ++ news) → w.grownBy w' v.ownBlock → K (a.put o.dst v') w') :
    if Region.wanted o (yielded ops a.tmps) = true then Oper.wp P o a w K Q else E := by
  rw [if_pos (by simp [Region.wanted, hgd])]
  exact wp_append_own w s x t ho base e i z size bytes ht hi hz hsize hby hzs hsz v n xs hs hown ad m c news hx hl hnews h1 h63 hbytes hbase fun v' w' h2 h3 _ => h v' w' h2 h3
theorem step_none2 {P : Program} {w : World} {ops : Array Oper} {o : Oper} {a : Act} {K : Act → World → Prop} {Q : Exit → Act → World → Prop} {E : Prop} (hgd : o.guard = none) (s x : Operand) (t : TypeId)
    (ho : o.op = .call { callee := .builtin .append, args := #[s, x], argTypes := #[t, t] })
    (base : Nat) (e : TypeId) (i : TypeInfo) (size : Nat) (ht : P.underlying t = some (.slice e)) (hi : P.info? e = some i)
    (v : Value) (n : Nat) (xs : List Value) (hs : a.eval s = v) (hown : w.ownsRow base e size v n xs) (hx : a.eval x = .slice none 0 0)
    (h : ∀ v' w', w'.ownsRow base e size v' n xs → w.grownBy w' v.ownBlock → K (a.put o.dst v') w') :
    if Region.wanted o (yielded ops a.tmps) = true then Oper.wp P o a w K Q else E := by
  rw [if_pos (by simp [Region.wanted, hgd])]
  have hrun := run_append_owned_none (P := P) (w := w) base t o.type e i size ht hi v n xs hown
  unfold Oper.wp execOp
  simp only [ho, resolve, invoke, builtin, Sem.run_bind, Sem.run_pure, Result.andThen_ok, List.map_toArray, List.map_cons, List.map_nil, hs, hx, hrun]
  exact h v w hown (World.grownBy.refl _ _)
theorem addBlk (b o j : Nat) : ((⟨b, o, none⟩ : Addr).add j).block = b := by rw [add_plain]
theorem edges_in {w W : World} {ad : Addr} {n cap : Nat} {e : E} (h : EAt w (.slice (some ad) n cap) e) (hb : Below w.heap.size w W) : ∀ j u, (edgesC e)[j]? = some u → W.cell? (ad.add j) = some u := by
  intro j u hu
  obtain ⟨h1, h2, h3⟩ := h.flat j u hu
  obtain ⟨b, off, spot⟩ := ad
  simp only at h2
  subst h2
  rw [add_plain, hb.cell (p := ⟨b, off + j, none⟩) h1]
  exact h3
theorem edge_new (W : World) (m : Int × Int) (T : TypeId) (n : Nat) (hn : n = W.heap.size) : ∀ j u, (edgesC [m])[j]? = some u → (W.alloc (.cells #[.int .i64 m.1, .int .i64 m.2] T)).cell? ((⟨n, 0, none⟩ : Addr).add j) = some u := by
  subst hn
  intro j u hu
  rw [add_plain, Nat.zero_add]
  exact cell_new hu
theorem right_sub {n : Int} {e f : E} (h : rightB n f = true) (hs : ∀ p ∈ e, p ∈ f) (hl : e.length ≤ f.length) : rightB n e = true := by
  rw [right_iff] at *
  exact ⟨h.1, by omega, fun p hp => h.2.2 p (hs p hp)⟩
/-- nodes of one group have the same mark -/
theorem mark_same {N : Nat} {e : E} (hr : rightB N e = true) {off : Int} {Q : List Int} (h : QS N (groups N e) off (groups N e).length 0 Q) {x y : Nat} (hx : x < N) (hy : y < N) (hm : mutB e x y = true) : ∃ z : Int, Q[x]? = some z ∧ Q[y]? = some z := by
  obtain ⟨j, s, m, h1, h2, h3⟩ := h.at hr hx
  obtain ⟨j', s', m', k1, k2, k3⟩ := h.at hr hy
  have := (groups_same hr h1 (List.mem_of_getElem? h2) k1 (List.mem_of_getElem? k2)).2 hm
  subst this
  exact ⟨_, h3, k3⟩
def W1R (N : Nat) (L : List (List Int)) (g : Nat) (W0 : World) (i : Value) (wr : World) : Prop := ∃ (j : Nat) (Q : List Int), j ≤ L.length ∧ i = .int .i64 (j : Int) ∧ QS N L 0 j 0 Q ∧ Row wr g (ints Q) ∧ Below g W0 wr
def W2R (N : Nat) (L : List (List Int)) (g : Nat) (W0 : World) (j : Nat) (l : List Int) (i : Value) (wr : World) : Prop := ∃ (k : Nat) (Q : List Int), k ≤ l.length ∧ i = .int .i64 (k : Int) ∧ QS N L 0 j k Q ∧ Row wr g (ints Q) ∧ Below g W0 wr

end Go.Proofs.Ytndcbhgdlaemaaa
