/-
  The reference's Scan.
-/
import Derived.Test.YtmpgbdibagnanaaDoorRefE
namespace Go.Proofs.YtmpgbdibagnanaaDoor
open Go.RowKit

/-- a token's cells -/
def tokC (t : Lx.Tok) : List Value := [.int .i64 (t.kind : Int), .string (mk t.text), .int .i64 (t.n : Int), .int .i64 (t.pos : Int)]
def toksC (l : List Lx.Tok) : List Value := (l.map tokC).flatten
theorem toksC_snoc (l : List Lx.Tok) (t : Lx.Tok) : toksC (l ++ [t]) = toksC l ++ tokC t := by simp [toksC]

theorem infoT : (Tryd.prog.info? 25).map (fun i => (i.zero, i.size, i.bytes)) = some (some (.agg #[.int .i64 0, .string ⟨#[]⟩, .int .i64 0, .int .i64 0]), 4, 40) := by kernel_rfl

def tks (r : Except (Nat × Nat) (List Lx.Tok)) : List Lx.Tok := match r with | .error _ => [] | .ok l => l
def eP (r : Except (Nat × Nat) (List Lx.Tok)) : Nat := match r with | .error e => e.1 | .ok _ => 0
def eE (r : Except (Nat × Nat) (List Lx.Tok)) : Nat := match r with | .error e => e.2 | .ok _ => 0

def ScPost (r : Except (Nat × Nat) (List Lx.Tok)) (w : World) (e : Ending) (w' : World) : Prop :=
  ∃ v, e = .returned (.tuple #[v, .int .i64 (eP r : Int), .int .i64 (eE r : Int)]) ∧ w'.ownsRow w.heap.size 25 4 v (tks r).length (toksC (tks r)) ∧ Below w.heap.size w w'

theorem sc_err {r : Except (Nat × Nat) (List Lx.Tok)} {w w' : World} {p e : Nat} (h : r = .error (p, e)) (hb : Below w.heap.size w w') (x y : Value) (hx : x = .int .i64 (p : Int)) (hy : y = .int .i64 (e : Int)) : ScPost r w (.returned (.tuple #[.slice none 0 0, x, y])) w' := by
  subst h; subst hx; subst hy
  exact ⟨_, rfl, World.ownsRow_nil _ _ _ _, hb⟩
theorem sc_ok {r : Except (Nat × Nat) (List Lx.Tok)} {w w' : World} {l : List Lx.Tok} {v : Value} (h : r = .ok l) (ho : w'.ownsRow w.heap.size 25 4 v l.length (toksC l)) (hb : Below w.heap.size w w') : ScPost r w (.returned (.tuple #[v, .int .i64 0, .int .i64 0])) w' := by
  subst h
  exact ⟨_, rfl, ho, hb⟩

/-- the flag's weight -/
def flagW : Value → Nat | .bool true => 0 | _ => 1

/-- what has been read, and what is still to be -/
def Ahead (r : Except (Nat × Nat) (List Lx.Tok)) (k : Nat) (cm : Bool) (rest : List UInt8) (l : List Lx.Tok) : Prop := r = (match Lx.scan k cm rest with
  | .error e => .error e
  | .ok l' => .ok (l ++ l'))

def ScRel (s : ByteArray) (w : World) (out i c : Value) (wr : World) : Prop := ∃ (k : Nat) (cm : Bool) (l : List Lx.Tok), k ≤ s.size ∧ i = .int .i64 k ∧ c = .bool cm ∧ l.length ≤ k ∧ wr.ownsRow w.heap.size 25 4 out l.length (toksC l) ∧ Below w.heap.size w wr ∧
  Ahead (Lx.scan 0 false s.data.toList) k cm (s.data.toList.drop k) l

theorem ah_start (s : ByteArray) : Ahead (Lx.scan 0 false s.data.toList) 0 false (s.data.toList.drop 0) [] := by
  unfold Ahead
  rw [List.drop_zero]
  cases Lx.scan 0 false s.data.toList <;> rfl
theorem ah_idle {r : Except (Nat × Nat) (List Lx.Tok)} {k : Nat} {cm : Bool} {c : UInt8} {rest : List UInt8} {l : List Lx.Tok} (h : Ahead r k cm (c :: rest) l) (hi : ((cm && c != 10) || Lx.isBlank c) = true) : Ahead r (k + 1) (cm && c != 10) rest l := by
  unfold Ahead at *
  rw [h, Lx.scan_idle hi]
theorem ah_comment {r : Except (Nat × Nat) (List Lx.Tok)} {k : Nat} {cm : Bool} {c : UInt8} {rest : List UInt8} {l : List Lx.Tok} (h : Ahead r k cm (c :: rest) l) (hi : ((cm && c != 10) || Lx.isBlank c) = false) (hc : c = 35) : Ahead r k true (c :: rest) l := by
  unfold Ahead at *
  rw [h, Lx.scan_comment hi hc, Lx.scan_idle (cm := true) (by subst hc; decide)]
  subst hc
  rfl
theorem ah_err {r : Except (Nat × Nat) (List Lx.Tok)} {k e : Nat} {cm : Bool} {c : UInt8} {rest : List UInt8} {l : List Lx.Tok} (h : Ahead r k cm (c :: rest) l) (hi : ((cm && c != 10) || Lx.isBlank c) = false) (hc : c ≠ 35) (ht : Lx.tok c rest = .error e) : r = .error (k, e) := by
  unfold Ahead at h
  rw [h, Lx.scan_tok hi hc, ht]
theorem ah_tok {r : Except (Nat × Nat) (List Lx.Tok)} {k : Nat} {cm : Bool} {c : UInt8} {rest rest' : List UInt8} {x : Nat × List UInt8 × Nat} {l : List Lx.Tok} (h : Ahead r k cm (c :: rest) l) (hi : ((cm && c != 10) || Lx.isBlank c) = false) (hc : c ≠ 35) (ht : Lx.tok c rest = .ok (x, rest')) :
    Ahead r (k + (rest.length + 1 - rest'.length)) false rest' (l ++ [⟨x.1, x.2.1, x.2.2, k⟩]) := by
  unfold Ahead at *
  rw [h, Lx.scan_tok hi hc, ht]
  simp only
  cases Lx.scan (k + (rest.length + 1 - rest'.length)) false rest' with
  | error e => rfl
  | ok l' => simp
theorem ah_done {r : Except (Nat × Nat) (List Lx.Tok)} {k : Nat} {cm : Bool} {l : List Lx.Tok} (h : Ahead r k cm [] l) : r = .ok l := by
  unfold Ahead at h
  rw [h, Lx.scan_nil]
  simp

theorem tok_rest {s : ByteArray} {k : Nat} (hk : k < s.size) {x : Nat × List UInt8 × Nat} {rest : List UInt8} (h : Lx.tok s[k] (s.data.toList.drop (k + 1)) = .ok (x, rest)) :
    rest = s.data.toList.drop (s.size - rest.length) ∧ k + ((s.data.toList.drop (k + 1)).length + 1 - rest.length) = s.size - rest.length ∧ k + 1 ≤ s.size - rest.length ∧ rest.length ≤ s.size := by
  have h1 := (Lx.tok_ok h 0).2
  rw [← drop_cons s k hk] at h1
  have h2 := congrArg List.length h1
  rw [List.length_append, List.length_drop, ← size_of] at h2
  have h3 := Lx.tok_len h
  rw [List.length_drop, ← size_of] at h3
  rw [List.length_drop, ← size_of]
  refine ⟨?_, by omega, by omega, by omega⟩
  have h4 := congrArg (List.drop (Lx.shown ⟨x.1, x.2.1, x.2.2, 0⟩).length) h1
  rw [List.drop_left, List.drop_drop] at h4
  rw [show s.size - rest.length = k + (Lx.shown ⟨x.1, x.2.1, x.2.2, 0⟩).length from by omega]
  exact h4.symm

theorem below_own {w w' : World} {B base : Nat} {e : TypeId} {size : Nat} {v : Value} {n : Nat} {xs : List Value} (h : w.ownsRow base e size v n xs) (hb : Below B w w') (hB : w.heap.size ≤ B) : w'.ownsRow base e size v n xs := by
  refine ⟨h.1, ?_⟩
  rcases h.2 with hn | ⟨g, cap, cur, rfl, h1, hg, rest⟩
  · exact .inl hn
  · have hlt : g < w.heap.size := (Array.getElem?_eq_some_iff.1 hg).1
    exact .inr ⟨g, cap, cur, rfl, h1, by rw [hb.block g (by omega)]; exact hg, rest⟩

theorem cells_new (w : World) (C : Array Value) (T : TypeId) (n : Nat) (hn : n = w.heap.size) : ∀ j u, C.toList[j]? = some u → (w.alloc (.cells C T)).cell? ((⟨n, 0, none⟩ : Addr).add j) = some u := by
  subst hn
  intro j u hu
  rw [show (⟨w.heap.size, 0, none⟩ : Addr).add j = ⟨w.heap.size, j, none⟩ from by unfold Addr.add; split <;> simp_all, World.cell?_alloc_new]
  simpa using hu

theorem c10_eq {c : UInt8} : (c != 10) = true ↔ ¬ (c.toNat : Int) = 10 := by
  rw [bne_iff_ne, ne_eq, ← UInt8.toNat_inj]
  simp
  omega
theorem c10_ne {c : UInt8} (h : ¬ (c.toNat : Int) = 10) : (c != 10) = true := c10_eq.2 h
theorem c10_is {c : UInt8} (h : (c.toNat : Int) = 10) : (c != 10) = false := by
  cases hb : (c != 10) with
  | false => rfl
  | true => exact absurd h (c10_eq.1 hb)
theorem c35 {c : UInt8} (h : (c.toNat : Int) = 35) : c = 35 := UInt8.toNat_inj.1 (by show _ = 35; omega)
theorem n35 {c : UInt8} (h : ¬ (c.toNat : Int) = 35) : c ≠ 35 := by rintro rfl; exact h rfl

set_option maxHeartbeats 6400000 in
theorem Scan_x (s : ByteArray) (w : World) (hs : s.size ≤ 20000) :
    Calls Tryd.prog 12 #[.string s] w fun e w' => ScPost (Lx.scan 0 false s.data.toList) w e w' := by
  obtain ⟨i0, hi, hz0, hz1, hz2⟩ := info_parts infoT
  go_enter Tryd.func12, Tryd.ntmps12
  go_wp2_with fail
  go_loopw [5, 6, 7] (fun out i c wr => ScRel s w out i c wr) (fun _ i c _ => 2 * (s.size - (intOf i).toNat) + flagW c)
  case atStart => exact ⟨0, false, [], Nat.zero_le _, rfl, rfl, Nat.le_refl _, World.ownsRow_nil _ _ _ _, Below.refl _ _, ah_start s⟩
  case round =>
    obtain ⟨k, cm, l, hk, rfl, rfl, hl, hown, hb, ha⟩ := hrel
    have hwz : w.heap.size ≤ wr.heap.size := hb.size
    by_cases hlt : k < s.size
    · rw [drop_cons s k hlt] at ha
      have Ha := Lib.hid ha
      clear ha
      by_cases h10 : (s[k].toNat : Int) = 10
      · have hb10 : ((s[k].toNat : Int) == 10) = true := by simp [h10]
        have hbl : Hid (Lx.isBlank s[k] = true) := (blank_iff _).2 (.inr (.inl (by omega)))
        have hn := Lib.hid (ah_idle Ha.out (by rw [hbl.out, Bool.or_true]))
        have hf : Hid ((cm && s[k] != 10) = false) := by show _ = _; rw [c10_is h10, Bool.and_false]
        clear h10
        go_wp2_with fail
        refine (Blank_x s[k] _).mono ?_
        rintro e w1 ⟨rfl, rfl⟩
        rw [hbl.out]
        go_wp2
        go_roundw
        case rel => exact ⟨k + 1, false, l, by omega, rfl, rfl, by omega, hown, hb, by have := hn.out; rw [hf.out] at this; exact this⟩
        case measure => simp only [intOf, flagW]; omega
      · have hb10 : ((s[k].toNat : Int) == 10) = false := by rw [beq_eq_false_iff_ne]; exact h10
        have hc10 := Lib.hid (c10_ne h10)
        clear h10
        cases cm with
        | true =>
          have hn := Lib.hid (ah_idle Ha.out (by rw [hc10.out]; rfl))
          go_wp2
          go_roundw
          case rel => exact ⟨k + 1, true, l, by omega, rfl, rfl, by omega, hown, hb, by have := hn.out; rw [hc10.out] at this; exact this⟩
          case measure => simp only [intOf, flagW]; omega
        | false =>
          go_wp2_with fail
          refine (Blank_x s[k] _).mono ?_
          rintro e w1 ⟨rfl, rfl⟩
          cases hbl : Lx.isBlank s[k] with
          | true =>
            have hn := Lib.hid (ah_idle Ha.out (by rw [hbl]; simp))
            clear hbl
            go_wp2
            go_roundw
            case rel => exact ⟨k + 1, false, l, by omega, rfl, rfl, by omega, hown, hb, hn.out⟩
            case measure => simp only [intOf, flagW]; omega
          | false =>
            have hidle : Hid (((false && s[k] != 10) || Lx.isBlank s[k]) = false) := by show _ = _; rw [hbl]; rfl
            clear hbl
            by_cases h35 : (s[k].toNat : Int) = 35
            · have hb35 : ((s[k].toNat : Int) == 35) = true := by simp [h35]
              have hn := Lib.hid (ah_comment Ha.out hidle.out (c35 h35))
              have hdc := Lib.hid (drop_cons s k hlt)
              clear h35
              go_wp2
              go_roundw
              case rel => exact ⟨k, true, l, by omega, rfl, rfl, by omega, hown, hb, by have := hn.out; rw [← hdc.out] at this; exact this⟩
              case measure => simp only [intOf, flagW]; omega
            · have hb35 : ((s[k].toNat : Int) == 35) = false := by rw [beq_eq_false_iff_ne]; exact h35
              have hn35 := Lib.hid (n35 h35)
              clear h35
              go_wp2_with fail
              refine (token_x s k _ (by omega) hlt).mono ?_
              rintro e w2 ⟨rfl, hb2⟩
              have hbb := chain hb hb2
              cases ht : Lx.tok s[k] (s.data.toList.drop (k + 1)) with
              | error er =>
                have hn := Lib.hid (ah_err Ha.out hidle.out hn35.out ht)
                have her : 1 ≤ er ∧ er ≤ 21 := by
                  rcases Lx.tok_err ht with h | h | h <;> rw [h] <;> decide
                have hber : ((er : Int) != 0) = true := by rw [bne_iff_ne]; omega
                obtain ⟨her1, her2⟩ := her
                clear ht
                simp only [tokV]
                go_wp2
                go_ret3
                exact sc_err hn.out (by repeat (first | exact hbb | refine Below.alloc ?_ (by have := hbb.size; simp; omega) _)) _ _ rfl rfl
              | ok p =>
                obtain ⟨x, rest⟩ := p
                obtain ⟨q1, q2, q3, q4⟩ := tok_rest hlt ht
                have hn := ah_tok Ha.out hidle.out hn35.out ht
                rw [q2, q1] at hn
                have hkn : s.size - (s.data.toList.drop (s.size - rest.length)).length = s.size - rest.length := by rw [← q1]
                have hnum : (x.2.2 : Int) ≤ 1099511627776 ∧ (x.1 : Int) ≤ 3 := by
                  rcases (Lx.tok_ok ht 0).1 with ⟨h1, _, h3⟩ | ⟨h1, h2, h3⟩ | ⟨h1, _, h3⟩ | ⟨h1, _, h3⟩
                  · simp only at h1 h3; omega
                  · simp only at h1 h2 h3
                    simp only [Lx.okNumber, Bool.and_eq_true, decide_eq_true_eq] at h2
                    omega
                  · simp only at h1 h3; omega
                  · simp only at h1 h3; omega
                have hown2 : w2.ownsRow w.heap.size 25 4 _ l.length (toksC l) := below_own hown hb2 (Nat.le_refl _)
                have hw2 := hbb.size
                have hks : s.size - rest.length ≤ s.size := by omega
                clear ht q2 q1
                simp only [tokV]
                generalize hkk : s.size - rest.length = k' at *
                rw [hkn] at hn
                have Hn := Lib.hid hn
                obtain ⟨kd, tx, nn⟩ := x
                simp only at hnum Hn
                clear hn hkk hkn
                go_wp2_with (at_builtin; refine wpList_append_own _ rfl (.tmp 46) (.tmp 48) 22 rfl w.heap.size 25 i0 (.agg #[.int .i64 0, .string ⟨#[]⟩, .int .i64 0, .int .i64 0]) 4 40 Tryd.underlying22 hi hz0 hz1 hz2 rfl (by decide) _ _ _ rfl ((hown2.alloc _).alloc _) ⟨w2.heap.size + 1, 0, none⟩ 1 1 (tokC ⟨kd, tx, nn, k⟩) rfl rfl ?c1 ?c2 ?c3 ?c4 ?c5 ?_)
                case c1 => exact cells_new (w2.alloc _) #[.int .i64 (kd : Int), .string (mk tx), .int .i64 (nn : Int), .int .i64 (k : Int)] _ _ (by simp)
                case c2 => intro u hu; simp only [tokC, List.mem_cons, List.not_mem_nil, or_false] at hu; rcases hu with rfl | rfl | rfl | rfl <;> rfl
                case c3 => unfold maxLen; omega
                case c4 => omega
                case c5 => simp; omega
                intro v3 w3 hown3 hgrow3 _
                have hb3 : Below w.heap.size w w3 := ((hbb.alloc hw2 _).alloc (by simp; omega) _).grown hgrow3 (by simp; omega) (fun j hj => (hown2.lt j hj).1)
                go_wp2
                go_roundw
                case rel => exact ⟨k', false, l ++ [⟨kd, tx, nn, k⟩], by omega, rfl, rfl, by simp; omega, by rw [toksC_snoc]; simpa using hown3, hb3, Hn.out⟩
                case measure => simp only [intOf, flagW]; omega
    · have hdone : Hid (Lx.scan 0 false s.data.toList = .ok l) := by
        have h := ha
        rw [show k = s.size from by omega, drop_end] at h
        exact ah_done h
      clear ha
      go_wp2
      go_ret3
      exact sc_ok hdone.out hown hb

end Go.Proofs.YtmpgbdibagnanaaDoor
