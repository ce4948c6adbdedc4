/-
  The program's Scan.
-/
import Derived.Test.YtmpgbdibagnanaaDoorLexF
import Derived.Test.YtmpgbdibagnanaaDoorRefG
namespace Go.Proofs.YtmpgbdibagnanaaDoor
open Go.RowKit

/-- a token read, and its length -/
def tokS (m : Nat) (o : Except Nat ((Nat × List UInt8 × Nat) × List UInt8)) : Value := match o with
  | .error e => .tuple #[.agg #[.int .i64 0, .string ⟨#[]⟩, .int .i64 0, .int .i64 0], .int .i64 0, .int .i64 (e : Int)]
  | .ok p => .tuple #[.agg #[.int .i64 (p.1.1 : Int), .string (mk p.1.2.1), .int .i64 (p.1.2.2 : Int), .int .i64 0], .int .i64 ((m - p.2.length : Nat) : Int), .int .i64 0]

theorem readAt_x (s : ByteArray) (k : Nat) (w : World) (hsg : Sg w) (hs : s.size ≤ 1099511627776) (hk : k < s.size) :
    Calls Tryd.prog 26 #[.string (s.extract k s.size)] w fun e w' => e = .returned (tokS (s.size - k) (Lx.tok s[k] (s.data.toList.drop (k + 1)))) ∧ Below w.heap.size w w' := by
  have hx : (s.extract k s.size).data.toList = s.data.toList.drop k := by
    rw [extract_mk, mk_toList, List.take_of_length_le (by rw [List.length_drop, ← size_of]; omega)]
  have hz : (s.extract k s.size).size = s.size - k := by rw [size_of, hx, List.length_drop, ← size_of]
  have h0 : 0 < (s.extract k s.size).size := by omega
  have e := drop_cons (s.extract k s.size) 0 h0
  rw [List.drop_zero, hx, drop_cons s k hk] at e
  injection e with e1 e2
  refine (readToken_x (s.extract k s.size) w hsg (by omega) h0).mono ?_
  rintro en w' ⟨he, hb⟩
  refine ⟨?_, hb⟩
  rw [he]
  have e2' : (s.extract k s.size).data.toList.drop (0 + 1) = s.data.toList.drop (k + 1) := by rw [hx, drop_cons s k hk, Nat.zero_add, List.drop_succ_cons, List.drop_zero]
  rw [← e1, e2']
  cases Lx.tok s[k] (s.data.toList.drop (k + 1)) with
  | error e => rfl
  | ok p => simp only [tokV, tokS, hz]; rfl

theorem skip_y (s : ByteArray) (b : Nat) (x : Int) (w : World) (hx : x = (b : Int)) (hs : s.size ≤ 1099511627776) (hb : b ≤ s.size) :
    Calls Tryd.prog 25 #[.string s, .int .i64 x] w fun e w' => e = .returned (.int .i64 (skipTo s b : Int)) ∧ w = w' := by
  subst hx
  exact skip_x s b w hs hb

theorem skipTo_facts (s : ByteArray) (b : Nat) (hb : b ≤ s.size) : b ≤ skipTo s b ∧ skipTo s b ≤ s.size ∧ Stop (s.data.toList.drop (skipTo s b)) := by
  obtain ⟨_, h2, h3⟩ := scan_skip (s.data.toList.drop b) false 0
  rw [List.drop_drop] at h2
  rw [List.length_drop, ← size_of] at h3
  exact ⟨by unfold skipTo; omega, by unfold skipTo; omega, h2⟩
theorem ah_skip {r : Except (Nat × Nat) (List Lx.Tok)} {s : ByteArray} {b : Nat} {l : List Lx.Tok} (h : Ahead r b false (s.data.toList.drop b) l) : Ahead r (skipTo s b) false (s.data.toList.drop (skipTo s b)) l := by
  unfold Ahead at *
  rw [h, (scan_skip (s.data.toList.drop b) false b).1, List.drop_drop]
  rfl

def LScRel (s : ByteArray) (w : World) (out i : Value) (wr : World) : Prop := ∃ (k : Nat) (l : List Lx.Tok), k ≤ s.size ∧ i = .int .i64 k ∧ l.length ≤ k ∧ wr.ownsRow w.heap.size 25 4 out l.length (toksC l) ∧ Below w.heap.size w wr ∧
  Ahead (Lx.scan 0 false s.data.toList) k false (s.data.toList.drop k) l ∧ Stop (s.data.toList.drop k)

set_option maxHeartbeats 6400000 in
set_option maxRecDepth 100000 in
theorem lScan_short (s : ByteArray) (w : World) (hsg : Sg w) (hs : s.size ≤ 20000) :
    Calls Tryd.prog 11 #[.string s] w fun e w' => ScPost (Lx.scan 0 false s.data.toList) w e w' := by
  obtain ⟨i0, hi, hz0, hz1, hz2⟩ := info_parts infoT
  have Hsg := Lib.hid hsg
  clear hsg
  obtain ⟨a1, a2, a3⟩ := skipTo_facts s 0 (Nat.zero_le _)
  have A3 := Lib.hid a3
  have A4 := Lib.hid (ah_skip (ah_start s))
  clear a3
  go_enter Tryd.func11, Tryd.ntmps11
  go_wp2_with fail
  refine (skip_y s 0 _ _ rfl (by omega) (Nat.zero_le _)).mono ?_
  rintro e w1 ⟨rfl, rfl⟩
  go_wp2_with fail
  go_loopw [5, 6] (fun out i wr => LScRel s w out i wr) (fun _ i _ => s.size - (intOf i).toNat)
  case atStart => exact ⟨skipTo s 0, [], a2, rfl, Nat.zero_le _, World.ownsRow_nil _ _ _ _, Below.refl _ _, A4.out, A3.out⟩
  case round =>
    obtain ⟨k, l, hk, rfl, hl, hown, hb, ha, hst⟩ := hrel
    have hwz : w.heap.size ≤ wr.heap.size := hb.size
    clear a1 a2 A3 A4
    by_cases hlt : k < s.size
    · rw [drop_cons s k hlt] at ha hst
      have Ha := Lib.hid ha
      have Hst := Lib.hid (hst _ _ rfl)
      clear ha hst
      have hidle : Hid (((false && s[k] != 10) || Lx.isBlank s[k]) = false) := by show _ = _; rw [Hst.out.1]; rfl
      go_wp2_with fail
      refine (readAt_x s k _ (sg_of Hsg.out hb) (by omega) hlt).mono ?_
      rintro e w2 ⟨rfl, hb2⟩
      have hbb := chain hb hb2
      have hw2 := hbb.size
      cases ht : Lx.tok s[k] (s.data.toList.drop (k + 1)) with
      | error er =>
        have hn := Lib.hid (ah_err Ha.out hidle.out Hst.out.2 ht)
        have her : 1 ≤ er ∧ er ≤ 21 := by
          rcases Lx.tok_err ht with h | h | h <;> rw [h] <;> decide
        have hber : ((er : Int) != 0) = true := by rw [bne_iff_ne]; omega
        obtain ⟨her1, her2⟩ := her
        clear ht
        simp only [tokS]
        go_wp2_with fail
        go_ret3
        exact sc_err hn.out (by repeat (first | exact hbb | refine Below.alloc ?_ (by have := hbb.size; simp; omega) _)) _ _ rfl rfl
      | ok p =>
        obtain ⟨x, rest⟩ := p
        obtain ⟨q1, q2, q3, q4⟩ := tok_rest hlt ht
        have hn := ah_tok Ha.out hidle.out Hst.out.2 ht
        rw [q2, q1] at hn
        have hkn : s.size - (s.data.toList.drop (s.size - rest.length)).length = s.size - rest.length := by rw [← q1]
        rw [hkn] at hn
        have hown2 : w2.ownsRow w.heap.size 25 4 _ l.length (toksC l) := below_own hown hb2 (Nat.le_refl _)
        have hq : (s.size - k - rest.length) + k = s.size - rest.length := by omega
        have hks : s.size - rest.length ≤ s.size := by omega
        clear ht q2 q1 hkn
        simp only [tokS]
        generalize s.size - k - rest.length = q at *
        generalize s.size - rest.length = k' at *
        have Hn := Lib.hid hn
        obtain ⟨kd, tx, nn⟩ := x
        obtain ⟨d1, d2, d3⟩ := skipTo_facts s k' hks
        have D3 := Lib.hid d3
        have D4 := Lib.hid (ah_skip Hn.out)
        clear hn d3
        go_wp2_with (at_builtin; refine wpList_append_own _ rfl (.tmp 33) (.tmp 35) 22 rfl w.heap.size 25 i0 (.agg #[.int .i64 0, .string ⟨#[]⟩, .int .i64 0, .int .i64 0]) 4 40 Tryd.underlying22 hi hz0 hz1 hz2 rfl (by decide) _ _ _ rfl ((hown2.alloc _).alloc _) ⟨w2.heap.size + 1, 0, none⟩ 1 1 (tokC ⟨kd, tx, nn, k⟩) rfl rfl ?c1 ?c2 ?c3 ?c4 ?c5 ?_)
        case c1 => exact fun j u h => h
        case c5 => omega
        case c2 => intro u hu; simp only [tokC, List.mem_cons, List.not_mem_nil, or_false] at hu; rcases hu with rfl | rfl | rfl | rfl <;> rfl
        case c3 => unfold maxLen; omega
        case c4 => omega
        intro v3 w3 hown3 hgrow3 _
        have hb3 : Below w.heap.size w w3 := ((hbb.alloc hw2 _).alloc (by simp; omega) _).grown hgrow3 (by simp; omega) (fun j hj => (hown2.lt j hj).1)
        clear hgrow3
        go_wp2_with fail
        refine (skip_y s k' _ _ (by omega) (by omega) hks).mono ?_
        rintro e w4 ⟨rfl, rfl⟩
        go_wp2_with fail
        go_roundw
        case rel => exact ⟨skipTo s k', l ++ [⟨kd, tx, nn, k⟩], d2, rfl, by simp; omega, by rw [toksC_snoc]; simpa using hown3, hb3, D4.out, D3.out⟩
        case measure => simp [intOf]; omega
    · have hdone : Hid (Lx.scan 0 false s.data.toList = .ok l) := by
        have h := ha
        rw [show k = s.size from by omega, drop_end] at h
        exact ah_done h
      clear ha hst
      go_wp2_with fail
      go_ret3
      exact sc_ok hdone.out hown hb

theorem lScan_x (s : ByteArray) (w : World) (hsg : Sg w) (hs : s.size ≤ 1099511627776) :
    Calls Tryd.prog 11 #[.string s] w fun e w' => ScPost (Lx.scanAll s.data.toList) w e w' := by
  by_cases h : s.size ≤ 20000
  · have e : Lx.scanAll s.data.toList = Lx.scan 0 false s.data.toList := if_neg (by rw [← size_of]; omega)
    rw [e]
    exact lScan_short s w hsg h
  · have e : Hid (Lx.scanAll s.data.toList = .error (0, Lx.eFull)) := if_pos (by rw [← size_of]; omega)
    clear hsg
    go_enter Tryd.func11, Tryd.ntmps11
    go_wp2_with fail
    go_ret3
    exact sc_err e.out (Below.refl _ _) _ _ rfl rfl

end Go.Proofs.YtmpgbdibagnanaaDoor
