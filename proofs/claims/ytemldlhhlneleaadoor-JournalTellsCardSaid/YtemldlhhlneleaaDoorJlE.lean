/-
  JournalBytes.
-/
import Derived.Test.YtemldlhhlneleaaDoorJlD
namespace Go.Proofs.YtemldlhhlneleaaDoor.Jn
open Go.RowKit Dk Wi

theorem fits_lst {l : List S} {m : Nat} : fitsB (l.map mkB) (m : Int) = true ↔ (∀ s ∈ l, s.length ≤ 100) ∧ l.length ≤ m := by
  unfold fitsB
  rw [decide_eq_true_iff, List.length_map]
  constructor
  · rintro ⟨h1, h2⟩
    exact ⟨fun s hs => h1 (mkB s) (List.mem_map_of_mem hs), by omega⟩
  · rintro ⟨h1, h2⟩
    refine ⟨fun s hs => ?_, by omega⟩
    obtain ⟨y, hy, rfl⟩ := List.mem_map.1 hs
    exact h1 y hy
theorem fits_l (v : Value) (l : List S) (m : Nat) (w : World) (h : LAt w v l) (hl : l.length ≤ 9223372036854775807) (hs : ∀ s ∈ l, s.length ≤ 9223372036854775807) {t : Bool} (ht : fitsB (l.map mkB) (m : Int) = t) :
    Calls Tryd.prog 25 #[v, .int .i64 (m : Int)] w fun r w' => r = .returned (.bool t) ∧ w = w' := by
  subst ht
  exact fits_x v (l.map mkB) m w h (by rw [List.length_map]; exact hl) (fun s hs' => by
    obtain ⟨y, hy, rfl⟩ := List.mem_map.1 hs'
    exact hs y hy)
/-- one of the first two sectors is the header -/
theorem Fil.heads {n : Nat} {l : List S} {d : D} (h : Fil n l d) {s0 s1 : B} (h0 : d.secs[0]? = some s0) (h1 : d.secs[1]? = some s1) : (s0 = header (encA l).length ∨ s1 = header (encA l).length) ∧ (0 ≤ num s0 ∧ num s0 ≤ ((encA l).length : Int)) ∧ (0 ≤ num s1 ∧ num s1 ≤ ((encA l).length : Int)) := by
  have e0 : hn d.secs 0 = num s0 := by unfold hn; rw [h0]; rfl
  have e1 : hn d.secs 1 = num s1 := by unfold hn; rw [h1]; rfl
  have k0 := h.hd 0 (by decide)
  have k1 := h.hd 1 (by decide)
  have ht := h.jo.top
  unfold curN at ht
  rw [e0] at k0 ht
  rw [e1] at k1 ht
  refine ⟨?_, k0, k1⟩
  split at ht
  · exact .inr (num_only ht).1
  · exact .inl (num_only ht).1
def ByRel (l : List S) (w : World) (s i : Value) (wr : World) : Prop := ∃ k : Nat, k ≤ l.length ∧ i = .int .i64 (k : Int) ∧ s = .string (mkB (encA (l.take k))) ∧ Below w.heap.size w wr
theorem encA_take {l : List S} {k : Nat} {x : S} (h : l[k]? = some x) : encA (l.take (k + 1)) = encA (l.take k) ++ Wm.encS x := by rw [take_more h, encA_snoc]

set_option maxHeartbeats 12800000 in
set_option maxRecDepth 100000 in
theorem bytes_x (jk : JournalOk) (v : Value) (l : List S) (w : World) (ht : Tb w) (h : LAt w v l) (hl : l.length ≤ 9223372036854775807) (hs : ∀ s ∈ l, s.length ≤ 9223372036854775807) :
    Calls Tryd.prog 7 #[v] w fun r w' => r = .returned (.bool true) ∧ Below w.heap.size w w' := by
  have HT := Lib.hid ht
  clear ht
  have HL0 := Lib.hid h
  obtain ⟨sa, sc, rfl, -, hg⟩ := h
  have ll : (strs (l.map mkB)).length = l.length := by simp
  rw [ll] at HL0 ⊢
  have HG : Hid (∀ (j : Nat) (x : S), l[j]? = some x → ∃ g off, sa = some ⟨g, off, none⟩ ∧ g < w.heap.size ∧ w.cell? ⟨g, off + j, none⟩ = some (.string (mkB x))) := fun j x hx => hg j _ (strs_get (by rw [List.getElem?_map, hx]; rfl))
  have HS := Lib.hid hs
  have HLE := Lib.hid hl
  clear hg ll hs hl
  obtain ⟨fb, hfb⟩ : ∃ t, fitsB (l.map mkB) ((8 : Nat) : Int) = t := ⟨_, rfl⟩
  have HFB := Lib.hid hfb
  clear hfb
  go_enter Tryd.func7, Tryd.ntmps7
  have HSN := Lib.hid (sane_x jk w HT.out)
  go_wp2_with fail
  refine HSN.out.mono ?_
  rintro r w1 ⟨rfl, b1⟩
  have B1 := Lib.hid b1
  have HL1 := Lib.hid (HL0.out.next b1)
  clear b1 HSN
  have HFT := Lib.hid (fits_l _ l 8 w1 HL1.out HLE.out HS.out HFB.out)
  go_wp2_with fail
  refine HFT.out.mono ?_
  rintro r w2 ⟨rfl, rfl⟩
  clear HFT
  cases fb with
  | false =>
    go_wp2_with fail
    go_ret
    exact ⟨by rfl, B1.out⟩
  | true =>
  obtain ⟨hs1, hl8⟩ := fits_lst.1 HFB.out
  have HS1 := Lib.hid hs1
  have HFD := Lib.hid (filled_x jk 80 _ l w1 (HT.out.next B1.out) HL1.out (by decide) (by decide) hl8 hs1 (by omega))
  clear hs1
  go_wp2_with fail
  refine HFD.out.mono ?_
  rintro r w2 ⟨x, d, rfl, hF, hD, b2⟩
  obtain ⟨a, c, p, c2, rfl, -, -, -, -⟩ := hD.form
  have e1 := hF.len
  have e2 : d.pend.length = 0 := by rw [hF.check.2.2]; rfl
  have e3 := hF.left
  have e4 := hF.check.2.1
  rw [e1, e2, e3, e4] at hD ⊢
  have HF := Lib.hid hF
  have n80 : Hid (d.secs.length = 80) := hF.len
  obtain ⟨s0, q0⟩ : ∃ s, d.secs[0]? = some s := ⟨_, List.getElem?_eq_getElem (by omega)⟩
  obtain ⟨s1, q1⟩ : ∃ s, d.secs[1]? = some s := ⟨_, List.getElem?_eq_getElem (by omega)⟩
  obtain ⟨a', c', ea, -, hsc⟩ := hD.secs_at
  rw [show (strs d.secs).length = 80 by simp [e1]] at ea
  simp only [Value.slice.injEq] at ea
  obtain ⟨rfl, -, -⟩ := ea
  obtain ⟨g, off, rfl, g1, g2⟩ := hsc 0 _ (strs_get q0)
  obtain ⟨g', off', e, -, g3⟩ := hsc 1 _ (strs_get q1)
  injection e with e
  injection e with e5 e6 _
  subst e5
  subst e6
  have g2 : w2.cell? ⟨g, off, none⟩ = some (.string s0) := g2
  obtain ⟨hh, k0, k1⟩ := hF.heads q0 q1
  have HH := Lib.hid hh
  have z0 : Hid (s0.size = 16) := (check_iff.1 hF.check.1).2.1 s0 (List.mem_of_getElem? q0)
  have z1 : Hid (s1.size = 16) := (check_iff.1 hF.check.1).2.1 s1 (List.mem_of_getElem? q1)
  have CELLS := Lib.hid (Below.new1 (w := w2) (.cells #[.slice (some ⟨g, off, none⟩) 80 c, .slice p 0 c2, .int .i64 (-1), .bool false] 27))
  have B3 : Hid (Below w.heap.size w (w2.alloc (.cells #[.slice (some ⟨g, off, none⟩) 80 c, .slice p 0 c2, .int .i64 (-1), .bool false] 27))) := chain (chain B1.out b2) (Below.new1 _)
  have P3 : Hid (Bx (.slice (some ⟨g, off, none⟩) 80 c) (.slice p 0 c2) (-1) false w2.heap.size (w2.alloc (.cells #[.slice (some ⟨g, off, none⟩) 80 c, .slice p 0 c2, .int .i64 (-1), .bool false] 27))) := Bx.new _ _ _ _ _ _
  have D3 := Lib.hid (hD.next CELLS.out)
  have GC : Hid (g < w2.heap.size ∧ w2.cell? ⟨g, off, none⟩ = some (.string s0) ∧ w2.cell? ⟨g, off + 1, none⟩ = some (.string s1)) := ⟨g1, g2, g3⟩
  clear hF hD b2 e1 e2 e3 e4 q0 q1 hsc hh g1 g2 g3 HFD HL1
  go_wp2_with fail
  go_loopw [6, 7] (fun s i wr => ByRel l (w2.alloc (.cells #[.slice (some ⟨g, off, none⟩) 80 c, .slice p 0 c2, .int .i64 (-1), .bool false] 27)) s i wr) (fun _ i _ => l.length - (intOf i).toNat)
  case atStart => exact ⟨0, Nat.zero_le _, rfl, rfl, Below.refl _ _⟩
  case round =>
    obtain ⟨k, hk, rfl, rfl, hb⟩ := hrel
    have HB := Lib.hid hb
    have k0' : (0 : Int) ≤ (k : Int) := by omega
    have m1 : (encA (l.take k)).length ≤ 832 := by
      have := encA_100 (l := l.take k) (fun s hs => HS1.out s (List.mem_of_mem_take hs))
      rw [List.length_take] at this
      omega
    have sz : (mkB (encA (l.take k))).size ≤ 832 := m1
    clear hb
    by_cases cc : k < l.length
    case pos =>
      have cc0 : (k : Int) < (l.length : Int) := by omega
      obtain ⟨x, hx⟩ : ∃ s, l[k]? = some s := ⟨_, List.getElem?_eq_getElem cc⟩
      obtain ⟨gx, ox, rfl, g1, g2⟩ := HG.out k x hx
      have g3 : wr.cell? ⟨gx, ox + k, none⟩ = some (.string (mkB x)) := by rw [(B3.out.trans (HB.out.mono B3.out.size)).cell (p := ⟨gx, ox + k, none⟩) g1]; exact g2
      have g4 : gx < wr.heap.size := Nat.lt_of_lt_of_le g1 (B3.out.trans (HB.out.mono B3.out.size)).size
      have hx1 := HS1.out x (List.mem_of_getElem? hx)
      have HX := Lib.hid (encA_take hx)
      have he := encS_100 hx1
      have HC := Lib.hid (String_x (mkB x) wr (by rw [mkB_size]; omega))
      clear hx g2
      go_wp2_with fail
      refine HC.out.mono ?_
      rintro r w5 ⟨rfl, b5⟩
      have B5 := Lib.hid (chain HB.out b5)
      clear b5
      rw [show mk (Wm.encS (mkB x).data.toList) = mkB (Wm.encS x) from rfl]
      have sz2 : (mkB (Wm.encS x)).size ≤ 104 := he
      go_wp2_with fail
      go_roundw
      case rel => exact ⟨k + 1, by omega, by congr 1, by rw [HX.out]; exact congrArg Value.string (ByteArray.mk_append_mk _ _), B5.out⟩
      case measure => simp [intOf]; omega
    case neg =>
      have cc0 : ¬ (k : Int) < (l.length : Int) := by omega
      have ek : l.take k = l := List.take_of_length_le (by omega)
      rw [ek] at m1 sz ⊢
      have BB := Lib.hid (chain B3.out HB.out)
      have PP := Lib.hid (P3.out.next HB.out)
      have DD := Lib.hid (D3.out.next HB.out)
      have HC := Lib.hid (Log_x _ d wr DD.out HF.out.check.1)
      have lgl : (lg d.secs).length = 1248 := by rw [lg_len (check_iff.1 HF.out.check.1).2.1, n80.out]
      have HEX : Hid ((mkB (lg d.secs)).extract 0 (mkB (encA l)).size = mkB (encA l)) := by
        show (mkB (lg d.secs)).extract 0 (encA l).length = _
        have := extract_to (lg d.secs) (encA l).length
        rw [HF.out.jo.take] at this
        exact this
      obtain ⟨L, hL⟩ : ∃ L, mkB (lg d.secs) = L := ⟨_, rfl⟩
      have Ls : L.size = 1248 := by rw [← hL]; exact lgl
      rw [hL] at HC HEX
      have x0 := PP.out.c0
      have x1 := PP.out.c1
      have x2 := PP.out.c2
      have x3 := PP.out.c3
      have xl := PP.out.lt
      have LS := Lib.hid Ls
      have lc1 : ¬ (L.size : Int) < ((mkB (encA l)).size : Int) := by omega
      have lc2 : ((mkB (encA l)).size : Int) ≤ (L.size : Int) := by omega
      have EK := Lib.hid ek
      clear lgl hL Ls ek
      go_wp2_with fail
      refine HC.out.mono ?_
      rintro r w5 ⟨rfl, b5⟩
      have BB5 := Lib.hid (chain BB.out b5)
      have PP5 := Lib.hid (PP.out.next b5)
      have G5 : Hid (g < w5.heap.size ∧ w5.cell? ⟨g, off, none⟩ = some (.string s0) ∧ w5.cell? ⟨g, off + 1, none⟩ = some (.string s1)) := by
        have bb : Below w2.heap.size w2 w5 := (CELLS.out.trans (HB.out.mono CELLS.out.size)).trans (b5.mono (Nat.le_trans CELLS.out.size HB.out.size))
        obtain ⟨q1, q2, q3⟩ := GC.out
        exact ⟨Nat.lt_of_lt_of_le q1 bb.size, by rw [bb.cell (p := ⟨g, off, none⟩) q1]; exact q2, by rw [bb.cell (p := ⟨g, off + 1, none⟩) q1]; exact q3⟩
      clear b5 x0 x1 x2 x3 xl HC
      have x0 := PP5.out.c0
      have xl := PP5.out.lt
      obtain ⟨gl, gs0, gs1⟩ := G5.out
      obtain ⟨N, hN⟩ : ∃ N, (encA l).length = N := ⟨_, rfl⟩
      have HN := Lib.hid hN
      have szN : (mkB (encA l)).size = N := hN
      have hex : L.extract 0 N = mkB (encA l) := by have := HEX.out; rw [szN] at this; exact this
      have lc3 : ¬ (L.size : Int) < (N : Int) := by rw [LS.out]; omega
      have lc4 : (N : Int) ≤ (L.size : Int) := by rw [LS.out]; omega
      clear lc1 lc2
      have HHD : Hid (∀ W, Calls Tryd.prog 32 #[.int .i64 (N : Int)] W fun r w' => r = .returned (.string (Jn.header N)) ∧ W = w') := fun W => Header_x N W (by omega)
      have hh := HH.out
      rw [hN] at hh k0 k1
      have HH2 := Lib.hid hh
      clear hN hh
      go_wp2_with fail
      refine (HHD.out _).mono ?_
      rintro r w6 ⟨rfl, rfl⟩
      obtain ⟨v0, hv0⟩ : ∃ x, num s0 = x := ⟨_, rfl⟩
      obtain ⟨v1, hv1⟩ : ∃ x, num s1 = x := ⟨_, rfl⟩
      have HN0 : Hid (∀ W, Calls Tryd.prog 33 #[.string s0] W fun e w' => e = .returned (.int .i64 v0) ∧ Below W.heap.size W w') := by
        show ∀ W, _
        intro W
        rw [← hv0]
        exact Number_x s0 W (by rw [z0.out]; decide)
      have HN1 : Hid (∀ W, Calls Tryd.prog 33 #[.string s1] W fun e w' => e = .returned (.int .i64 v1) ∧ Below W.heap.size W w') := by
        show ∀ W, _
        intro W
        rw [← hv1]
        exact Number_x s1 W (by rw [z1.out]; decide)
      rw [hv0] at k0
      rw [hv1] at k1
      obtain ⟨k0a, k0b⟩ := k0
      obtain ⟨k1a, k1b⟩ := k1
      clear hv0 hv1 hex
      by_cases q : s0 = Jn.header N
      · subst q
        go_wp2_with fail
        refine (HN0.out _).mono ?_
        rintro r w7 ⟨rfl, b7⟩
        have B7 := Lib.hid (chain BB5.out b7)
        clear b7
        go_wp2_with fail
        refine (HN0.out _).mono ?_
        rintro r w8 ⟨rfl, b8⟩
        have B8 := Lib.hid (chain B7.out b8)
        clear b8
        go_wp2_with fail
        refine (HN1.out _).mono ?_
        rintro r w9 ⟨rfl, b9⟩
        have B9 := Lib.hid (chain B8.out b9)
        clear b9
        go_wp2_with fail
        refine (HN1.out _).mono ?_
        rintro r w10 ⟨rfl, b10⟩
        have B10 := Lib.hid (chain B9.out b10)
        clear b10
        go_wp2_with fail
        go_ret
        exact ⟨by rfl, B10.out⟩
      · have hne : (s0.toList == (Jn.header N).toList) = false := by
          rw [beq_eq_false_iff_ne]
          intro e
          have e1 : s0.toList = s0.data.toList := toList_mk s0.data.toList
          have e2 : (Jn.header N).toList = (Jn.header N).data.toList := toList_mk (Jn.header N).data.toList
          rw [e1, e2] at e
          exact q (ByteArray.ext (Array.ext' e))
        obtain rfl : s1 = Jn.header N := HH2.out.resolve_left q
        clear q
        go_wp2_with fail
        refine (HN0.out _).mono ?_
        rintro r w7 ⟨rfl, b7⟩
        have B7 := Lib.hid (chain BB5.out b7)
        clear b7
        go_wp2_with fail
        refine (HN0.out _).mono ?_
        rintro r w8 ⟨rfl, b8⟩
        have B8 := Lib.hid (chain B7.out b8)
        clear b8
        go_wp2_with fail
        refine (HN1.out _).mono ?_
        rintro r w9 ⟨rfl, b9⟩
        have B9 := Lib.hid (chain B8.out b9)
        clear b9
        go_wp2_with fail
        refine (HN1.out _).mono ?_
        rintro r w10 ⟨rfl, b10⟩
        have B10 := Lib.hid (chain B9.out b10)
        clear b10
        go_wp2_with fail
        go_ret
        exact ⟨by rfl, B10.out⟩

end Go.Proofs.YtemldlhhlneleaaDoor.Jn
