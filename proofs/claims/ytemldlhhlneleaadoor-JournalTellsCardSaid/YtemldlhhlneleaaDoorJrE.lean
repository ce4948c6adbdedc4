/-
  What the reference's Append does, plain: the texts of the sectors, the writes, the header.
-/
import Derived.Test.YtemldlhhlneleaaDoorJrD
namespace Go.Proofs.YtemldlhhlneleaaDoor.Jn
open Go.RowKit Dk Wi

/-- a disk with nothing pending -/
abbrev dk (secs : List B) (left : Int) : D := ⟨secs, [], left, false⟩
/-- behind some of the writes -/
def apD (secs : List B) (left : Int) (F : S) (a j : Nat) : D := ⟨secs, wsF F a j, left, false⟩
theorem apD_zero (secs : List B) (left : Int) (F : S) (a : Nat) : apD secs left F a 0 = dk secs left := by unfold apD wsF; rfl
theorem ap_check {secs : List B} {left : Int} {F : S} {a j : Nat} (h : checkB (dk secs left) = true) (hk : 2 + (a + j) ≤ secs.length) : checkB (apD secs left F a j) = true := by
  obtain ⟨⟨n1, n2, n3, n4, n5⟩, hs, -, -⟩ := check_iff.1 h
  refine check_iff.2 ⟨⟨n1, n2, ?_, n4, n5⟩, hs, fun p hp => ?_, fun e => by cases e⟩
  · show (wsF F a j).length ≤ 512
    rw [wsF_len]
    have : secs.length ≤ 512 := n2
    omega
  · obtain ⟨i, i1, i2, rfl⟩ := wsF_mem hp
    refine ⟨?_, ?_, txt_size _ _⟩
    · show (0 : Int) ≤ ((2 + i : Nat) : Int); omega
    · show ((2 + i : Nat) : Int) < (secs.length : Int); omega
theorem ap_wr {secs : List B} {left : Int} {F : S} {a j : Nat} (h : checkB (dk secs left) = true) (hk : 2 + (a + j) < secs.length) : wrV (apD secs left F a j) (2 + ((a + j : Nat) : Int)) (txt F (a + j)) = (apD secs left F a (j + 1), 0) := by
  have c1 : checkB (apD secs left F a j) = true := ap_check h (by omega)
  have n2 : secs.length ≤ 512 := (check_iff.1 h).1.2.1
  have hz : (txt F (a + j)).size ≤ 16 := by show ((F.drop (16 * (a + j))).take 16).length ≤ 16; rw [List.length_take]; omega
  unfold wrV
  rw [if_pos (upE_zero.2 ⟨c1, rfl⟩), if_pos ⟨by omega, by show _ < (secs.length : Int); omega, hz⟩, if_pos (by show (wsF F a j).length < 512; rw [wsF_len]; omega)]
  unfold apD
  rw [wsF_succ]
  congr 3
theorem ap_hdr {d fd : D} {n m : Nat} {c : S} (_h : checkB d = true) (hd : d.down = false) (h3 : 3 ≤ d.secs.length) (hc : 0 ≤ curI d.secs) (hf : flV (app1 d n c) = (fd, 0)) (hk : checkB (app1 d n c) = true) : wrV fd (othI d.secs) (header m) = (app2 d fd m, 0) ∧ checkB fd = true ∧ checkB (app2 d fd m) = true := by
  have hu : upE (app1 d n c) = 0 := upE_zero.2 ⟨hk, hd⟩
  have e1 : fd = flushD (app1 d n c) ∧ ¬ (0 ≤ (app1 d n c).left ∧ (app1 d n c).left < ((app1 d n c).pend.length : Int)) := by
    unfold flV at hf
    rw [if_pos hu] at hf
    split at hf
    · simp at hf
    · next q => exact ⟨(congrArg Prod.fst hf).symm, q⟩
  obtain ⟨rfl, e2⟩ := e1
  have c1 : checkB (flushD (app1 d n c)) = true := check_flush hk e2
  have hl : (flushD (app1 d n c)).secs.length = d.secs.length := perf_len _ _
  have ho : 0 ≤ othI d.secs ∧ othI d.secs < 2 := by
    unfold othI
    rcases cur_cases d.secs with k | ⟨x, k, k2, -⟩ <;> omega
  obtain ⟨⟨n1, n2, n3, n4, n5⟩, hs, -, -⟩ := check_iff.1 c1
  have c2 : checkB (app2 d (flushD (app1 d n c)) m) = true := by
    refine check_iff.2 ⟨⟨n1, n2, by show 1 ≤ 512; decide, n4, n5⟩, hs, fun p hp => ?_, fun e => by cases e⟩
    rw [List.mem_singleton.1 hp]
    exact ⟨ho.1, by show othI d.secs < ((flushD (app1 d n c)).secs.length : Int); omega, header_size m⟩
  refine ⟨?_, c1, c2⟩
  unfold wrV
  rw [if_pos (upE_zero.2 ⟨c1, rfl⟩), if_pos ⟨ho.1, by omega, by rw [header_size]; decide⟩, if_pos (by show 0 < 512; decide), pad_16 (header_size m)]
  rfl
/-! the bytes of a text -/
theorem one_byte {t : B} {q : Nat} {x : UInt8} (h : t.data.toList[q]? = some x) : t.extract q (q + 1) = mkB [x] := by
  have hl := (List.getElem?_eq_some_iff.1 h)
  apply ByteArray.ext
  rw [ByteArray.data_extract]
  apply Array.ext'
  rw [Array.toList_extract, List.extract_eq_take_drop, show q + 1 - q = 1 by omega]
  show (t.data.toList.drop q).take 1 = [x]
  obtain ⟨h1, h2⟩ := hl
  rw [List.drop_eq_getElem_cons h1, h2]
  rfl
/-- the text so far -/
def part (F : S) (i m : Nat) : S := (F.drop (16 * i)).take (m - 16 * i)
theorem part_zero (F : S) (i : Nat) : part F i (16 * i) = [] := by unfold part; rw [Nat.sub_self, List.take_zero]
theorem part_next {F : S} {i m : Nat} {x : UInt8} (h : 16 * i ≤ m) (hx : F[m]? = some x) : part F i (m + 1) = part F i m ++ [x] := by
  unfold part
  rw [show m + 1 - 16 * i = (m - 16 * i) + 1 by omega, List.take_add_one, List.getElem?_drop, show 16 * i + (m - 16 * i) = m by omega, hx]
  rfl
theorem part_len {F : S} {i m : Nat} (h : m ≤ 16 * i + 16) : (part F i m).length ≤ 16 := by unfold part; rw [List.length_take]; omega
theorem part_txt {F : S} {i m : Nat} (h : m = 16 * i + 16 ∨ (F.length ≤ m ∧ m ≤ 16 * i + 16)) : mkB (part F i m) = txt F i := by
  unfold part txt
  congr 1
  rcases h with h | ⟨h1, h2⟩
  · rw [h, show 16 * i + 16 - 16 * i = 16 by omega]
  · rw [List.take_of_length_le (by rw [List.length_drop]; omega), List.take_of_length_le (by rw [List.length_drop]; omega)]
theorem full_old {secs : List B} {left : Int} {n m : Nat} {c : S} {s : B} (h16 : ∀ b ∈ secs, b.size = 16) (hm : m < n) (hn : n ≤ (lg secs).length) (hs : secs[2 + m / 16]? = some s) : ∃ x, (fullF (dk secs left) n c)[m]? = some x ∧ s.data.toList[m % 16]? = some x := by
  have h : (lg secs)[m]? = s.data.toList[m % 16]? := by rw [lg_get h16]; unfold at_; rw [hs]; rfl
  have hl : m < (lg secs).length := by omega
  refine ⟨(lg secs)[m], ?_, by rw [← h, List.getElem?_eq_getElem hl]⟩
  unfold fullF
  rw [List.getElem?_append_left (by show m < ((lg secs).take n).length; rw [List.length_take]; omega), List.getElem?_take_of_lt hm]
  exact List.getElem?_eq_getElem hl
theorem full_new {secs : List B} {left : Int} {n m : Nat} {c : S} (hm : n ≤ m) (hn : n ≤ (lg secs).length) (hc : m < n + c.length) : ∃ x, (fullF (dk secs left) n c)[m]? = some x ∧ c[m - n]? = some x := by
  refine ⟨c[m - n]'(by omega), ?_, List.getElem?_eq_getElem (by omega)⟩
  have hl : ((lg secs).take n).length = n := by rw [List.length_take]; omega
  unfold fullF
  rw [List.getElem?_append_right (by show ((lg secs).take n).length ≤ m; omega)]
  show c[m - ((lg secs).take n).length]? = _
  rw [hl]
  exact List.getElem?_eq_getElem (by omega)

end Go.Proofs.YtemldlhhlneleaaDoor.Jn
