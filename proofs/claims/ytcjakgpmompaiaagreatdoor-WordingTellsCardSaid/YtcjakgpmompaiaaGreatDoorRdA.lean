/-
  The program's reader in memory: what the world holds (Ev), the reader's box (PB); take, number, name.
-/
import Derived.Test.YtcjakgpmompaiaaGreatDoorWd
import Derived.Test.YtcjakgpmompaiaaGreatDoorShA
import Derived.Test.YtcjakgpmompaiaaGreatDoorCaG
import Derived.Test.YtcjakgpmompaiaaGreatDoorProI
import Derived.Test.YtcjakgpmompaiaaGreatDoorRefE
import Derived.Test.YtcjakgpmompaiaaGreatDoorHand
import Derived.Lib.AtoiErrMem
import Derived.Laws.RangeAny
import Derived.Laws.Runes
import Derived.Lib.OthersKept
namespace Go.Proofs.YtcjakgpmompaiaaGreatDoor
open Go.RowKit Rl Wd

theorem gPow : Tryz.prog.globalNamed "internal/strconv.uint64pow10" = some 2 := by kernel_rfl
def powC : Array Value := (Lib.pow10Tab.map fun z => Value.int .u64 z).toArray
/-- the library's table of powers of ten, as its initialiser lays it -/
def Tb (w : World) : Prop := ∃ t fr, w.heap[2]? = some (.cells powC t fr)
theorem Tb.pos {w : World} (h : Tb w) : 2 < w.heap.size := by
  obtain ⟨t, fr, h⟩ := h
  exact (Array.getElem?_eq_some_iff.1 h).1
theorem Tb.next {W w' : World} (h : Tb W) (hb : Below W.heap.size W w') : Tb w' := by
  have hp := h.pos
  obtain ⟨t, fr, h⟩ := h
  exact ⟨t, fr, by rw [hb.block _ hp]; exact h⟩
theorem Tb.tab {w : World} (h : Tb w) : Lib.TabIs Tryz.prog w "internal/strconv.uint64pow10" .u64 Lib.pow10Tab := by
  obtain ⟨t, fr, h⟩ := h
  show w.var? Tryz.prog "internal/strconv.uint64pow10" = some powC
  unfold World.var?
  rw [gPow]
  simp only [Option.bind_some]
  rw [h]
theorem Tb.of {w : World} (h : Lib.TabIs Tryz.prog w "internal/strconv.uint64pow10" .u64 Lib.pow10Tab) : Tb w := by
  have h2 : w.var? Tryz.prog "internal/strconv.uint64pow10" = some powC := h
  unfold World.var? at h2
  rw [gPow] at h2
  simp only [Option.bind_some] at h2
  split at h2
  · rename_i cs t fr hg
    obtain rfl := Option.some.inj h2
    exact ⟨t, fr, hg⟩
  · cases h2

/-- an error variable: nil or an error -/
def ErrV (w : World) (g : Nat) : Prop := ∃ v, w.cell? ⟨g, 0, none⟩ = some v ∧ (v = .nilIface ∨ ∃ t p, v = .iface t p)
/-- what the world holds before the program runs -/
structure Ev (w : World) : Prop where
  bf : Ca.Bf w
  tb : Tb w
  mx : ∃ m, w.cell? ⟨1, 0, none⟩ = some (.int .i64 m)
  es : ErrV w 3
  er : ErrV w 4
theorem Ev.next {w w' : World} (h : Ev w) (hb : Below w.heap.size w w') : Ev w' := by
  obtain ⟨m, hm⟩ := h.mx
  obtain ⟨v, hv, hv2⟩ := h.es
  obtain ⟨u, hu, hu2⟩ := h.er
  exact ⟨Ca.bf_of h.bf hb, h.tb.next hb, ⟨m, cell_up hb hm⟩, ⟨v, cell_up hb hv, hv2⟩, ⟨u, cell_up hb hu, hu2⟩⟩

/-- the reader's box: eight values of the realm, and the rest of the text -/
def PB (w : World) (g : Nat) (V : List Value) (s : B) : Prop := V.length = 8 ∧ s.size ≤ 100000 ∧ w.heap[g]? = some (.cells (V ++ [Value.string s]).toArray 87 (0, 0))
theorem PB.lt {w : World} {g : Nat} {V : List Value} {s : B} (h : PB w g V s) : g < w.heap.size := (Array.getElem?_eq_some_iff.1 h.2.2).1
theorem PB.cell {w : World} {g : Nat} {V : List Value} {s : B} (h : PB w g V s) : w.cell? ⟨g, 8, none⟩ = some (.string s) := by
  unfold World.cell?
  rw [h.2.2]
  simp [h.1]
theorem PB.at {w : World} {g : Nat} {V : List Value} {s : B} (h : PB w g V s) {i : Nat} {v : Value} (hv : V[i]? = some v) : w.cell? ⟨g, i, none⟩ = some v := by
  unfold World.cell?
  rw [h.2.2]
  obtain ⟨hi, e⟩ := List.getElem?_eq_some_iff.1 hv
  simp [List.getElem?_append_left hi, hv]
theorem PB.free {w : World} {g : Nat} {V : List Value} {s : B} (h : PB w g V s) (i : Nat) : w.frozen? ⟨g, i, none⟩ = false := by
  unfold World.frozen?
  rw [h.2.2]
  simp
theorem PB.set {w : World} {g : Nat} {V : List Value} {s : B} (h : PB w g V s) (t : B) (ht : t.size ≤ 100000) : PB (w.setCell ⟨g, 8, none⟩ (.string t)) g V t := by
  refine ⟨h.1, ht, ?_⟩
  have hlt := h.lt
  have e := h.2.2
  unfold World.setCell
  rw [Array.getElem?_modify]
  simp [e, h.1]
theorem PB.below {w w' : World} {g n : Nat} {V : List Value} {s : B} (h : PB w g V s) (hb : Below n w w') (hg : g < n) : PB w' g V s := ⟨h.1, h.2.1, by rw [hb.block _ hg]; exact h.2.2⟩
theorem PB.next {w w' : World} {g : Nat} {V : List Value} {s : B} (h : PB w g V s) (hb : Below w.heap.size w w') : PB w' g V s := h.below hb h.lt
theorem tk_size (s x : L8) : (tk s x).length ≤ s.length := by
  unfold tk Lib.trimPrefix
  split
  · rw [List.length_drop]; omega
  · exact Nat.le_refl _
theorem size_list (s : B) : s.size = s.data.toList.length := by rw [Array.length_toList]; rfl

/-- nothing but block g has turned, and the heap may be longer -/
structure Onl (g : Nat) (w w' : World) : Prop where
  os : w'.os = w.os
  tape : w'.tape = w.tape
  output : w'.output = w.output
  size : w.heap.size ≤ w'.heap.size
  block : ∀ k, k < w.heap.size → k ≠ g → w'.heap[k]? = w.heap[k]?
theorem Onl.of {g : Nat} {w w' : World} (h : Below w.heap.size w w') : Onl g w w' := ⟨h.os, h.tape, h.output, h.size, fun k hk _ => h.block k hk⟩
theorem Onl.low {g : Nat} {w w' : World} (h : Onl g w w') (hg : g < w.heap.size) : Below g w w' := ⟨h.os, h.tape, h.output, h.size, fun k hk => h.block k (by omega) (by omega)⟩
theorem Onl.trans {g : Nat} {a b c : World} (h : Onl g a b) (k : Onl g b c) : Onl g a c :=
  ⟨k.os.trans h.os, k.tape.trans h.tape, k.output.trans h.output, Nat.le_trans h.size k.size, fun j hj hg => (k.block j (Nat.lt_of_lt_of_le hj h.size) hg).trans (h.block j hj hg)⟩
theorem Onl.set {g : Nat} {w w' : World} (h : Onl g w w') (i : Nat) (v : Value) : Onl g w (w'.setCell ⟨g, i, none⟩ v) :=
  ⟨h.os, h.tape, h.output, by simpa [World.setCell] using h.size, fun j hj hg => by rw [Below.heap_setCell _ _ _ _ (by simpa using hg)]; exact h.block j hj hg⟩
theorem take_x {V : List Value} {g : Nat} {s : B} (x : B) (w : World) (h : PB w g V s) :
    Calls Tryz.prog 52 #[.pointer (some ⟨g, 0, none⟩), .string x] w fun r w' => r = .returned (.bool (hp s.data.toList x.data.toList)) ∧ PB w' g V (mkB (tk s.data.toList x.data.toList)) ∧ Onl g w w' := by
  have H := Lib.hid h
  have hc := h.cell
  have hf := h.free 8
  clear h
  go_enter Tryz.func52, Tryz.ntmps52
  go_wp2_with fail
  refine (Tryz.strings_CutPrefix s x w).mono ?_
  rintro r w1 ⟨rfl, hw⟩
  subst hw
  go_wp2_with fail
  go_ret
  refine ⟨rfl, H.out.set _ ?_, (Onl.of (Below.refl _ _)).set 8 _⟩
  show (mkB _).size ≤ _
  rw [mkB_size]
  have := tk_size s.data.toList x.data.toList
  have h2 := H.out.2.1
  rw [size_list] at h2
  exact Nat.le_trans this h2
end Go.Proofs.YtcjakgpmompaiaaGreatDoor

/-
  The library's IndexAny for a space and a line end, for every text.
-/
namespace Go.Proofs.YtcjakgpmompaiaaGreatDoor
open Go.RowKit Rl Wd

abbrev sn : B := ⟨#[32, 10]⟩
set_option maxHeartbeats 3200000 in
set_option maxRecDepth 100000 in
theorem runeErr_x (w : World) : Calls Tryz.prog 177 #[.string sn, .int .i32 65533] w fun e w' => e = .returned (.int .i64 (-1)) ∧ Below w.heap.size w w' := by
  go_enter Tryz.func177, Tryz.ntmps177
  go_wp2_with fail
  go_loopg [5, 6] 2 (fun g _ _ wx => ∃ i : Nat, i + g = 2 ∧ wx = w.iter sn i)
  case atStart => exact ⟨0, by omega, rfl⟩
  case round =>
    obtain ⟨i, hig, rfl⟩ := hrel
    cases gk with
    | zero =>
      obtain rfl : i = 2 := by omega
      have hnx := run_next_end (P := Tryz.prog) w sn 2
      go_wp2
      go_ret
      exact ⟨rfl, (Below.refl _ _).alloc (Nat.le_refl _) _⟩
    | succ g =>
      have hi : i < sn.size := by show i < 2; omega
      have ha : (sn[i]'hi).toNat < 128 := by
        have : i = 0 ∨ i = 1 := by omega
        rcases this with rfl | rfl
        · show (32 : UInt8).toNat < 128
          decide
        · show (10 : UInt8).toNat < 128
          decide
      have hnx := fun ty => run_next_ascii (P := Tryz.prog) w sn i ty hi ha
      have hne : (((sn[i]'hi).toNat : Int) == 65533) = false := by rw [beq_eq_false_iff_ne]; omega
      generalize sn[i]'hi = x at hnx hne
      clear ha
      go_wp2
      go_roundg g
      case measure => omega
      case rel => exact ⟨i + 1, by omega, rfl⟩
theorem enc_high {r : Int} (h : 128 ≤ r) (h1 : Lib.validRune r = true) : (∃ x y : UInt8, Utf8.encode r = ⟨#[x, y]⟩ ∧ y.toNat ≠ 10) ∨ 3 ≤ (Utf8.encode r).size := by
  have hv : Utf8.valid r = true := by
    unfold Lib.validRune at h1
    unfold Utf8.valid
    simp only [Bool.or_eq_true, Bool.and_eq_true, decide_eq_true_iff] at h1 ⊢
    omega
  have e : Utf8.encode r = (if r.toNat < 0x80 then ⟨#[UInt8.ofNat r.toNat]⟩ else if r.toNat < 0x800 then ⟨#[UInt8.ofNat (0xC0 + r.toNat / 64), UInt8.ofNat (0x80 + r.toNat % 64)]⟩
      else if r.toNat < 0x10000 then ⟨#[UInt8.ofNat (0xE0 + r.toNat / 4096), UInt8.ofNat (0x80 + r.toNat / 64 % 64), UInt8.ofNat (0x80 + r.toNat % 64)]⟩
      else ⟨#[UInt8.ofNat (0xF0 + r.toNat / 262144), UInt8.ofNat (0x80 + r.toNat / 4096 % 64), UInt8.ofNat (0x80 + r.toNat / 64 % 64), UInt8.ofNat (0x80 + r.toNat % 64)]⟩) := by
    unfold Utf8.encode
    rw [if_pos hv]
  rw [e, if_neg (by omega)]
  split
  · left
    refine ⟨_, _, rfl, ?_⟩
    simp only [UInt8.toNat_ofNat']
    omega
  · right
    split
    · show 3 ≤ 3; decide
    · show 3 ≤ 4; decide
set_option maxHeartbeats 3200000 in
set_option maxRecDepth 100000 in
theorem runeHigh_x (r : Int) (w : World) (h : 128 ≤ r) (h9 : r ≤ 2147483647) : Calls Tryz.prog 177 #[.string sn, .int .i32 r] w fun e w' => e = .returned (.int .i64 (-1)) ∧ Below w.heap.size w w' := by
  by_cases c : r = 65533
  · rw [c]; exact runeErr_x w
  have c1 : (r == 65533) = false := beq_eq_false_iff_ne.2 c
  have hn : ¬ r < 128 := by omega
  have h0 : 0 ≤ r := by omega
  cases hv : Lib.validRune r with
  | false =>
    go_enter Tryz.func177, Tryz.ntmps177
    go_wp2_with fail
    refine (Tryz.utf8_ValidRune r _).mono ?_
    rintro e w1 ⟨rfl, hw⟩
    rw [hv, hw]
    go_wp2_with fail
    go_ret
    exact ⟨rfl, Below.refl _ _⟩
  | true =>
    have he := enc_high h hv
    rcases he with ⟨x, y, he, hy⟩ | he
    · have hy2 : ((10 : Int) != (y.toNat : Int)) = true := by rw [bne_iff_ne]; omega
      have hcv : ∀ w, (convert 21 9 (.int .i32 r)).run Tryz.prog w = .ok (.string ⟨#[x, y]⟩) w := fun w => by rw [← he]; rfl
      clear he
      go_enter Tryz.func177, Tryz.ntmps177
      go_wp2_with fail
      refine (Tryz.utf8_ValidRune r _).mono ?_
      rintro e w1 ⟨rfl, hw⟩
      rw [hv, hw]
      go_wp2_with fail
      go_step3
      go_wp2_with fail
      go_loopw [9, 10] (fun i f wr => ∃ k : Nat, k = 1 ∧ i = .int .i64 (k : Int) ∧ f = .int .i64 0 ∧ wr = w) (fun _ _ _ => 0)
      case atStart => exact ⟨1, rfl, rfl, rfl, rfl⟩
      case round =>
        obtain ⟨k, hk, rfl, rfl, rfl⟩ := hrel
        have hk0 : 0 ≤ (k : Int) := by omega
        have hk2 : (k : Int) < 2 := by omega
        have hk3 : k < sn.size := by show k < 2; omega
        have hd : (((sn[k]'hk3).toNat : Int) != (((⟨#[x, y]⟩ : ByteArray)[1]'(by show 1 < 2; decide)).toNat : Int)) = true := by subst hk; exact hy2
        have hw2 : IntKind.i64.wrap ((k : Int) + 1) = (k : Int) + 1 := IntWalk.i64_in _ (by omega)
        have hk4 : (k : Int) + 1 ≤ 2 := by omega
        have HK := Lib.hid hk
        clear hk
        go_wp2_with fail
        go_step3
        go_wp2_with fail
        go_quiet (fail)
        go_wp2_with fail
        have hc : ∀ u, Calls Tryz.prog 196 #[.string (sn.extract (k + 1) 2), .int .u8 (((⟨#[x, y]⟩ : ByteArray)[1]'(by show 1 < 2; decide)).toNat : Int)] u fun e w' => e = .returned (.int .i64 (-1)) ∧ w' = u := by
          intro u
          have e : sn.extract (k + 1) 2 = ⟨#[]⟩ := by rw [HK.out]; rfl
          rw [e]
          exact Tryz.strings_IndexByte ⟨#[]⟩ _ u
        go_quiet (first | (go_at_call 196; refine (hc _).mono ?_; rintro e w' ⟨rfl, rfl⟩; exact ⟨rfl, _, rfl⟩))
        go_wp2
        rw [Exit.noGoto_ret]
        simp +zetaDelta only [Exit.inBlock, Exit.noGoto_ret, Exit.then]
        go_ret
        exact ⟨rfl, below_drewN (Below.refl _ _) _⟩
    · have hf := encode_facts r (by
        unfold Lib.validRune at hv
        unfold Utf8.valid
        simp only [Bool.or_eq_true, Bool.and_eq_true, decide_eq_true_iff] at hv ⊢
        omega) h
      have hl : (Utf8.encode r).size = 3 ∨ (Utf8.encode r).size = 4 := by omega
      have hcv : ∀ w, (convert 21 9 (.int .i32 r)).run Tryz.prog w = .ok (.string (Utf8.encode r)) w := fun w => rfl
      clear hf he
      rcases hl with hl | hl
      · go_enter Tryz.func177, Tryz.ntmps177
        go_wp2_with fail
        refine (Tryz.utf8_ValidRune r _).mono ?_
        rintro e w1 ⟨rfl, hw⟩
        rw [hv, hw]
        go_wp2_with fail
        go_step3
        go_wp2_with fail
        go_loopw [9, 10] (fun i f wr => i = .int .i64 2 ∧ f = .int .i64 0 ∧ wr = w) (fun _ _ _ => 0)
        case atStart => exact ⟨rfl, rfl, rfl⟩
        case round =>
          obtain ⟨rfl, rfl, rfl⟩ := hrel
          go_wp2
          rw [Exit.noGoto_ret]
          go_ret
          exact ⟨rfl, Below.refl _ _⟩
      · go_enter Tryz.func177, Tryz.ntmps177
        go_wp2_with fail
        refine (Tryz.utf8_ValidRune r _).mono ?_
        rintro e w1 ⟨rfl, hw⟩
        rw [hv, hw]
        go_wp2_with fail
        go_step3
        go_wp2_with fail
        go_loopw [9, 10] (fun i f wr => i = .int .i64 3 ∧ f = .int .i64 0 ∧ wr = w) (fun _ _ _ => 0)
        case atStart => exact ⟨rfl, rfl, rfl⟩
        case round =>
          obtain ⟨rfl, rfl, rfl⟩ := hrel
          go_wp2
          rw [Exit.noGoto_ret]
          go_ret
          exact ⟨rfl, Below.refl _ _⟩
theorem as_get {s : B} (h : As s.data.toList) {j : Nat} {b : UInt8} (hb : s.data.toList[j]? = some b) : b.toNat < 128 := h b (List.mem_of_getElem? hb)
theorem anyIx_le (s x : L8) : -1 ≤ Lib.indexAny s x ∧ Lib.indexAny s x ≤ s.length := by
  induction s with
  | nil => unfold Lib.indexAny; simp
  | cons a t ih =>
    unfold Lib.indexAny
    rw [List.length_cons]
    split
    · omega
    · split <;> omega
/-- IndexRune for a space and a line end and any rune -/
theorem rune_x (r : Int) (w : World) (h : 0 ≤ r) (h9 : r ≤ 2147483647) : Calls Tryz.prog 177 #[.string sn, .int .i32 r] w fun e w' => ∃ n : Int, e = .returned (.int .i64 n) ∧ Below w.heap.size w w' := by
  by_cases c : r < 128
  · refine (Tryz.strings_IndexRune_ascii sn r w h c).mono ?_
    rintro e w' ⟨rfl, rfl⟩
    exact ⟨_, rfl, Below.refl _ _⟩
  · refine (runeHigh_x r w (by omega) h9).mono ?_
    rintro e w' ⟨rfl, hb⟩
    exact ⟨_, rfl, hb⟩
theorem iterPos_of {w : World} {k : Nat} {s : B} {p : Nat} (h : w.heap[k]? = some (.stringIter s p)) : w.iterPos k = p := by
  unfold World.iterPos
  rw [h]
theorem iterAt_below {n : Nat} (w : World) (k : Nat) (s : B) (p : Nat) (h : n ≤ k) : Below n w (w.iterAt k s p) := by
  refine ⟨rfl, rfl, rfl, by simp [World.iterAt], fun j hj => ?_⟩
  simp only [World.iterAt]
  rw [Array.getElem?_setIfInBounds, if_neg (by omega)]
theorem iter_next {w w' : World} {k : Nat} {s : B} {p : Nat} (hb : Below w.heap.size w w') (h : w.heap[k]? = some (.stringIter s p)) : w'.heap[k]? = some (.stringIter s p) := by
  rw [hb.block _ (Array.getElem?_eq_some_iff.1 h).1]
  exact h
/-- a place in a text, or -1; in a text of ASCII the first space or line end -/
def IxR (s : B) (n : Int) : Prop := -1 ≤ n ∧ n ≤ (s.size : Int) ∧ (As s.data.toList → n = Lib.indexAny s.data.toList [32, 10])
set_option maxHeartbeats 3200000 in
set_option maxRecDepth 100000 in
theorem idxShort_x (s : B) (w : World) (h8 : s.size ≤ 8) (hna : ¬ As s.data.toList) : Calls Tryz.prog 148 #[.string s, .string sn] w fun e w' => ∃ n : Int, e = .returned (.int .i64 n) ∧ IxR s n ∧ Below w.heap.size w w' := by
  have hr : ∀ n : Int, -1 ≤ n → n ≤ (s.size : Int) → IxR s n := fun n h1 h2 => ⟨h1, h2, fun h => absurd h hna⟩
  have HR := Lib.hid hr
  clear hr hna
  have hz : decide ((8 : Int) < (s.size : Int)) = false := decide_eq_false (by omega)
  go_enter Tryz.func148, Tryz.ntmps148
  go_wp2_with fail
  refine (Tryz.strings_shouldUseASCIISet _ _).mono ?_
  rintro e w1 ⟨rfl, hw⟩
  rw [hw, hz]
  clear hz
  go_wp2_with fail
  go_loopw [9, 10] (fun _ _ wx => ∃ i : Nat, wx.heap[w.heap.size]? = some (.stringIter s i) ∧ Below w.heap.size w wx) (fun _ _ wx => s.size - wx.iterPos w.heap.size)
  case atStart => exact ⟨0, World.iter_heap w s 0, (Below.refl _ _).alloc (Nat.le_refl _) _⟩
  case round =>
    obtain ⟨i, hi, hb⟩ := hrel
    have HI := Lib.hid hi
    have HB := Lib.hid hb
    clear hi hb
    by_cases c : i < s.size
    · have hnx := fun ty => Lib.run_next_any_at (P := Tryz.prog) wr w.heap.size s i ty HI.out c
      have hd := decode_le s i
      have hw1 : 1 ≤ (Utf8.decode s i).2 := by
        by_cases hx : (s[i]'c).toNat < 128
        · rw [decode_ascii s i c hx]; exact Nat.le_refl _
        · exact (decode_high s i c (by omega)).2
      have hI2 := Lib.hid (Lib.iterAt_heap wr w.heap.size s i (i + (Utf8.decode s i).2) HI.out)
      have hB2 : Hid (Below w.heap.size w (wr.iterAt w.heap.size s (i + (Utf8.decode s i).2))) := HB.out.trans (iterAt_below _ _ _ _ (Nat.le_refl _))
      have hip := Lib.hid (iterPos_of HI.out)
      generalize Utf8.decode s i = q at hnx hd hw1 hI2 hB2
      obtain ⟨r, k⟩ := q
      simp only at hnx hd hw1 hI2 hB2
      generalize wr.iterAt w.heap.size s (i + k) = w2 at hnx hI2 hB2
      go_wp2_with fail
      refine (rune_x (r : Int) _ (by omega) (by omega)).mono ?_
      rintro e w3 ⟨n, rfl, hb3⟩
      have hB3 := Lib.hid (hB2.out.trans (hb3.mono hB2.out.size))
      by_cases hn : 0 ≤ n
      · go_wp2
        go_ret
        exact ⟨_, rfl, HR.out _ (by omega) (by omega), hB3.out⟩
      · have hi3 := Lib.hid (iter_next hb3 hI2.out)
        go_wp2
        go_roundw
        case measure =>
          rw [iterPos_of hi3.out, hip.out]
          omega
        case rel => exact ⟨i + k, hi3.out, hB3.out⟩
    · have hnx := fun ty => Lib.run_next_end_at (P := Tryz.prog) wr w.heap.size s i ty HI.out c
      go_wp2
      go_ret
      exact ⟨_, rfl, HR.out _ (by omega) (by omega), HB.out⟩
theorem idxAny_x (s : B) (w : World) (hs : s.size ≤ 100000) : Calls Tryz.prog 148 #[.string s, .string sn] w fun e w' => ∃ n : Int, e = .returned (.int .i64 n) ∧ IxR s n ∧ Below w.heap.size w w' := by
  have hsz : s.size = s.data.toList.length := size_list s
  by_cases h8 : s.size ≤ 8
  · by_cases ha : As s.data.toList
    · refine (Tryz.strings_IndexAny_short s sn w (by decide) h8 fun j b hb => as_get ha hb).mono ?_
      rintro e w' ⟨rfl, pos, rfl⟩
      have := anyIx_le s.data.toList [32, 10]
      exact ⟨_, rfl, ⟨this.1, by rw [hsz]; exact this.2, fun _ => rfl⟩, (Below.refl _ _).alloc (Nat.le_refl _) _⟩
    · exact idxShort_x s w h8 ha
  · refine (Tryz.strings_IndexAny_long (fun w => by kernel_rfl) s sn w (by decide) (by omega) (by omega) (by decide) ?_).mono ?_
    · intro j b hb
      have hb2 : ([32, 10] : L8)[j]? = some b := hb
      have := List.mem_of_getElem? hb2
      simp only [List.mem_cons, List.not_mem_nil, or_false] at this
      rcases this with rfl | rfl <;> decide
    · rintro e w' ⟨rfl, rfl⟩
      have := anyIx_le s.data.toList [32, 10]
      exact ⟨_, rfl, ⟨this.1, by rw [hsz]; exact this.2, fun _ => rfl⟩, chain (Below.new1 _) (Below.new1 _)⟩
end Go.Proofs.YtcjakgpmompaiaaGreatDoor

