/-
  wire.readList, ReadInts, ReadStrings.
-/
import Derived.Test.YtcoebgkkniggeaaRead3
import Derived.Test.YtcoebgkkniggeaaEnc
namespace Go.Proofs.Ytcoebgkkniggeaa
open Go.RowKit

def oL {α : Type} (o : Option (List α × List UInt8)) : List α := (o.map (·.1)).getD []
def oR {α : Type} (o : Option (List α × List UInt8)) : List UInt8 := (o.map (·.2)).getD []

def LPost {α : Type} (E : TypeId) (val : α → Value) (o : Option (List α × List UInt8)) (w : World) (e : Ending) (w' : World) : Prop :=
  ∃ v, e = .returned (.tuple #[v, .string (mk (oR o)), .bool o.isSome]) ∧ w'.ownsRow w.heap.size E 1 v (oL o).length ((oL o).map val) ∧ Below w.heap.size w w'

theorem lpost_none {α : Type} {E : TypeId} {val : α → Value} {o : Option (List α × List UInt8)} {w w' : World} (h : o = none) (hb : Below w.heap.size w w') : LPost E val o w (.returned (.tuple #[.slice none 0 0, .string ⟨#[]⟩, .bool false])) w' := by
  subst h
  exact ⟨_, rfl, World.ownsRow_nil _ _ _ _, hb⟩
theorem lpost_some {α : Type} {E : TypeId} {val : α → Value} {o : Option (List α × List UInt8)} {w w' : World} {v : Value} {l : List α} {r : List UInt8} (h : o = some (l, r)) (ho : w'.ownsRow w.heap.size E 1 v l.length (l.map val)) (hb : Below w.heap.size w w') :
    LPost E val o w (.returned (.tuple #[v, .string (mk r), .bool true])) w' := by
  subst h
  exact ⟨v, rfl, ho, hb⟩

def LRel {α : Type} (E : TypeId) (val : α → Value) (rd : List UInt8 → Option (α × List UInt8)) (n size : Nat) (r0 : List UInt8) (w : World) (l rest i : Value) (wr : World) : Prop :=
  ∃ (k : Nat) (acc : List α) (r : List UInt8), k ≤ n ∧ i = .int .i64 k ∧ rest = .string (mk r) ∧ wr.ownsRow w.heap.size E 1 l acc.length (acc.map val) ∧ Below w.heap.size w wr ∧
    r.length + acc.length ≤ size ∧ Wm.rdN rd n r0 = (Wm.rdN rd (n - k) r).map fun q => (acc ++ q.1, q.2)

theorem l_start {α : Type} {E : TypeId} {val : α → Value} {rd : List UInt8 → Option (α × List UInt8)} {n size : Nat} {r0 : List UInt8} {w w1 : World} (hb : Below w.heap.size w w1) (hs : r0.length ≤ size) :
    LRel E val rd n size r0 w (.slice none 0 0) (.string (mk r0)) (.int .i64 0) w1 :=
  ⟨0, [], r0, Nat.zero_le _, rfl, rfl, World.ownsRow_nil _ _ _ _, hb, by simpa using hs, by simp⟩

theorem l_stop {α : Type} {rd : List UInt8 → Option (α × List UInt8)} {n k : Nat} {r0 r : List UInt8} {acc : List α} (hk : k < n) (h : Wm.rdN rd n r0 = (Wm.rdN rd (n - k) r).map fun q => (acc ++ q.1, q.2)) (hr : rd r = none) : Wm.rdN rd n r0 = none := by
  obtain ⟨j, hj⟩ : ∃ j, n - k = j + 1 := ⟨n - k - 1, by omega⟩
  rw [h, hj, Wm.rdN, hr]
  rfl
theorem l_done {α : Type} {rd : List UInt8 → Option (α × List UInt8)} {n k : Nat} {r0 r : List UInt8} {acc : List α} (hk : k = n) (h : Wm.rdN rd n r0 = (Wm.rdN rd (n - k) r).map fun q => (acc ++ q.1, q.2)) : Wm.rdN rd n r0 = some (acc, r) := by
  subst hk
  rw [h, Nat.sub_self, Wm.rdN]
  simp
theorem l_step {α : Type} {E : TypeId} {val : α → Value} {rd : List UInt8 → Option (α × List UInt8)} {n size k : Nat} {r0 r r' : List UInt8} {w w2 : World} {acc : List α} {x : α} {l : Value} (hk : k < n)
    (hown : w2.ownsRow w.heap.size E 1 l (acc.length + 1) (acc.map val ++ [val x])) (hb : Below w.heap.size w w2) (hs : r.length + acc.length ≤ size) (h : Wm.rdN rd n r0 = (Wm.rdN rd (n - k) r).map fun q => (acc ++ q.1, q.2))
    (hr : rd r = some (x, r')) (hl : r'.length + 2 ≤ r.length) : LRel E val rd n size r0 w l (.string (mk r')) (.int .i64 ((k : Int) + 1)) w2 := by
  refine ⟨k + 1, acc ++ [x], r', by omega, rfl, rfl, by simpa using hown, hb, by simp; omega, ?_⟩
  obtain ⟨j, hj⟩ : ∃ j, n - k = j + 1 := ⟨n - k - 1, by omega⟩
  have hj' : n - (k + 1) = j := by omega
  rw [h, hj, hj', Wm.rdN, hr]
  simp only [Option.bind_some]
  cases Wm.rdN rd j r' with
  | none => rfl
  | some q => simp

theorem L_none {α : Type} {rd : List UInt8 → Option (α × List UInt8)} {s : List UInt8} (h : Wm.rdI s = none) : Wm.rdL rd s = none := by unfold Wm.rdL; rw [h]; rfl
theorem L_neg {α : Type} {rd : List UInt8 → Option (α × List UInt8)} {s r : List UInt8} {n : Int} (h : Wm.rdI s = some (n, r)) (hn : n < 0) : Wm.rdL rd s = none := by unfold Wm.rdL; rw [h]; simp [hn]
theorem L_some {α : Type} {rd : List UInt8 → Option (α × List UInt8)} {s r : List UInt8} {n : Nat} (h : Wm.rdI s = some ((n : Int), r)) : Wm.rdL rd s = Wm.rdN rd n r := by
  unfold Wm.rdL; rw [h]; simp only [Option.bind_some]; rw [if_neg (by omega), Int.toNat_natCast]

theorem info3 : (Try.prog.info? 3).map (fun i => (i.zero, i.size, i.bytes)) = some (some (.int .i64 0), 1, 8) := by kernel_rfl
theorem info9 : (Try.prog.info? 9).map (fun i => (i.zero, i.size, i.bytes)) = some (some (.string ⟨#[]⟩), 1, 16) := by kernel_rfl

set_option maxHeartbeats 1600000 in
theorem readListInt_x (s : ByteArray) (w : World) (hs : s.size ≤ 1099511627776) :
    Calls Try.prog 33 #[.string s, .func (.func 17) #[] #[]] w fun e w' => LPost 3 (Value.int .i64) (Wm.rdL Wm.rdI s.data.toList) w e w' := by
  obtain ⟨i0, hi, hz0, hz1, hz2⟩ := info_parts info3
  go_enter Try.func33, Try.ntmps33
  go_wp2_with fail
  refine (ReadInt_x s _ hs).mono ?_
  rintro e w1 ⟨rfl, hb1⟩
  cases hz : Wm.rdI s.data.toList with
  | none =>
    have hI := Lib.hid (L_none (rd := Wm.rdI) hz)
    clear hz
    simp only [tI]
    go_wp2
    go_ret3
    exact lpost_none hI.out hb1
  | some p =>
    obtain ⟨n, r0⟩ := p
    by_cases h0 : n < 0
    · have hI := Lib.hid (L_neg (rd := Wm.rdI) hz h0)
      clear hz
      simp only [tI]
      go_wp2
      go_ret3
      exact lpost_none hI.out hb1
    · obtain ⟨m, rfl⟩ : ∃ m : Nat, n = m := ⟨n.toNat, by omega⟩
      have hI := Lib.hid (L_some (rd := Wm.rdI) hz)
      obtain ⟨hn1, hn2⟩ := (Wm.rdI_only _ _ _ hz).2
      have hr0 := rdI_rest hz
      rw [← size_of] at hr0
      clear hz hn1
      simp only [tI]
      go_wp2_with fail
      go_loopw [4, 5, 24] (fun l rest i wr => LRel 3 (Value.int .i64) Wm.rdI m s.size r0 w l rest i wr) (fun _ _ i _ => m - (intOf i).toNat)
      case atStart => exact l_start hb1 (by omega)
      case round =>
        obtain ⟨k, acc, r, hk, rfl, rfl, hown, hb, hsz, hN⟩ := hrel
        have HN := Lib.hid hN
        clear hN
        have hms : Hid ((mk r).size = r.length) := rfl
        have hwz : w.heap.size ≤ wr.heap.size := hb.size
        by_cases hlt : k < m
        · go_wp2_with fail
          refine (ReadInt_x (mk r) _ (by rw [hms.out]; omega)).mono ?_
          rintro e w2 ⟨rfl, hb2⟩
          rw [mk_toList]
          have hown2 := below_own hown hb2 (Nat.le_refl _)
          have hbb : Below w.heap.size w w2 := hb.trans (hb2.mono hwz)
          have hwz2 : w.heap.size ≤ w2.heap.size := hbb.size
          cases hr : Wm.rdI r with
          | none =>
            have hN := Lib.hid (l_stop hlt HN.out hr)
            clear hr
            simp only [tI]
            go_wp2
            go_ret3
            exact lpost_none (by rw [hI.out, hN.out]) hbb
          | some p =>
            obtain ⟨x, r'⟩ := p
            have hl := rdI_rest hr
            have Hr := Lib.hid hr
            clear hr
            simp only [tI]
            go_wp2_with (at_builtin; refine wpList_append_own _ rfl (.tmp 35) (.tmp 37) 22 rfl w.heap.size 3 i0 (.int .i64 0) 1 8 Try.underlying22 hi hz0 hz1 hz2 rfl (by decide) _ _ _ rfl (hown2.alloc _) ⟨w2.heap.size, 0, none⟩ 1 1 [.int .i64 x] rfl rfl ?c1 ?c2 ?c3 ?c4 ?c5 ?_)
            case c1 => exact cell_one_new _ _ _
            case c2 => intro u hu; simp at hu; subst hu; rfl
            case c3 => unfold maxLen; omega
            case c4 => omega
            case c5 => simp; omega
            intro v3 w3 hown3 hgrow3 _
            have hb3 : Below w.heap.size w w3 := (hbb.alloc hwz2 _).grown hgrow3 (by simp; omega) (fun j hj => (hown2.lt j hj).1)
            go_wp2
            go_roundw
            case rel => exact l_step hlt hown3 hb3 hsz HN.out Hr.out hl
            case measure => simp [intOf]; omega
        · have hN := Lib.hid (l_done (by omega) HN.out)
          go_wp2
          go_ret3
          exact lpost_some (by rw [hI.out, hN.out]) hown hb

def vS (t : List UInt8) : Value := .string (mk t)

theorem rdS_rest {l x r : List UInt8} (h : Wm.rdS l = some (x, r)) : r.length + 2 ≤ l.length := by
  have h1 := (Wm.rdS_only _ _ _ h).1
  have h2 := (Wm.encI_len (x.length : Int)).1
  rw [h1, Wm.encS, List.length_append, List.length_append]
  omega

set_option maxHeartbeats 1600000 in
theorem readListStr_x (s : ByteArray) (w : World) (hs : s.size ≤ 1099511627776) :
    Calls Try.prog 34 #[.string s, .func (.func 19) #[] #[]] w fun e w' => LPost 9 vS (Wm.rdL Wm.rdS s.data.toList) w e w' := by
  obtain ⟨i0, hi, hz0, hz1, hz2⟩ := info_parts info9
  go_enter Try.func34, Try.ntmps34
  go_wp2_with fail
  refine (ReadInt_x s _ hs).mono ?_
  rintro e w1 ⟨rfl, hb1⟩
  cases hz : Wm.rdI s.data.toList with
  | none =>
    have hI := Lib.hid (L_none (rd := Wm.rdS) hz)
    clear hz
    simp only [tI]
    go_wp2
    go_ret3
    exact lpost_none hI.out hb1
  | some p =>
    obtain ⟨n, r0⟩ := p
    by_cases h0 : n < 0
    · have hI := Lib.hid (L_neg (rd := Wm.rdS) hz h0)
      clear hz
      simp only [tI]
      go_wp2
      go_ret3
      exact lpost_none hI.out hb1
    · obtain ⟨m, rfl⟩ : ∃ m : Nat, n = m := ⟨n.toNat, by omega⟩
      have hI := Lib.hid (L_some (rd := Wm.rdS) hz)
      obtain ⟨hn1, hn2⟩ := (Wm.rdI_only _ _ _ hz).2
      have hr0 := rdI_rest hz
      rw [← size_of] at hr0
      clear hz hn1
      simp only [tI]
      go_wp2_with fail
      go_loopw [4, 5, 24] (fun l rest i wr => LRel 9 vS Wm.rdS m s.size r0 w l rest i wr) (fun _ _ i _ => m - (intOf i).toNat)
      case atStart => exact l_start hb1 (by omega)
      case round =>
        obtain ⟨k, acc, r, hk, rfl, rfl, hown, hb, hsz, hN⟩ := hrel
        have HN := Lib.hid hN
        clear hN
        have hms : Hid ((mk r).size = r.length) := rfl
        have hwz : w.heap.size ≤ wr.heap.size := hb.size
        by_cases hlt : k < m
        · go_wp2_with fail
          refine (ReadString_x (mk r) _ (by rw [hms.out]; omega)).mono ?_
          rintro e w2 ⟨rfl, hb2⟩
          rw [mk_toList]
          have hown2 := below_own hown hb2 (Nat.le_refl _)
          have hbb : Below w.heap.size w w2 := hb.trans (hb2.mono hwz)
          have hwz2 : w.heap.size ≤ w2.heap.size := hbb.size
          cases hr : Wm.rdS r with
          | none =>
            have hN := Lib.hid (l_stop hlt HN.out hr)
            clear hr
            simp only [tS]
            go_wp2
            go_ret3
            exact lpost_none (by rw [hI.out, hN.out]) hbb
          | some p =>
            obtain ⟨x, r'⟩ := p
            have hl := rdS_rest hr
            have Hr := Lib.hid hr
            clear hr
            simp only [tS]
            go_wp2_with (at_builtin; refine wpList_append_own _ rfl (.tmp 35) (.tmp 37) 23 rfl w.heap.size 9 i0 (.string ⟨#[]⟩) 1 16 Try.underlying23 hi hz0 hz1 hz2 rfl (by decide) _ _ _ rfl (hown2.alloc _) ⟨w2.heap.size, 0, none⟩ 1 1 [.string (mk x)] rfl rfl ?c1 ?c2 ?c3 ?c4 ?c5 ?_)
            case c1 => exact cell_one_new _ _ _
            case c2 => intro u hu; simp at hu; subst hu; rfl
            case c3 => unfold maxLen; omega
            case c4 => omega
            case c5 => simp; omega
            intro v3 w3 hown3 hgrow3 _
            have hb3 : Below w.heap.size w w3 := (hbb.alloc hwz2 _).grown hgrow3 (by simp; omega) (fun j hj => (hown2.lt j hj).1)
            go_wp2
            go_roundw
            case rel => exact l_step hlt hown3 hb3 hsz HN.out Hr.out hl
            case measure => simp [intOf]; omega
        · have hN := Lib.hid (l_done (by omega) HN.out)
          go_wp2
          go_ret3
          exact lpost_some (by rw [hI.out, hN.out]) hown hb


theorem ReadInts_x (s : ByteArray) (w : World) (hs : s.size ≤ 1099511627776) :
    Calls Try.prog 21 #[.string s] w fun e w' => LPost 3 (Value.int .i64) (Wm.rdL Wm.rdI s.data.toList) w e w' := by
  go_enter Try.func21, Try.ntmps21
  go_wp2_with fail
  refine (readListInt_x s _ hs).mono ?_
  rintro e w1 ⟨v, rfl, hown, hb⟩
  go_wp2
  go_ret3
  exact ⟨v, rfl, hown, hb⟩

theorem ReadStrings_x (s : ByteArray) (w : World) (hs : s.size ≤ 1099511627776) :
    Calls Try.prog 24 #[.string s] w fun e w' => LPost 9 vS (Wm.rdL Wm.rdS s.data.toList) w e w' := by
  go_enter Try.func24, Try.ntmps24
  go_wp2_with fail
  refine (readListStr_x s _ hs).mono ?_
  rintro e w1 ⟨v, rfl, hown, hb⟩
  go_wp2
  go_ret3
  exact ⟨v, rfl, hown, hb⟩

end Go.Proofs.Ytcoebgkkniggeaa
