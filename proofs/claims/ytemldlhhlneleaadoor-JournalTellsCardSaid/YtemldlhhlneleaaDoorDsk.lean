/-
  Disks, plain: what each function of layer 7 answers, and what the laws need of it.
-/
import Derived.Test.YtemldlhhlneleaaDoorProg
namespace Go.Proofs.YtemldlhhlneleaaDoor.Dk

abbrev B := ByteArray
structure D where
  secs : List B
  pend : List (Int × B)
  left : Int
  down : Bool
def D0 : D := ⟨[], [], 0, false⟩
/-- n bytes 0 -/
def zb : Nat → B
  | 0 => ⟨#[]⟩
  | n + 1 => zb n ++ ⟨#[0]⟩
theorem zb_size : ∀ n, (zb n).size = n
  | 0 => rfl
  | n + 1 => by simp only [zb, ByteArray.size_append, zb_size n]; rfl
theorem app_list (a b : B) : (a ++ b).data.toList = a.data.toList ++ b.data.toList := by rw [ByteArray.data_append, Array.toList_append]
theorem zb_list : ∀ n, (zb n).data.toList = List.replicate n 0
  | 0 => rfl
  | n + 1 => by simp only [zb, app_list, zb_list n]; rw [List.replicate_succ']
def okW (n : Nat) (p : Int × B) : Bool := decide (0 ≤ p.1 ∧ p.1 < (n : Int) ∧ p.2.size = 16)
def offB (d : D) : Bool := d.down && (decide (0 < d.pend.length) || decide (d.left ≠ -1))
def numB (d : D) : Bool := decide (1 ≤ d.secs.length ∧ d.secs.length ≤ 512 ∧ d.pend.length ≤ 512 ∧ -1 ≤ d.left ∧ d.left ≤ 512)
def checkB (d : D) : Bool := numB d && (d.secs.all (fun s => decide (s.size = 16)) && (d.pend.all (okW d.secs.length) && !offB d))
theorem check_iff {d : D} : checkB d = true ↔ (1 ≤ d.secs.length ∧ d.secs.length ≤ 512 ∧ d.pend.length ≤ 512 ∧ -1 ≤ d.left ∧ d.left ≤ 512) ∧ (∀ s ∈ d.secs, s.size = 16) ∧ (∀ p ∈ d.pend, 0 ≤ p.1 ∧ p.1 < (d.secs.length : Int) ∧ p.2.size = 16) ∧ (d.down = true → d.pend = [] ∧ d.left = -1) := by
  unfold checkB numB offB okW
  rw [Bool.and_eq_true, Bool.and_eq_true, Bool.and_eq_true, decide_eq_true_iff, List.all_eq_true, List.all_eq_true, Bool.not_eq_true']
  simp only [decide_eq_true_iff]
  refine and_congr_right fun _ => and_congr_right fun _ => and_congr_right fun _ => ?_
  cases d.down with
  | false => simp
  | true => simp
def chk (d : D) : Int := bif checkB d then 0 else 1
def upE (d : D) : Int := bif checkB d then (bif d.down then 8 else 0) else 1
theorem upE_zero {d : D} : upE d = 0 ↔ checkB d = true ∧ d.down = false := by
  unfold upE
  cases checkB d <;> cases d.down <;> decide
/-- the last of the writes at a sector -/
def lastW (at_ : Int) : List (Int × B) → B → B
  | [], s => s
  | p :: t, s => lastW at_ t (if p.1 = at_ then p.2 else s)
theorem lastW_app (a : Int) : ∀ (l t : List (Int × B)) (s : B), lastW a (l ++ t) s = lastW a t (lastW a l s)
  | [], _, _ => rfl
  | p :: l, t, s => by simp only [List.cons_append, lastW]; exact lastW_app a l t _
def rdV (d : D) (a : Int) : B × Int := if upE d = 0 then (if 0 ≤ a ∧ a < (d.secs.length : Int) then (lastW a d.pend ((d.secs[a.toNat]?).getD ⟨#[]⟩), 0) else (⟨#[]⟩, 1)) else (⟨#[]⟩, upE d)
def pad (s : B) : B := s ++ zb (16 - s.size)
def wrV (d : D) (a : Int) (s : B) : D × Int := if upE d = 0 then (if 0 ≤ a ∧ a < (d.secs.length : Int) ∧ s.size ≤ 16 then (if d.pend.length < 512 then (⟨d.secs, d.pend ++ [(a, pad s)], d.left, d.down⟩, 0) else (D0, 6)) else (D0, 1)) else (D0, upE d)
def perf (l : List B) (ws : List (Int × B)) : List B := ws.foldl (fun l p => l.set p.1.toNat p.2) l
def torn (a b : B) : B := a.extract 0 8 ++ b.extract 8 b.size
def tearL (l : List B) (w : Int × B) : List B := l.set w.1.toNat (torn w.2 ((l[w.1.toNat]?).getD ⟨#[]⟩))
def tearD (d : D) : D := ⟨tearL (perf d.secs (d.pend.take d.left.toNat)) ((d.pend[d.left.toNat]?).getD (0, ⟨#[]⟩)), [], -1, true⟩
def flushD (d : D) : D := ⟨perf d.secs d.pend, [], if 0 ≤ d.left then d.left - d.pend.length else -1, false⟩
def flV (d : D) : D × Int := if upE d = 0 then (if 0 ≤ d.left ∧ d.left < (d.pend.length : Int) then (tearD d, 8) else (flushD d, 0)) else (D0, upE d)
def armV (d : D) (n : Int) : D × Int := if upE d = 0 then (if 0 ≤ n ∧ n ≤ 512 then (⟨d.secs, d.pend, n, d.down⟩, 0) else (D0, 1)) else (D0, upE d)
def cutV (d : D) : D × Int := if upE d = 0 then (⟨d.secs, [], -1, true⟩, 0) else (D0, upE d)
def stV (d : D) : D × Int := bif checkB d then (bif d.down then (⟨d.secs, d.pend, d.left, false⟩, 0) else (D0, 7)) else (D0, 1)
def newV (n : Int) : D × Int := if 1 ≤ n ∧ n ≤ 512 then (⟨List.replicate n.toNat (zb 16), [], -1, false⟩, 0) else (D0, 1)

/-! what is performed -/
theorem perf_len : ∀ (ws : List (Int × B)) (l : List B), (perf l ws).length = l.length
  | [], _ => rfl
  | p :: t, l => by
    have h := perf_len t (l.set p.1.toNat p.2)
    rw [List.length_set] at h
    exact h
theorem perf_app (l : List B) (a b : List (Int × B)) : perf l (a ++ b) = perf (perf l a) b := by unfold perf; rw [List.foldl_append]
theorem perf_one (l : List B) (p : Int × B) : perf l [p] = l.set p.1.toNat p.2 := rfl
theorem perf_next {l : List B} {ws : List (Int × B)} {k : Nat} {p : Int × B} (h : ws[k]? = some p) : perf l (ws.take (k + 1)) = (perf l (ws.take k)).set p.1.toNat p.2 := by
  rw [List.take_add_one, h, perf_app]
  rfl
theorem perf_size : ∀ {ws : List (Int × B)} {l : List B}, (∀ s ∈ l, s.size = 16) → (∀ p ∈ ws, p.2.size = 16) → ∀ s ∈ perf l ws, s.size = 16
  | [], _, h, _ => h
  | p :: t, l, h, hw => by
    refine perf_size (ws := t) (l := l.set p.1.toNat p.2) (fun s hs => ?_) (fun q hq => hw q (by simp [hq]))
    rcases List.mem_or_eq_of_mem_set hs with k | k
    · exact h s k
    · rw [k]; exact hw p (by simp)
theorem perf_get : ∀ {ws : List (Int × B)} {l : List B} {i : Nat} {s : B}, (∀ p ∈ ws, 0 ≤ p.1) → l[i]? = some s → (perf l ws)[i]? = some (lastW (i : Int) ws s)
  | [], _, _, _, _, h => h
  | p :: t, l, i, s, hp, h => by
    have h0 := hp p (by simp)
    have hlt := (List.getElem?_eq_some_iff.1 h).1
    have h1 : (l.set p.1.toNat p.2)[i]? = some (if p.1 = (i : Int) then p.2 else s) := by
      rw [List.getElem?_set]
      by_cases c : p.1 = (i : Int)
      · rw [if_pos (by omega), if_pos (by omega), if_pos c]
      · rw [if_neg (by omega), if_neg c]; exact h
    exact perf_get (ws := t) (fun q hq => hp q (by simp [hq])) h1
/-- what is read of all sectors -/
theorem rd_view {d : D} (h : checkB d = true) (hd : d.down = false) {i : Nat} (hi : i < d.secs.length) : ∃ s, (perf d.secs d.pend)[i]? = some s ∧ rdV d (i : Int) = (s, 0) ∧ s.size = 16 := by
  obtain ⟨-, h2, h3, -⟩ := check_iff.1 h
  have hg := List.getElem?_eq_getElem hi
  have hp := perf_get (fun p hp => (h3 p hp).1) hg
  refine ⟨_, hp, ?_, perf_size h2 (fun p hp => (h3 p hp).2.2) _ (List.mem_of_getElem? hp)⟩
  unfold rdV
  rw [if_pos (upE_zero.2 ⟨h, hd⟩), if_pos ⟨by omega, by omega⟩, Int.toNat_natCast, hg]
  rfl
theorem pad_size {s : B} (h : s.size ≤ 16) : (pad s).size = 16 := by unfold pad; rw [ByteArray.size_append, zb_size]; omega
theorem torn_size {a b : B} (ha : a.size = 16) (hb : b.size = 16) : (torn a b).size = 16 := by unfold torn; rw [ByteArray.size_append, ByteArray.size_extract, ByteArray.size_extract, ha, hb]; rfl
theorem torn_list {a b : B} (hb : b.size = 16) : (torn a b).data.toList = a.data.toList.take 8 ++ b.data.toList.drop 8 := by
  unfold torn
  rw [app_list, ByteArray.data_extract, ByteArray.data_extract, Array.toList_extract, Array.toList_extract]
  simp only [List.extract_eq_take_drop]
  rw [List.drop_zero, hb]
  congr 1
  rw [List.take_of_length_le]
  rw [List.length_drop]
  have : b.data.toList.length = 16 := hb
  omega

/-! which disks are right -/
theorem m1 : (-1 : Int) ≤ -1 ∧ (-1 : Int) ≤ 512 := by decide
theorem check_write {d : D} (h : checkB d = true) (hd : d.down = false) {a : Int} (ha : 0 ≤ a ∧ a < (d.secs.length : Int)) {s : B} (hs : s.size = 16) (hp : d.pend.length < 512) : checkB ⟨d.secs, d.pend ++ [(a, s)], d.left, d.down⟩ = true := by
  obtain ⟨h1, h2, h3, h4⟩ := check_iff.1 h
  refine check_iff.2 ⟨⟨h1.1, h1.2.1, ?_, h1.2.2.2⟩, h2, fun p hm => ?_, fun he => ?_⟩
  · rw [List.length_append, List.length_singleton]; omega
  · rcases List.mem_append.1 hm with k | k
    · exact h3 p k
    · rw [List.mem_singleton] at k
      subst k
      exact ⟨ha.1, ha.2, hs⟩
  · change d.down = true at he
    rw [hd] at he
    cases he
theorem check_perf {d : D} (h : checkB d = true) (ws : List (Int × B)) (hw : ∀ p ∈ ws, p ∈ d.pend) {left : Int} (hl : -1 ≤ left ∧ left ≤ 512) {down : Bool} (hd : down = true → left = -1) : checkB ⟨perf d.secs ws, [], left, down⟩ = true := by
  obtain ⟨h1, h2, h3, -⟩ := check_iff.1 h
  refine check_iff.2 ⟨⟨?_, ?_, Nat.zero_le _, hl⟩, ?_, fun p hp => by simp at hp, fun he => ⟨rfl, hd he⟩⟩
  · show 1 ≤ (perf d.secs ws).length; rw [perf_len]; exact h1.1
  · show (perf d.secs ws).length ≤ 512; rw [perf_len]; exact h1.2.1
  · exact perf_size h2 (fun p hp => (h3 p (hw p hp)).2.2)
theorem check_flush {d : D} (h : checkB d = true) (hd : ¬ (0 ≤ d.left ∧ d.left < (d.pend.length : Int))) : checkB (flushD d) = true := by
  have h1 := (check_iff.1 h).1
  unfold flushD
  by_cases c : 0 ≤ d.left
  · rw [if_pos c]
    exact check_perf h d.pend (fun _ hp => hp) ⟨by omega, by omega⟩ (fun e => by cases e)
  · rw [if_neg c]
    exact check_perf h d.pend (fun _ hp => hp) ⟨by omega, by omega⟩ (fun e => by cases e)
theorem set_size {l : List B} {i : Nat} {s : B} (h : ∀ s ∈ l, s.size = 16) (hs : s.size = 16) : ∀ t ∈ l.set i s, t.size = 16 := by
  intro t ht
  rcases List.mem_or_eq_of_mem_set ht with k | k
  · exact h t k
  · rw [k]; exact hs
theorem check_tear {d : D} (h : checkB d = true) {w : Int × B} (hw : d.pend[d.left.toNat]? = some w) : checkB (tearD d) = true := by
  obtain ⟨h1, h2, h3, -⟩ := check_iff.1 h
  have hm := h3 w (List.mem_of_getElem? hw)
  unfold tearD
  rw [hw]
  unfold tearL
  have hp : ∀ s ∈ perf d.secs (d.pend.take d.left.toNat), s.size = 16 := perf_size h2 (fun p hp => (h3 p (List.mem_of_mem_take hp)).2.2)
  refine check_iff.2 ⟨⟨?_, ?_, Nat.zero_le _, m1.1, m1.2⟩, ?_, fun p hp => by simp at hp, fun _ => ⟨rfl, rfl⟩⟩
  · simp only [Option.getD_some, List.length_set, perf_len]; exact h1.1
  · simp only [Option.getD_some, List.length_set, perf_len]; exact h1.2.1
  · refine set_size hp (torn_size hm.2.2 ?_)
    have hlt : w.1.toNat < (perf d.secs (d.pend.take d.left.toNat)).length := by rw [perf_len]; omega
    simp only [Option.getD_some]
    rw [List.getElem?_eq_getElem hlt]
    exact hp _ (List.getElem_mem hlt)
theorem check_start {d : D} (h : checkB d = true) : checkB ⟨d.secs, d.pend, d.left, false⟩ = true := by
  obtain ⟨h1, h2, h3, -⟩ := check_iff.1 h
  exact check_iff.2 ⟨h1, h2, h3, fun e => by cases e⟩
theorem check_cut {d : D} (h : checkB d = true) : checkB ⟨d.secs, [], -1, true⟩ = true := by
  obtain ⟨h1, h2, -, -⟩ := check_iff.1 h
  exact check_iff.2 ⟨⟨h1.1, h1.2.1, Nat.zero_le _, m1.1, m1.2⟩, h2, fun p hp => by simp at hp, fun _ => ⟨rfl, rfl⟩⟩
theorem check_arm {d : D} (h : checkB d = true) (hd : d.down = false) {n : Int} (hn : -1 ≤ n ∧ n ≤ 512) : checkB ⟨d.secs, d.pend, n, d.down⟩ = true := by
  obtain ⟨h1, h2, h3, -⟩ := check_iff.1 h
  exact check_iff.2 ⟨⟨h1.1, h1.2.1, h1.2.2.1, hn⟩, h2, h3, fun e => by change d.down = true at e; rw [hd] at e; cases e⟩
theorem check_few {d : D} (h : checkB d = true) (hd : d.down = false) (n : Nat) : checkB ⟨d.secs, d.pend.take n, -1, d.down⟩ = true := by
  obtain ⟨h1, h2, h3, -⟩ := check_iff.1 h
  refine check_iff.2 ⟨⟨h1.1, h1.2.1, ?_, m1.1, m1.2⟩, h2, fun p hp => h3 p (List.mem_of_mem_take hp), fun e => by change d.down = true at e; rw [hd] at e; cases e⟩
  show (d.pend.take n).length ≤ 512
  rw [List.length_take]
  omega

end Go.Proofs.YtemldlhhlneleaaDoor.Dk
