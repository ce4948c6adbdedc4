/-
  The reference's quoted.
-/
import Derived.Test.YtmpgbdibagnanaaDoorRefC
namespace Go.Proofs.YtmpgbdibagnanaaDoor
open Go.RowKit

/-- the value, the place behind it, and whether there is one -/
def quoR (s : ByteArray) (o : Option (List UInt8 × List UInt8)) : Value := match o with
  | none => .tuple #[.string ⟨#[]⟩, .int .i64 0, .bool false]
  | some p => if Lx.okValue p.1 then .tuple #[.string (mk p.1), .int .i64 ((s.size - p.2.length : Nat) : Int), .bool true] else .tuple #[.string ⟨#[]⟩, .int .i64 0, .bool false]

def QRel (s : ByteArray) (b : Nat) (t i : Value) : Prop := ∃ (k : Nat) (v : List UInt8), b ≤ k ∧ k ≤ s.size ∧ i = .int .i64 k ∧ t = .string (mk v) ∧ v.length ≤ k ∧
  Lx.unq (s.data.toList.drop b) = (Lx.unq (s.data.toList.drop k)).map fun p => (v ++ p.1, p.2)

theorem map_map {α β γ : Type} (o : Option α) (f : α → β) (g : β → γ) : (o.map f).map g = o.map fun x => g (f x) := by cases o <;> rfl

theorem c34 {c : UInt8} (h : (c.toNat : Int) = 34) : c = 34 := UInt8.toNat_inj.1 (by show _ = 34; omega)
theorem c92 {c : UInt8} (h : (c.toNat : Int) = 92) : c = 92 := UInt8.toNat_inj.1 (by show _ = 92; omega)
theorem n34 {c : UInt8} (h : ¬ (c.toNat : Int) = 34) : c ≠ 34 := by rintro rfl; exact h rfl
theorem n92 {c : UInt8} (h : ¬ (c.toNat : Int) = 92) : c ≠ 92 := by rintro rfl; exact h rfl

theorem drop_len (s : ByteArray) (k : Nat) (h : k ≤ s.size) : s.size - (s.data.toList.drop k).length = k := by
  rw [List.length_drop, ← size_of]; omega

set_option maxHeartbeats 3200000 in
theorem quoted_x (s : ByteArray) (b : Nat) (w : World) (hs : s.size ≤ 1099511627776) (hb : b < s.size) :
    Calls Tryd.prog 42 #[.string s, .int .i64 (b : Int)] w fun e w' => e = .returned (quoR s (Lx.unq (s.data.toList.drop (b + 1)))) ∧ w = w' := by
  go_enter Tryd.func42, Tryd.ntmps42
  go_wp2_with fail
  go_loop [7, 8] (fun t i => QRel s (b + 1) t i) (fun _ i => s.size - (intOf i).toNat)
  case atStart => exact ⟨b + 1, [], Nat.le_refl _, hb, by go_num, rfl, by simp, by rw [show (fun p : List UInt8 × List UInt8 => (([] : List UInt8) ++ p.1, p.2)) = fun p => p from rfl]; simp⟩
  case round =>
    obtain ⟨k, v, hbk, hk, rfl, rfl, hvl, hq⟩ := hrel
    have Hq := Lib.hid hq
    clear hq
    have hvs : (mk v).size ≤ 1099511627776 := by rw [mk_size]; omega
    by_cases hlt : k < s.size
    · have hdc := Lib.hid (drop_cons s k hlt)
      by_cases h34 : (s[k].toNat : Int) = 34
      · have hq2 : Hid (Lx.unq (s.data.toList.drop (b + 1)) = some (v, s.data.toList.drop (k + 1))) := by
          show _ = _
          rw [Hq.out, hdc.out, c34 h34, Lx.unq_quote]
          simp
        have hb1 : ((s[k].toNat : Int) != 34) = false := by simp [h34]
        clear h34
        cases hv : Lx.okValue v with
        | true =>
          have hfin : Hid (quoR s (Lx.unq (s.data.toList.drop (b + 1))) = .tuple #[.string (mk v), .int .i64 ((k + 1 : Nat) : Int), .bool true]) := by
            show _ = _
            rw [hq2.out]
            simp only [quoR]
            rw [hv, drop_len s (k + 1) (by omega)]
            rfl
          have Hv := Lib.hid hv
          clear hv
          go_wp2_with fail
          refine (Value_x (mk v) _ hvs).mono ?_
          rintro e w1 ⟨rfl, rfl⟩
          rw [mk_toList, Hv.out]
          go_wp2
          go_ret3
          exact ⟨by rw [hfin.out]; rfl, rfl⟩
        | false =>
          have hfin : Hid (quoR s (Lx.unq (s.data.toList.drop (b + 1))) = .tuple #[.string ⟨#[]⟩, .int .i64 0, .bool false]) := by
            show _ = _
            rw [hq2.out]
            simp only [quoR]
            rw [hv]
            rfl
          have Hv := Lib.hid hv
          clear hv
          go_wp2_with fail
          refine (Value_x (mk v) _ hvs).mono ?_
          rintro e w1 ⟨rfl, rfl⟩
          rw [mk_toList, Hv.out]
          go_wp2
          go_ret3
          exact ⟨by rw [hfin.out]; rfl, rfl⟩
      · have hb1 : ((s[k].toNat : Int) != 34) = true := by simp [h34]
        by_cases h92 : (s[k].toNat : Int) = 92
        · have hb2 : ((s[k].toNat : Int) == 92) = true := by simp [h92]
          by_cases hlt2 : k + 1 < s.size
          · have hdc2 := Lib.hid (drop_cons s (k + 1) hlt2)
            have hone := Lib.hid (one_byte s (k + 1) hlt2)
            obtain ⟨d, ed⟩ : ∃ d, d = s[k + 1] := ⟨_, rfl⟩
            by_cases hd : (s[k + 1].toNat : Int) = 34 ∨ (s[k + 1].toNat : Int) = 92
            · have hq2 : Hid (Lx.unq (s.data.toList.drop (b + 1)) = (Lx.unq (s.data.toList.drop (k + 2))).map fun p => (v ++ [s[k + 1]] ++ p.1, p.2)) := by
                show _ = _
                rw [Hq.out, hdc.out, c92 h92, hdc2.out, Lx.unq_esc (hd.elim (fun h => .inl (c34 h)) (fun h => .inr (c92 h))), map_map]
                simp
              have hcat : Hid (mk v ++ s.extract (k + 1) (k + 1 + 1) = mk (v ++ [s[k + 1]])) := by
                show _ = _
                rw [hone.out, mk_append]
              clear h34 h92
              rcases hd with hd | hd
              · have hb3 : ((s[k + 1].toNat : Int) != 34) = false := by simp [hd]
                clear hd
                go_wp2
                go_round
                case rel => exact ⟨k + 2, v ++ [s[k + 1]], by omega, by omega, by go_num, by rw [← hcat.out], by simp; omega, hq2.out⟩
                case measure => simp [intOf]; omega
              · have hb3 : ((s[k + 1].toNat : Int) != 34) = true := by rw [bne_iff_ne]; omega
                have hb4 : ((s[k + 1].toNat : Int) != 92) = false := by simp [hd]
                clear hd
                go_wp2
                go_round
                case rel => exact ⟨k + 2, v ++ [s[k + 1]], by omega, by omega, by go_num, by rw [← hcat.out], by simp; omega, hq2.out⟩
                case measure => simp [intOf]; omega
            · have hfin : Hid (quoR s (Lx.unq (s.data.toList.drop (b + 1))) = .tuple #[.string ⟨#[]⟩, .int .i64 0, .bool false]) := by
                show _ = _
                rw [Hq.out, hdc.out, c92 h92, hdc2.out, Lx.unq_bad (fun h => hd (h.elim (fun h => .inl (by rw [h]; rfl)) (fun h => .inr (by rw [h]; rfl))))]
                rfl
              have hb3 : ((s[k + 1].toNat : Int) != 34) = true := by rw [bne_iff_ne]; omega
              have hb4 : ((s[k + 1].toNat : Int) != 92) = true := by rw [bne_iff_ne]; omega
              clear h34 h92 hd
              go_wp2
              go_ret3
              exact ⟨by rw [hfin.out]; rfl, rfl⟩
          · have hfin : Hid (quoR s (Lx.unq (s.data.toList.drop (b + 1))) = .tuple #[.string ⟨#[]⟩, .int .i64 0, .bool false]) := by
              show _ = _
              rw [Hq.out, hdc.out, c92 h92, show k + 1 = s.size from by omega, drop_end, Lx.unq_last]
              rfl
            clear h34 h92
            go_wp2
            go_ret3
            exact ⟨by rw [hfin.out]; rfl, rfl⟩
        · have hb2 : ((s[k].toNat : Int) == 92) = false := by rw [beq_eq_false_iff_ne]; exact h92
          have hone := Lib.hid (one_byte s k hlt)
          have hq2 : Hid (Lx.unq (s.data.toList.drop (b + 1)) = (Lx.unq (s.data.toList.drop (k + 1))).map fun p => (v ++ [s[k]] ++ p.1, p.2)) := by
            show _ = _
            rw [Hq.out, hdc.out, Lx.unq_plain (n34 h34) (n92 h92), map_map]
            simp
          have hcat : Hid (mk v ++ s.extract k (k + 1) = mk (v ++ [s[k]])) := by
            show _ = _
            rw [hone.out, mk_append]
          clear h34 h92
          go_wp2
          go_round
          case rel => exact ⟨k + 1, v ++ [s[k]], by omega, by omega, by go_num, by rw [← hcat.out], by simp; omega, hq2.out⟩
          case measure => simp [intOf]; omega
    · have hfin : Hid (quoR s (Lx.unq (s.data.toList.drop (b + 1))) = .tuple #[.string ⟨#[]⟩, .int .i64 0, .bool false]) := by
        show _ = _
        rw [Hq.out, show k = s.size from by omega, drop_end, Lx.unq_nil]
        rfl
      go_wp2
      go_ret3
      exact ⟨by rw [hfin.out]; rfl, rfl⟩

end Go.Proofs.YtmpgbdibagnanaaDoor
