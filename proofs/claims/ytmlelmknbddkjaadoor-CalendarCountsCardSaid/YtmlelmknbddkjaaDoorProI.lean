/-
  The program's officesOf.
-/
import Derived.Test.YtmlelmknbddkjaaDoorProH
namespace Go.Proofs.YtmlelmknbddkjaaDoor
open Go.RowKit

set_option maxHeartbeats 3200000 in
theorem officesOf_x (nm : ByteArray) (o c : Int) (v3 v4 v5 : Value) (C : Lists) (w : World) (h : CityAt w v3 v4 v5 C) :
    Calls Tryd.prog 36 #[cityV nm o c v3 v4 v5] w fun e w' => ∃ sl, e = .returned (.agg (offC (feastF C C.f) sl)) ∧ Sh w.heap.size w' sl (srt C.s) ∧ Below w.heap.size w w' := by
  have hC := Lib.hid h
  obtain ⟨hz, hi⟩ := zero_of_info infoO
  obtain ⟨Z, hZ⟩ : ∃ Z, offC (fun _ => false) (.slice none 0 0) = Z := ⟨_, rfl⟩
  rw [hZ] at hz
  have HI := Lib.hid hi
  have HZ := Lib.hid hZ
  clear hi hZ
  obtain ⟨⟨a3, p3, rfl, h3⟩, h4, h5, l3, l4, l5, okf⟩ := h
  have H3 := Lib.hid h3
  clear h3 h4 h5 okf
  go_enter Tryd.func36, Tryd.ntmps36
  go_wp2_with fail
  go_loopw [13] (fun i wr => ORel1 w v4 v5 C i wr) (fun i _ => C.r.length - (intOf i).toNat)
  case atStart => exact ⟨0, Nat.zero_le _, rfl, (OS.start HZ.out w nm o c _ v4 v5).congr (fun i _ => by simp [restF, hasB])⟩
  case round =>
    obtain ⟨k, hk, rfl, hO⟩ := hrel
    have HO := Lib.hid hO
    by_cases c1 : k < C.r.length
    · obtain ⟨y, hy⟩ : ∃ y, C.r[k]? = some y := ⟨C.r[k], List.getElem?_eq_getElem c1⟩
      obtain ⟨b, off, rfl, hb, hcell⟩ := H3.out k y hy
      have hcw : wr.cell? ⟨b, off + k, none⟩ = some (.int .i64 y) := by rw [hO.below.cell (p := ⟨b, off + k, none⟩) hb]; exact hcell
      have c0 : (k : Int) < (C.r.length : Int) := by omega
      have k0 : (0 : Int) ≤ (k : Int) := by omega
      have Hy := Lib.hid hy
      have Hk : Hid (k + 1 ≤ C.r.length) := show _ ≤ _ from c1
      clear hy hcell hb hO c1
      by_cases y0 : 0 ≤ y
      · by_cases y7 : y < 7
        · obtain ⟨p, rfl⟩ : ∃ p : Nat, y = p := ⟨y.toNat, by omega⟩
          have hp : p < 7 := by omega
          have hc1 := HO.out.o.cell p (by omega)
          have hf1 := HO.out.o.frozen p
          have Hp := Lib.hid hp
          clear hp
          go_wp2_with fail
          go_roundw
          case rel => exact ⟨k + 1, Hk.out, by congr 1, (HO.out.set p (by have := Hp.out; omega)).congr (fun i _ => rest_in Hy.out Hp.out i)⟩
          case measure => simp [intOf]; omega
        · have Hn : Hid (y < 0 ∨ 7 ≤ y) := show _ ∨ _ by omega
          go_wp2_with fail
          go_roundw
          case rel => exact ⟨k + 1, Hk.out, by congr 1, HO.out.congr (fun i _ => rest_out Hy.out Hn.out i)⟩
          case measure => simp [intOf]; omega
      · have Hn : Hid (y < 0 ∨ 7 ≤ y) := show _ ∨ _ by omega
        go_wp2_with fail
        go_roundw
        case rel => exact ⟨k + 1, Hk.out, by congr 1, HO.out.congr (fun i _ => rest_out Hy.out Hn.out i)⟩
        case measure => simp [intOf]; omega
    · obtain rfl : k = C.r.length := by omega
      have hc4 := hO.c4
      have hc5 := hO.c5
      clear H3
      have HO2 : Hid (OS w v4 v5 (feastF C (C.f.take 0)) wr) := HO.out.congr (fun i _ => rest_feast C i)
      clear HO hO
      obtain ⟨a4, p4, rfl, h4⟩ := hC.out.f
      have H4 := Lib.hid h4
      clear h4 hk
      go_wp2_with fail
      clear hc4 hc5
      go_loopw [30] (fun i wr => ORel2 w (.slice a4 C.f.length p4) v5 C i wr) (fun i _ => C.f.length - (intOf i).toNat)
      case atStart => exact ⟨0, Nat.zero_le _, rfl, HO2.out⟩
      case round =>
        clear HO2
        obtain ⟨k, hk, rfl, hO⟩ := hrel
        have HO := Lib.hid hO
        by_cases c1 : k < C.f.length
        · obtain ⟨y, hy⟩ : ∃ y, C.f[k]? = some y := ⟨C.f[k], List.getElem?_eq_getElem c1⟩
          have hyI := hC.out.okf y (List.mem_of_getElem? hy)
          obtain ⟨b, off, rfl, hb, hcell⟩ := H4.out k y hy
          have hcw : wr.cell? ⟨b, off + k, none⟩ = some (.int .i64 y) := by rw [hO.below.cell (p := ⟨b, off + k, none⟩) hb]; exact hcell
          have c0 : (k : Int) < (C.f.length : Int) := by omega
          have k0 : (0 : Int) ≤ (k : Int) := by omega
          have Hy := Lib.hid hy
          have Hk : Hid (k + 1 ≤ C.f.length) := show _ ≤ _ from c1
          unfold I64 at hyI
          clear hy hcell hb hO c1
          by_cases y0 : y < 100
          · obtain ⟨g, hg⟩ : ∃ g, y.tdiv 100 = g := ⟨_, rfl⟩
            have g0 : g ≤ 0 ∧ -92233720368547759 ≤ g := by
              rw [← hg]
              by_cases s : 0 ≤ y
              · rw [Int.tdiv_eq_ediv_of_nonneg s]; omega
              · obtain ⟨z, rfl⟩ : ∃ z, y = -z := ⟨-y, by omega⟩
                rw [Int.neg_tdiv, Int.tdiv_eq_ediv_of_nonneg (by omega)]; omega
            obtain ⟨g1, g2⟩ := g0
            have f1 : IntKind.i64.wrap g = g := IntWalk.i64_in _ (by omega)
            have f2 : IntKind.i64.wrap (g - 1) = g - 1 := IntWalk.i64_in _ (by omega)
            have f3 : ¬ 0 ≤ g - 1 := by omega
            have Hn : Hid (y < 100 ∨ 1300 ≤ y ∨ 32 ≤ y % 100) := show _ ∨ _ by omega
            clear hyI
            go_wp2_with fail
            go_roundw
            case rel => exact ⟨k + 1, Hk.out, by congr 1, HO.out.congr (fun i hi => feast_out Hy.out Hn.out i hi)⟩
            case measure => simp [intOf]; omega
          · obtain ⟨m, d, hmd, hd⟩ : ∃ m d : Nat, y = 100 * (m : Int) + 100 + (d : Int) ∧ d < 100 := ⟨(y / 100 - 1).toNat, (y % 100).toNat, by omega, by omega⟩
            have f1 : y.tdiv 100 = (m : Int) + 1 := by rw [Int.tdiv_eq_ediv_of_nonneg (by omega)]; omega
            have f2 : y.tmod 100 = (d : Int) := by rw [Int.tmod_eq_emod_of_nonneg (by omega)]; omega
            have m0 : (0 : Int) ≤ (m : Int) := by omega
            have d0 : (0 : Int) ≤ (d : Int) := by omega
            have f3 : IntKind.i64.wrap ((m : Int) + 1) = (m : Int) + 1 := IntWalk.i64_in _ (by omega)
            have f4 : IntKind.i64.wrap (m : Int) = (m : Int) := IntWalk.i64_in _ (by omega)
            have f5 : IntKind.i64.wrap (d : Int) = (d : Int) := IntWalk.i64_in _ (by omega)
            have Hmd := Lib.hid hmd
            by_cases m12 : m < 12
            · have m1 : (m : Int) < 12 := by omega
              by_cases d32 : d < 32
              · have d1 : (d : Int) < 32 := by omega
                have hp : 7 + m * 32 + d < 391 := by omega
                have hc1 := HO.out.o.cell _ hp
                have hf1 := HO.out.o.frozen (7 + m * 32 + d)
                have Hp : Hid (m < 12 ∧ d < 32 ∧ 7 + m * 32 + d < 391) := ⟨m12, d32, hp⟩
                clear hyI hmd hd y0 hp m12 d32
                go_wp2_with fail
                go_roundw
                case rel => exact ⟨k + 1, Hk.out, by congr 1, (HO.out.set _ Hp.out.2.2).congr (fun i _ => feast_in (Hmd.out ▸ Hy.out) Hp.out.1 Hp.out.2.1 i)⟩
                case measure => simp [intOf]; omega
              · have d1 : ¬ (d : Int) < 32 := by omega
                have Hn : Hid (y < 100 ∨ 1300 ≤ y ∨ 32 ≤ y % 100) := show _ ∨ _ by omega
                clear hyI hmd hd y0 m12 d32
                go_wp2_with fail
                go_roundw
                case rel => exact ⟨k + 1, Hk.out, by congr 1, HO.out.congr (fun i hi => feast_out Hy.out Hn.out i hi)⟩
                case measure => simp [intOf]; omega
            · have m1 : ¬ (m : Int) < 12 := by omega
              have Hn : Hid (y < 100 ∨ 1300 ≤ y ∨ 32 ≤ y % 100) := show _ ∨ _ by omega
              clear hyI hmd hd y0 m12
              go_wp2_with fail
              go_roundw
              case rel => exact ⟨k + 1, Hk.out, by congr 1, HO.out.congr (fun i hi => feast_out Hy.out Hn.out i hi)⟩
              case measure => simp [intOf]; omega
        · obtain rfl : k = C.f.length := by omega
          have hc5 := hO.c5
          rw [List.take_length] at HO
          clear H4 hO c1 hk
          have HC5 : Hid (Ints wr v5 C.s) := hC.out.s.below HO.out.below
          have HL5 : Hid (C.s.length ≤ 1099511627776) := show _ ≤ _ from l5
          go_wp2_with fail
          refine (clone_x v5 C.s wr HC5.out HL5.out).mono ?_
          rintro e w1 ⟨sl, rfl, hsl, hB1⟩
          obtain ⟨a5, p5, rfl, -⟩ := hsl.ints
          have HS := Lib.hid hsl
          have HB1 := Lib.hid hB1
          have HO1 : Hid (Ofc w1 (w.heap.size + 1 + 1) (feastF C C.f) (.slice none 0 0)) := HO.out.o.next hB1
          have hl1 := HO1.out.last
          have hf1 := HO1.out.frozen 391
          clear hsl hB1
          go_wp2_with fail
          have hsz := HO.out.size
          have HS2 : Hid (Sh wr.heap.size (w1.setCell ⟨w.heap.size + 1 + 1, 391, none⟩ (.slice a5 C.s.length p5)) (.slice a5 C.s.length p5) C.s) := HS.out.set _ _ _ (by omega)
          have HR1 : Hid (Ofc (w1.setCell ⟨w.heap.size + 1 + 1, 391, none⟩ (.slice a5 C.s.length p5)) (w.heap.size + 1) (fun _ => false) (.slice none 0 0)) := by
            show Ofc _ _ _ _
            have := HO.out.res.below HB1.out (by omega)
            unfold Ofc at this ⊢
            rw [heap_setCell_other w1 ⟨w.heap.size + 1 + 1, 391, none⟩ (w.heap.size + 1) _ (by show w.heap.size + 1 ≠ w.heap.size + 1 + 1; omega)]
            exact this
          have HB2 : Hid (Below w.heap.size w (w1.setCell ⟨w.heap.size + 1 + 1, 391, none⟩ (.slice a5 C.s.length p5))) :=
            (HO.out.below.trans (HB1.out.mono (by omega))).setCell (p := ⟨w.heap.size + 1 + 1, 391, none⟩) (by show w.heap.size ≤ w.heap.size + 1 + 1; omega) _
          refine (sort_x _ _ _ _ HS2.out HL5.out).mono ?_
          rintro e w2 ⟨rfl, hs2, hb2⟩
          have HS3 := Lib.hid hs2
          have hO3 : Ofc w2 (w.heap.size + 1 + 1) (feastF C C.f) (.slice a5 C.s.length p5) := (HO1.out.setLast _).below hb2 (by omega)
          have hR3 : Ofc w2 (w.heap.size + 1) (fun _ => false) (.slice none 0 0) := HR1.out.below hb2 (by omega)
          have HB3 : Hid (Below w.heap.size w w2) := HB2.out.trans (hb2.mono (by omega))
          obtain ⟨Y, hY⟩ : ∃ Y, offC (feastF C C.f) (.slice a5 C.s.length p5) = Y := ⟨_, rfl⟩
          unfold Ofc at hO3 hR3
          rw [hY] at hO3
          rw [HZ.out] at hR3
          have hYs : Y.size = 392 := by rw [← hY]; exact offC_size _ _
          have hZs : Z.size = 392 := by rw [← HZ.out]; exact offC_size _ _
          have hY1 : Y.all (·.oneCell') = true := by rw [← hY]; exact offC_one _ _ rfl
          have HI2 : Hid ((Tryd.prog.info? 53).map (·.size) = some Y.size) := by show _ = _; rw [hYs]; exact HI.out
          have HO3 := Lib.hid hO3
          have HR3 := Lib.hid hR3
          have HY1 := Lib.hid hY1
          have HZY : Hid (Z.size = Y.size) := show _ = _ by omega
          have HS4 : Hid (Sh w.heap.size (w2.setRow (w.heap.size + 1) Y) (.slice a5 C.s.length p5) (srt C.s)) := by
            have h1 := HS3.out.row (w.heap.size + 1) Y (by omega)
            refine ⟨h1.1, ?_⟩
            rcases h1.2 with hn | ⟨g, cap, cur, e, hg, rest⟩
            · exact .inl hn
            · exact .inr ⟨g, cap, cur, e, by omega, rest⟩
          have HB4 : Hid (Below w.heap.size w (w2.setRow (w.heap.size + 1) Y)) := by
            have h1 := HB3.out
            exact ⟨h1.os, h1.tape, h1.output, by rw [size_setRow]; exact h1.size, fun k hk => (setRow_other w2 (w.heap.size + 1) k Y (by omega)).trans (h1.block k hk)⟩
          have hrs : (w2.setRow (w.heap.size + 1) Y).heap[w.heap.size + 1]? = some (.cells Y 53 (0, 0)) := setRow_heap w2 _ Z Y _ _ hR3
          clear hsz hs2 hb2 HS2 HR1 HB2 HB1 HO1 hl1 hf1
          have HY := Lib.hid hY
          have HRS := Lib.hid hrs
          clear hY hrs hY1 hZs hYs hO3 hR3
          go_wp2_with (first | (refine wpList_load_row rfl 53 (.tmp 3) rfl (w.heap.size + 1 + 1) rfl 53 Y (0, 0) _ HO3.out Tryd.underlying53 rfl HI2.out ?_) | (refine wpList_store_row rfl 53 (.tmp 2) (.tmp 62) rfl (w.heap.size + 1) Y rfl rfl 53 Z HR3.out HI2.out HZY.out HY1.out ?_))
          refine bodyPost_ret (v := .agg Y) (results_cell_row rfl _ _ (w.heap.size + 1) 53 Y (0, 0) _ rfl HRS.out Tryd.underlying53 rfl HI2.out) rfl ?_
          exact ⟨_, by rw [HY.out], HS4.out, HB4.out⟩

end Go.Proofs.YtmlelmknbddkjaaDoor
