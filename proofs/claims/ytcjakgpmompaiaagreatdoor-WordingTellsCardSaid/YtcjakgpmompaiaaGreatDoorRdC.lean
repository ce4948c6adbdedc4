/-
  The program's reader: names, firms, cities, dates.
-/
import Derived.Test.YtcjakgpmompaiaaGreatDoorRdB
import Derived.Test.YtcjakgpmompaiaaGreatDoorProI
import Derived.Test.YtcjakgpmompaiaaGreatDoorHand
namespace Go.Proofs.YtcjakgpmompaiaaGreatDoor
open Go.RowKit Rl Wd

theorem name_end {s : B} {n : Int} (h : IxR s n) (hs : s.size ≤ 100000) : max 0 n ≤ (s.size : Int) ∧ Hid ((s.extract (max 0 n).toNat s.size).size ≤ 100000) ∧ Hid (NameR s.data.toList (s.extract 0 (max 0 n).toNat).data.toList (s.extract (max 0 n).toNat s.size).data.toList) := by
  obtain ⟨h1, h2, h3⟩ := h
  have hz : s.size = s.data.toList.length := size_list s
  refine ⟨by omega, ?_, ?_⟩
  · show _ ≤ _
    rw [size_list, ext_list, List.length_drop, List.length_take]
    omega
  · show NameR _ _ _
    rw [ext_list, ext_list, List.drop_zero, List.take_of_length_le (i := s.size) (by omega)]
    exact nameR_of fun ha => by rw [← h3 ha]; omega
set_option maxHeartbeats 3200000 in
set_option maxRecDepth 100000 in
theorem name_x {V : List Value} {g : Nat} {s : B} (w : World) (h : PB w g V s) :
    Calls Tryz.prog 88 #[.pointer (some ⟨g, 0, none⟩)] w fun r w' => ∃ n t : B, r = .returned (.string n) ∧ NameR s.data.toList n.data.toList t.data.toList ∧ PB w' g V t ∧ Below g w w' := by
  have H := Lib.hid h
  have hc := h.cell
  have hs := h.2.1
  clear h
  go_enter Tryz.func88, Tryz.ntmps88
  go_wp2_with fail
  refine (idxAny_x s w hs).mono ?_
  rintro r w1 ⟨n, rfl, hi, hb⟩
  obtain ⟨hk2, HS, HN⟩ := name_end hi hs
  have hk0 : (0 : Int) ≤ max 0 n := by omega
  have HB : Hid (Below w.heap.size w w1) := hb
  have H1 := Lib.hid (H.out.next hb)
  have hc1 := H1.out.cell
  have hf1 := H1.out.free 8
  clear hi hb hc
  go_wp2
  go_ret
  exact ⟨_, _, rfl, HN.out, H1.out.set _ HS.out, (HB.out.mono (Nat.le_of_lt H.out.lt)).setCell (p := ⟨g, 8, none⟩) (Nat.le_refl _) _⟩


set_option maxHeartbeats 3200000 in
set_option maxRecDepth 100000 in
theorem rdFirm_x {a0 a1 a2 a3 a4 a5 a6 a7 : Option Addr} {c0 c1 c2 c3 c4 c5 c6 c7 : Nat} {R : Rlm} {W : World} {g : Nat} {s : B} (w : World) (h : PB w g [Value.slice a0 R.cur.length c0, Value.slice a1 R.cities.length c1, Value.slice a2 R.groups.length c2, Value.slice a3 R.firms.length c3, Value.slice a4 R.orders.length c4, Value.slice a5 R.usances.length c5, Value.slice a6 R.rates.length c6, Value.slice a7 R.halts.length c7] s) (hr : RS W a0 a1 a2 a3 a4 a5 a6 a7 c0 c1 c2 c3 c4 c5 c6 c7 R) (hF : Fit R) (hW : Below W.heap.size W w) (hg : W.heap.size ≤ g) :
    Calls Tryz.prog 58 #[.pointer (some ⟨g, 0, none⟩)] w fun r w' => ∃ (v : Int) (t : B), r = .returned (.int .i64 v) ∧ FirmR R s.data.toList v t.data.toList ∧ PB w' g [Value.slice a0 R.cur.length c0, Value.slice a1 R.cities.length c1, Value.slice a2 R.groups.length c2, Value.slice a3 R.firms.length c3, Value.slice a4 R.orders.length c4, Value.slice a5 R.usances.length c5, Value.slice a6 R.rates.length c6, Value.slice a7 R.halts.length c7] t ∧ Below g w w' := by
  have H := Lib.hid h
  have HR := Lib.hid hr
  have HF := Lib.hid hF
  have HW := Lib.hid hW
  have HG := Lib.hid hg
  clear h hr hF hW hg
  go_enter Tryz.func58, Tryz.ntmps58
  go_wp2_with fail
  refine wp_region_held_drew (S := fun wz => wz.cell? ⟨g, 0, none⟩ = some (.slice a0 R.cur.length c0) ∧ wz.cell? ⟨g, 1, none⟩ = some (.slice a1 R.cities.length c1) ∧ wz.cell? ⟨g, 2, none⟩ = some (.slice a2 R.groups.length c2) ∧ wz.cell? ⟨g, 3, none⟩ = some (.slice a3 R.firms.length c3) ∧ wz.cell? ⟨g, 4, none⟩ = some (.slice a4 R.orders.length c4) ∧ wz.cell? ⟨g, 5, none⟩ = some (.slice a5 R.usances.length c5) ∧ wz.cell? ⟨g, 6, none⟩ = some (.slice a6 R.rates.length c6) ∧ wz.cell? ⟨g, 7, none⟩ = some (.slice a7 R.halts.length c7)) (by kernel_rfl) ?_ (fun hHeld => ?_)
  · exact ⟨H.out.at (i := 0) rfl, H.out.at (i := 1) rfl, H.out.at (i := 2) rfl, H.out.at (i := 3) rfl, H.out.at (i := 4) rfl, H.out.at (i := 5) rfl, H.out.at (i := 6) rfl, H.out.at (i := 7) rfl⟩
  refine takeN0 (v := ?_) (by kernel_rfl) (by kernel_rfl) (by kernel_rfl) (fun _ _ _ h => h) (by rfl) ?_ (by assumption) ?_
  rotate_left
  · intro wz hSw
    try dsimp only at hSw
    go_simp
    try with_reducible rfl
  try simp only [Act.put, List.setIfInBounds_toArray, List.set_cons_zero, List.set_cons_succ]
  refine takeN1 (v := ?_) (by kernel_rfl) (by kernel_rfl) (by kernel_rfl) (fun _ _ _ h => h) (by rfl) ?_ (by assumption) ?_
  rotate_left
  · intro wz hSw
    try dsimp only at hSw
    go_simp
    try with_reducible rfl
  try simp only [Act.put, List.setIfInBounds_toArray, List.set_cons_zero, List.set_cons_succ]
  refine takeN2 (v := ?_) (by kernel_rfl) (by kernel_rfl) (by kernel_rfl) (fun _ _ _ h => h) (by rfl) ?_ (by assumption) ?_
  rotate_left
  · intro wz hSw
    try dsimp only at hSw
    go_simp
    try with_reducible rfl
  try simp only [Act.put, List.setIfInBounds_toArray, List.set_cons_zero, List.set_cons_succ]
  refine takeN3 (v := ?_) (by kernel_rfl) (by kernel_rfl) (by kernel_rfl) (fun _ _ _ h => h) (by rfl) ?_ (by assumption) ?_
  rotate_left
  · intro wz hSw
    try dsimp only at hSw
    go_simp
    try with_reducible rfl
  try simp only [Act.put, List.setIfInBounds_toArray, List.set_cons_zero, List.set_cons_succ]
  refine takeN4 (v := ?_) (by kernel_rfl) (by kernel_rfl) (by kernel_rfl) (fun _ _ _ h => h) (by rfl) ?_ (by assumption) ?_
  rotate_left
  · intro wz hSw
    try dsimp only at hSw
    go_simp
    try with_reducible rfl
  try simp only [Act.put, List.setIfInBounds_toArray, List.set_cons_zero, List.set_cons_succ]
  refine comeN5 (by kernel_rfl) (by rfl) (fun K hK => ?_)
  go_simp
  (go_at_call 88; refine (name_x w.drew ((H.out : PB w.drew g _ s))).mono ?_; rintro r w1 ⟨n, t, rfl, hn, h1, hb⟩)
  try go_wp2_with fail
  have H1 := Lib.hid h1
  have HN := Lib.hid hn
  have B1 : Hid (Below g w w1) := (Below.drew (Below.refl g w)).trans hb
  clear h1 hn hb
  refine hK.out _ _ ?_ (fun hHeld => ?_)
  · exact ⟨H1.out.at (i := 0) rfl, H1.out.at (i := 1) rfl, H1.out.at (i := 2) rfl, H1.out.at (i := 3) rfl, H1.out.at (i := 4) rfl, H1.out.at (i := 5) rfl, H1.out.at (i := 6) rfl, H1.out.at (i := 7) rfl⟩
  clear hK K
  try simp only [Act.put, List.setIfInBounds_toArray, List.set_cons_zero, List.set_cons_succ]
  refine comeN6 (by kernel_rfl) (by rfl) (fun K hK => ?_)
  go_simp
  (go_at_call 91; refine (Firm_x n _ (HR.out.next (HW.out.trans (B1.out.mono HG.out))) HF.out).mono ?_; rintro r w2 ⟨rfl, hb⟩)
  try go_wp2_with fail
  have H2 := Lib.hid (H1.out.next hb)
  have B2 : Hid (Below g w w2) := B1.out.trans (hb.mono (Nat.le_of_lt H1.out.lt))
  clear hb
  refine hK.out _ _ ?_ (fun hHeld => ?_)
  · exact ⟨H2.out.at (i := 0) rfl, H2.out.at (i := 1) rfl, H2.out.at (i := 2) rfl, H2.out.at (i := 3) rfl, H2.out.at (i := 4) rfl, H2.out.at (i := 5) rfl, H2.out.at (i := 6) rfl, H2.out.at (i := 7) rfl⟩
  clear hK K
  try simp only [Act.put, List.setIfInBounds_toArray, List.set_cons_zero, List.set_cons_succ]
  refine takeN7 (v := ?_) (by kernel_rfl) (by kernel_rfl) (by kernel_rfl) (fun _ _ _ h => h) (by rfl) ?_ (by assumption) ?_
  rotate_left
  · intro wz hSw
    try dsimp only at hSw
    go_simp
    try with_reducible rfl
  try simp only [Act.put, List.setIfInBounds_toArray, List.set_cons_zero, List.set_cons_succ]
  refine wpAnyH_done (by kernel_rfl) ?_ _
  clear hHeld
  go_wp2
  go_ret
  exact ⟨findV (R.firms.map Frm.nm) n, t, rfl, NameR.firm (nm := n.data.toList) HN.out, H2.out, B2.out⟩


set_option maxHeartbeats 3200000 in
set_option maxRecDepth 100000 in
theorem rdCity_x {a0 a1 a2 a3 a4 a5 a6 a7 : Option Addr} {c0 c1 c2 c3 c4 c5 c6 c7 : Nat} {R : Rlm} {W : World} {g : Nat} {s : B} (w : World) (h : PB w g [Value.slice a0 R.cur.length c0, Value.slice a1 R.cities.length c1, Value.slice a2 R.groups.length c2, Value.slice a3 R.firms.length c3, Value.slice a4 R.orders.length c4, Value.slice a5 R.usances.length c5, Value.slice a6 R.rates.length c6, Value.slice a7 R.halts.length c7] s) (hr : RS W a0 a1 a2 a3 a4 a5 a6 a7 c0 c1 c2 c3 c4 c5 c6 c7 R) (hF : Fit R) (hW : Below W.heap.size W w) (hg : W.heap.size ≤ g) :
    Calls Tryz.prog 53 #[.pointer (some ⟨g, 0, none⟩)] w fun r w' => ∃ (v : Int) (t : B), r = .returned (.int .i64 v) ∧ CityR R s.data.toList v t.data.toList ∧ PB w' g [Value.slice a0 R.cur.length c0, Value.slice a1 R.cities.length c1, Value.slice a2 R.groups.length c2, Value.slice a3 R.firms.length c3, Value.slice a4 R.orders.length c4, Value.slice a5 R.usances.length c5, Value.slice a6 R.rates.length c6, Value.slice a7 R.halts.length c7] t ∧ Below g w w' := by
  have H := Lib.hid h
  have HR := Lib.hid hr
  have HF := Lib.hid hF
  have HW := Lib.hid hW
  have HG := Lib.hid hg
  clear h hr hF hW hg
  go_enter Tryz.func53, Tryz.ntmps53
  go_wp2_with fail
  refine wp_region_held_drew (S := fun wz => wz.cell? ⟨g, 0, none⟩ = some (.slice a0 R.cur.length c0) ∧ wz.cell? ⟨g, 1, none⟩ = some (.slice a1 R.cities.length c1) ∧ wz.cell? ⟨g, 2, none⟩ = some (.slice a2 R.groups.length c2) ∧ wz.cell? ⟨g, 3, none⟩ = some (.slice a3 R.firms.length c3) ∧ wz.cell? ⟨g, 4, none⟩ = some (.slice a4 R.orders.length c4) ∧ wz.cell? ⟨g, 5, none⟩ = some (.slice a5 R.usances.length c5) ∧ wz.cell? ⟨g, 6, none⟩ = some (.slice a6 R.rates.length c6) ∧ wz.cell? ⟨g, 7, none⟩ = some (.slice a7 R.halts.length c7)) (by kernel_rfl) ?_ (fun hHeld => ?_)
  · exact ⟨H.out.at (i := 0) rfl, H.out.at (i := 1) rfl, H.out.at (i := 2) rfl, H.out.at (i := 3) rfl, H.out.at (i := 4) rfl, H.out.at (i := 5) rfl, H.out.at (i := 6) rfl, H.out.at (i := 7) rfl⟩
  refine takeN0 (v := ?_) (by kernel_rfl) (by kernel_rfl) (by kernel_rfl) (fun _ _ _ h => h) (by rfl) ?_ (by assumption) ?_
  rotate_left
  · intro wz hSw
    try dsimp only at hSw
    go_simp
    try with_reducible rfl
  try simp only [Act.put, List.setIfInBounds_toArray, List.set_cons_zero, List.set_cons_succ]
  refine takeN1 (v := ?_) (by kernel_rfl) (by kernel_rfl) (by kernel_rfl) (fun _ _ _ h => h) (by rfl) ?_ (by assumption) ?_
  rotate_left
  · intro wz hSw
    try dsimp only at hSw
    go_simp
    try with_reducible rfl
  try simp only [Act.put, List.setIfInBounds_toArray, List.set_cons_zero, List.set_cons_succ]
  refine takeN2 (v := ?_) (by kernel_rfl) (by kernel_rfl) (by kernel_rfl) (fun _ _ _ h => h) (by rfl) ?_ (by assumption) ?_
  rotate_left
  · intro wz hSw
    try dsimp only at hSw
    go_simp
    try with_reducible rfl
  try simp only [Act.put, List.setIfInBounds_toArray, List.set_cons_zero, List.set_cons_succ]
  refine takeN3 (v := ?_) (by kernel_rfl) (by kernel_rfl) (by kernel_rfl) (fun _ _ _ h => h) (by rfl) ?_ (by assumption) ?_
  rotate_left
  · intro wz hSw
    try dsimp only at hSw
    go_simp
    try with_reducible rfl
  try simp only [Act.put, List.setIfInBounds_toArray, List.set_cons_zero, List.set_cons_succ]
  refine takeN4 (v := ?_) (by kernel_rfl) (by kernel_rfl) (by kernel_rfl) (fun _ _ _ h => h) (by rfl) ?_ (by assumption) ?_
  rotate_left
  · intro wz hSw
    try dsimp only at hSw
    go_simp
    try with_reducible rfl
  try simp only [Act.put, List.setIfInBounds_toArray, List.set_cons_zero, List.set_cons_succ]
  refine comeN5 (by kernel_rfl) (by rfl) (fun K hK => ?_)
  go_simp
  (go_at_call 88; refine (name_x w.drew ((H.out : PB w.drew g _ s))).mono ?_; rintro r w1 ⟨n, t, rfl, hn, h1, hb⟩)
  try go_wp2_with fail
  have H1 := Lib.hid h1
  have HN := Lib.hid hn
  have B1 : Hid (Below g w w1) := (Below.drew (Below.refl g w)).trans hb
  clear h1 hn hb
  refine hK.out _ _ ?_ (fun hHeld => ?_)
  · exact ⟨H1.out.at (i := 0) rfl, H1.out.at (i := 1) rfl, H1.out.at (i := 2) rfl, H1.out.at (i := 3) rfl, H1.out.at (i := 4) rfl, H1.out.at (i := 5) rfl, H1.out.at (i := 6) rfl, H1.out.at (i := 7) rfl⟩
  clear hK K
  try simp only [Act.put, List.setIfInBounds_toArray, List.set_cons_zero, List.set_cons_succ]
  refine comeN6 (by kernel_rfl) (by rfl) (fun K hK => ?_)
  go_simp
  (go_at_call 87; refine (City_x n _ (HR.out.next (HW.out.trans (B1.out.mono HG.out))) HF.out).mono ?_; rintro r w2 ⟨rfl, hb⟩)
  try go_wp2_with fail
  have H2 := Lib.hid (H1.out.next hb)
  have B2 : Hid (Below g w w2) := B1.out.trans (hb.mono (Nat.le_of_lt H1.out.lt))
  clear hb
  refine hK.out _ _ ?_ (fun hHeld => ?_)
  · exact ⟨H2.out.at (i := 0) rfl, H2.out.at (i := 1) rfl, H2.out.at (i := 2) rfl, H2.out.at (i := 3) rfl, H2.out.at (i := 4) rfl, H2.out.at (i := 5) rfl, H2.out.at (i := 6) rfl, H2.out.at (i := 7) rfl⟩
  clear hK K
  try simp only [Act.put, List.setIfInBounds_toArray, List.set_cons_zero, List.set_cons_succ]
  refine takeN7 (v := ?_) (by kernel_rfl) (by kernel_rfl) (by kernel_rfl) (fun _ _ _ h => h) (by rfl) ?_ (by assumption) ?_
  rotate_left
  · intro wz hSw
    try dsimp only at hSw
    go_simp
    try with_reducible rfl
  try simp only [Act.put, List.setIfInBounds_toArray, List.set_cons_zero, List.set_cons_succ]
  refine wpAnyH_done (by kernel_rfl) ?_ _
  clear hHeld
  go_wp2
  go_ret
  exact ⟨findV (R.cities.map Cty.nm) n, t, rfl, NameR.city (nm := n.data.toList) HN.out, H2.out, B2.out⟩


set_option maxHeartbeats 3200000 in
set_option maxRecDepth 100000 in
theorem rdDate_x {V : List Value} {g : Nat} {s : B} (w : World) (h : PB w g V s) (hE : Ev w) (hL : ∀ w', Onl g w w' → Ev w') :
    Calls Tryz.prog 54 #[.pointer (some ⟨g, 0, none⟩)] w fun r w' => ∃ (v : Int) (t : B), r = .returned (.int .i64 v) ∧ DateR s.data.toList v t.data.toList ∧ PB w' g V t ∧ Onl g w w' := by
  have HE := Lib.hid hE
  have HL := Lib.hid hL
  have H := Lib.hid h
  clear hE hL h
  go_enter Tryz.func54, Tryz.ntmps54
  go_wp2_with fail
  refine (number_x w H.out HE.out).mono ?_
  rintro r w1 ⟨v1, t1, rfl, p1, q1, n1, h1, b1⟩
  have H1 := Lib.hid h1
  have N1 := Lib.hid n1
  have B1 := Lib.hid b1
  clear h1 n1 b1
  go_wp2_with fail
  refine (take_x _ w1 H1.out).mono ?_
  rintro r w2 ⟨rfl, h2, b2⟩
  have H2 := Lib.hid h2
  have B2 := Lib.hid (B1.out.trans b2)
  clear h2 b2
  go_wp2_with fail
  refine (number_x w2 H2.out (HL.out _ B2.out)).mono ?_
  rintro r w3 ⟨v2, t3, rfl, p2, q2, n2, h3, b3⟩
  have H3 := Lib.hid h3
  have N2 := Lib.hid n2
  have B3 := Lib.hid (B2.out.trans b3)
  clear h3 n2 b3
  go_wp2_with fail
  refine (take_x _ w3 H3.out).mono ?_
  rintro r w4 ⟨rfl, h4, b4⟩
  have H4 := Lib.hid h4
  have B4 := Lib.hid (B3.out.trans b4)
  clear h4 b4
  go_wp2_with fail
  refine (number_x w4 H4.out (HL.out _ B4.out)).mono ?_
  rintro r w5 ⟨v3, t5, rfl, p3, q3, n3, h5, b5⟩
  have H5 := Lib.hid h5
  have N3 := Lib.hid n3
  have B5 := Lib.hid (B4.out.trans b5)
  clear h5 n3 b5
  go_wp2_with fail
  refine (Ca.dayP_x v1 v2 v3 w5 (HL.out _ B5.out).bf ⟨by omega, by omega⟩).mono ?_
  rintro r w6 ⟨rfl, b6⟩
  have H6 := Lib.hid (H5.out.next b6)
  have B6 : Hid (Onl g w w6) := B5.out.trans (Onl.of b6)
  clear b6
  go_wp2
  go_ret
  exact ⟨_, t5, rfl, dateR_of N1.out N2.out N3.out, H6.out, B6.out⟩

end Go.Proofs.YtcjakgpmompaiaaGreatDoor
