/-
  Steps through a region that draws its order, by hand: operation number i is taken first, is passed over by its guard, or comes up alone. Each finds the operation in the written-out list.
-/
import Derived.Test.YtcjakgpmompaiaaGreatDoorProg
import Derived.Deep.RegionHeld3
namespace Go.Proofs.YtcjakgpmompaiaaGreatDoor

section
variable {P : Program} {Q : Exit → Act → World → Prop} {md : Region.Mode} {S : World → Prop} {fuel : Nat} {listed : Array Bool} {a : Act} {w : World}
theorem takeN0 {o : Oper} {rest : List Oper} {v : Value} (hs : Region.noSelect (List.toArray (o :: rest)) = true) (hf : Region.free md (List.toArray (o :: rest)) listed 0 = true) (hr : (Region.ready md (List.toArray (o :: rest)) listed).contains 0 = true)
    (hQ : ∀ c a w, Q (.panic c) (a.put o.dst v) w → Q (.panic c) a w) (hw : Region.wanted o (yielded (List.toArray (o :: rest)) a.tmps) = true) (hv : ∀ w, S w → (execOp a.eval o).run P w = .ok (.value v) w) (hS : S w)
    (h : wpAnyH P md (List.toArray (o :: rest)) Q S fuel (listed.setIfInBounds 0 true) (a.put o.dst v) w) : wpAnyH P md (List.toArray (o :: rest)) Q S (fuel + 1) listed a w :=
  wpAnyH_take (oi := o) rfl hs hf hr hQ (Or.inl ⟨hw, hv⟩) hS h
theorem takeN1 {x0 o : Oper} {rest : List Oper} {v : Value} (hs : Region.noSelect (List.toArray (x0 :: o :: rest)) = true) (hf : Region.free md (List.toArray (x0 :: o :: rest)) listed 1 = true) (hr : (Region.ready md (List.toArray (x0 :: o :: rest)) listed).contains 1 = true)
    (hQ : ∀ c a w, Q (.panic c) (a.put o.dst v) w → Q (.panic c) a w) (hw : Region.wanted o (yielded (List.toArray (x0 :: o :: rest)) a.tmps) = true) (hv : ∀ w, S w → (execOp a.eval o).run P w = .ok (.value v) w) (hS : S w)
    (h : wpAnyH P md (List.toArray (x0 :: o :: rest)) Q S fuel (listed.setIfInBounds 1 true) (a.put o.dst v) w) : wpAnyH P md (List.toArray (x0 :: o :: rest)) Q S (fuel + 1) listed a w :=
  wpAnyH_take (oi := o) rfl hs hf hr hQ (Or.inl ⟨hw, hv⟩) hS h
theorem takeN2 {x0 x1 o : Oper} {rest : List Oper} {v : Value} (hs : Region.noSelect (List.toArray (x0 :: x1 :: o :: rest)) = true) (hf : Region.free md (List.toArray (x0 :: x1 :: o :: rest)) listed 2 = true) (hr : (Region.ready md (List.toArray (x0 :: x1 :: o :: rest)) listed).contains 2 = true)
    (hQ : ∀ c a w, Q (.panic c) (a.put o.dst v) w → Q (.panic c) a w) (hw : Region.wanted o (yielded (List.toArray (x0 :: x1 :: o :: rest)) a.tmps) = true) (hv : ∀ w, S w → (execOp a.eval o).run P w = .ok (.value v) w) (hS : S w)
    (h : wpAnyH P md (List.toArray (x0 :: x1 :: o :: rest)) Q S fuel (listed.setIfInBounds 2 true) (a.put o.dst v) w) : wpAnyH P md (List.toArray (x0 :: x1 :: o :: rest)) Q S (fuel + 1) listed a w :=
  wpAnyH_take (oi := o) rfl hs hf hr hQ (Or.inl ⟨hw, hv⟩) hS h
theorem takeN3 {x0 x1 x2 o : Oper} {rest : List Oper} {v : Value} (hs : Region.noSelect (List.toArray (x0 :: x1 :: x2 :: o :: rest)) = true) (hf : Region.free md (List.toArray (x0 :: x1 :: x2 :: o :: rest)) listed 3 = true) (hr : (Region.ready md (List.toArray (x0 :: x1 :: x2 :: o :: rest)) listed).contains 3 = true)
    (hQ : ∀ c a w, Q (.panic c) (a.put o.dst v) w → Q (.panic c) a w) (hw : Region.wanted o (yielded (List.toArray (x0 :: x1 :: x2 :: o :: rest)) a.tmps) = true) (hv : ∀ w, S w → (execOp a.eval o).run P w = .ok (.value v) w) (hS : S w)
    (h : wpAnyH P md (List.toArray (x0 :: x1 :: x2 :: o :: rest)) Q S fuel (listed.setIfInBounds 3 true) (a.put o.dst v) w) : wpAnyH P md (List.toArray (x0 :: x1 :: x2 :: o :: rest)) Q S (fuel + 1) listed a w :=
  wpAnyH_take (oi := o) rfl hs hf hr hQ (Or.inl ⟨hw, hv⟩) hS h
theorem comeN3 {x0 x1 x2 o : Oper} {rest : List Oper} (hr : Region.ready md (List.toArray (x0 :: x1 :: x2 :: o :: rest)) listed = [3]) (hw : Region.wanted o (yielded (List.toArray (x0 :: x1 :: x2 :: o :: rest)) a.tmps) = true)
    (h : ∀ K' : Act → World → Prop, Shut (∀ a w, S w → (S w → wpAnyH P md (List.toArray (x0 :: x1 :: x2 :: o :: rest)) Q S fuel (listed.setIfInBounds 3 true) a w) → K' a w) → Oper.wp P o a w K' Q) : wpAnyH P md (List.toArray (x0 :: x1 :: x2 :: o :: rest)) Q S (fuel + 1) listed a w :=
  wpAnyH_ready hr (by simp) (AllReadyH.cons (o := o) rfl (fun K hK => by rw [if_pos hw]; exact h K hK) AllReadyH.nil)
theorem takeN4 {x0 x1 x2 x3 o : Oper} {rest : List Oper} {v : Value} (hs : Region.noSelect (List.toArray (x0 :: x1 :: x2 :: x3 :: o :: rest)) = true) (hf : Region.free md (List.toArray (x0 :: x1 :: x2 :: x3 :: o :: rest)) listed 4 = true) (hr : (Region.ready md (List.toArray (x0 :: x1 :: x2 :: x3 :: o :: rest)) listed).contains 4 = true)
    (hQ : ∀ c a w, Q (.panic c) (a.put o.dst v) w → Q (.panic c) a w) (hw : Region.wanted o (yielded (List.toArray (x0 :: x1 :: x2 :: x3 :: o :: rest)) a.tmps) = true) (hv : ∀ w, S w → (execOp a.eval o).run P w = .ok (.value v) w) (hS : S w)
    (h : wpAnyH P md (List.toArray (x0 :: x1 :: x2 :: x3 :: o :: rest)) Q S fuel (listed.setIfInBounds 4 true) (a.put o.dst v) w) : wpAnyH P md (List.toArray (x0 :: x1 :: x2 :: x3 :: o :: rest)) Q S (fuel + 1) listed a w :=
  wpAnyH_take (oi := o) rfl hs hf hr hQ (Or.inl ⟨hw, hv⟩) hS h
theorem comeN4 {x0 x1 x2 x3 o : Oper} {rest : List Oper} (hr : Region.ready md (List.toArray (x0 :: x1 :: x2 :: x3 :: o :: rest)) listed = [4]) (hw : Region.wanted o (yielded (List.toArray (x0 :: x1 :: x2 :: x3 :: o :: rest)) a.tmps) = true)
    (h : ∀ K' : Act → World → Prop, Shut (∀ a w, S w → (S w → wpAnyH P md (List.toArray (x0 :: x1 :: x2 :: x3 :: o :: rest)) Q S fuel (listed.setIfInBounds 4 true) a w) → K' a w) → Oper.wp P o a w K' Q) : wpAnyH P md (List.toArray (x0 :: x1 :: x2 :: x3 :: o :: rest)) Q S (fuel + 1) listed a w :=
  wpAnyH_ready hr (by simp) (AllReadyH.cons (o := o) rfl (fun K hK => by rw [if_pos hw]; exact h K hK) AllReadyH.nil)
theorem takeN5 {x0 x1 x2 x3 x4 o : Oper} {rest : List Oper} {v : Value} (hs : Region.noSelect (List.toArray (x0 :: x1 :: x2 :: x3 :: x4 :: o :: rest)) = true) (hf : Region.free md (List.toArray (x0 :: x1 :: x2 :: x3 :: x4 :: o :: rest)) listed 5 = true) (hr : (Region.ready md (List.toArray (x0 :: x1 :: x2 :: x3 :: x4 :: o :: rest)) listed).contains 5 = true)
    (hQ : ∀ c a w, Q (.panic c) (a.put o.dst v) w → Q (.panic c) a w) (hw : Region.wanted o (yielded (List.toArray (x0 :: x1 :: x2 :: x3 :: x4 :: o :: rest)) a.tmps) = true) (hv : ∀ w, S w → (execOp a.eval o).run P w = .ok (.value v) w) (hS : S w)
    (h : wpAnyH P md (List.toArray (x0 :: x1 :: x2 :: x3 :: x4 :: o :: rest)) Q S fuel (listed.setIfInBounds 5 true) (a.put o.dst v) w) : wpAnyH P md (List.toArray (x0 :: x1 :: x2 :: x3 :: x4 :: o :: rest)) Q S (fuel + 1) listed a w :=
  wpAnyH_take (oi := o) rfl hs hf hr hQ (Or.inl ⟨hw, hv⟩) hS h
theorem comeN5 {x0 x1 x2 x3 x4 o : Oper} {rest : List Oper} (hr : Region.ready md (List.toArray (x0 :: x1 :: x2 :: x3 :: x4 :: o :: rest)) listed = [5]) (hw : Region.wanted o (yielded (List.toArray (x0 :: x1 :: x2 :: x3 :: x4 :: o :: rest)) a.tmps) = true)
    (h : ∀ K' : Act → World → Prop, Shut (∀ a w, S w → (S w → wpAnyH P md (List.toArray (x0 :: x1 :: x2 :: x3 :: x4 :: o :: rest)) Q S fuel (listed.setIfInBounds 5 true) a w) → K' a w) → Oper.wp P o a w K' Q) : wpAnyH P md (List.toArray (x0 :: x1 :: x2 :: x3 :: x4 :: o :: rest)) Q S (fuel + 1) listed a w :=
  wpAnyH_ready hr (by simp) (AllReadyH.cons (o := o) rfl (fun K hK => by rw [if_pos hw]; exact h K hK) AllReadyH.nil)
theorem takeN6 {x0 x1 x2 x3 x4 x5 o : Oper} {rest : List Oper} {v : Value} (hs : Region.noSelect (List.toArray (x0 :: x1 :: x2 :: x3 :: x4 :: x5 :: o :: rest)) = true) (hf : Region.free md (List.toArray (x0 :: x1 :: x2 :: x3 :: x4 :: x5 :: o :: rest)) listed 6 = true) (hr : (Region.ready md (List.toArray (x0 :: x1 :: x2 :: x3 :: x4 :: x5 :: o :: rest)) listed).contains 6 = true)
    (hQ : ∀ c a w, Q (.panic c) (a.put o.dst v) w → Q (.panic c) a w) (hw : Region.wanted o (yielded (List.toArray (x0 :: x1 :: x2 :: x3 :: x4 :: x5 :: o :: rest)) a.tmps) = true) (hv : ∀ w, S w → (execOp a.eval o).run P w = .ok (.value v) w) (hS : S w)
    (h : wpAnyH P md (List.toArray (x0 :: x1 :: x2 :: x3 :: x4 :: x5 :: o :: rest)) Q S fuel (listed.setIfInBounds 6 true) (a.put o.dst v) w) : wpAnyH P md (List.toArray (x0 :: x1 :: x2 :: x3 :: x4 :: x5 :: o :: rest)) Q S (fuel + 1) listed a w :=
  wpAnyH_take (oi := o) rfl hs hf hr hQ (Or.inl ⟨hw, hv⟩) hS h
theorem comeN6 {x0 x1 x2 x3 x4 x5 o : Oper} {rest : List Oper} (hr : Region.ready md (List.toArray (x0 :: x1 :: x2 :: x3 :: x4 :: x5 :: o :: rest)) listed = [6]) (hw : Region.wanted o (yielded (List.toArray (x0 :: x1 :: x2 :: x3 :: x4 :: x5 :: o :: rest)) a.tmps) = true)
    (h : ∀ K' : Act → World → Prop, Shut (∀ a w, S w → (S w → wpAnyH P md (List.toArray (x0 :: x1 :: x2 :: x3 :: x4 :: x5 :: o :: rest)) Q S fuel (listed.setIfInBounds 6 true) a w) → K' a w) → Oper.wp P o a w K' Q) : wpAnyH P md (List.toArray (x0 :: x1 :: x2 :: x3 :: x4 :: x5 :: o :: rest)) Q S (fuel + 1) listed a w :=
  wpAnyH_ready hr (by simp) (AllReadyH.cons (o := o) rfl (fun K hK => by rw [if_pos hw]; exact h K hK) AllReadyH.nil)
theorem takeN7 {x0 x1 x2 x3 x4 x5 x6 o : Oper} {rest : List Oper} {v : Value} (hs : Region.noSelect (List.toArray (x0 :: x1 :: x2 :: x3 :: x4 :: x5 :: x6 :: o :: rest)) = true) (hf : Region.free md (List.toArray (x0 :: x1 :: x2 :: x3 :: x4 :: x5 :: x6 :: o :: rest)) listed 7 = true) (hr : (Region.ready md (List.toArray (x0 :: x1 :: x2 :: x3 :: x4 :: x5 :: x6 :: o :: rest)) listed).contains 7 = true)
    (hQ : ∀ c a w, Q (.panic c) (a.put o.dst v) w → Q (.panic c) a w) (hw : Region.wanted o (yielded (List.toArray (x0 :: x1 :: x2 :: x3 :: x4 :: x5 :: x6 :: o :: rest)) a.tmps) = true) (hv : ∀ w, S w → (execOp a.eval o).run P w = .ok (.value v) w) (hS : S w)
    (h : wpAnyH P md (List.toArray (x0 :: x1 :: x2 :: x3 :: x4 :: x5 :: x6 :: o :: rest)) Q S fuel (listed.setIfInBounds 7 true) (a.put o.dst v) w) : wpAnyH P md (List.toArray (x0 :: x1 :: x2 :: x3 :: x4 :: x5 :: x6 :: o :: rest)) Q S (fuel + 1) listed a w :=
  wpAnyH_take (oi := o) rfl hs hf hr hQ (Or.inl ⟨hw, hv⟩) hS h
theorem comeN7 {x0 x1 x2 x3 x4 x5 x6 o : Oper} {rest : List Oper} (hr : Region.ready md (List.toArray (x0 :: x1 :: x2 :: x3 :: x4 :: x5 :: x6 :: o :: rest)) listed = [7]) (hw : Region.wanted o (yielded (List.toArray (x0 :: x1 :: x2 :: x3 :: x4 :: x5 :: x6 :: o :: rest)) a.tmps) = true)
    (h : ∀ K' : Act → World → Prop, Shut (∀ a w, S w → (S w → wpAnyH P md (List.toArray (x0 :: x1 :: x2 :: x3 :: x4 :: x5 :: x6 :: o :: rest)) Q S fuel (listed.setIfInBounds 7 true) a w) → K' a w) → Oper.wp P o a w K' Q) : wpAnyH P md (List.toArray (x0 :: x1 :: x2 :: x3 :: x4 :: x5 :: x6 :: o :: rest)) Q S (fuel + 1) listed a w :=
  wpAnyH_ready hr (by simp) (AllReadyH.cons (o := o) rfl (fun K hK => by rw [if_pos hw]; exact h K hK) AllReadyH.nil)
theorem comeN8 {x0 x1 x2 x3 x4 x5 x6 x7 o : Oper} {rest : List Oper} (hr : Region.ready md (List.toArray (x0 :: x1 :: x2 :: x3 :: x4 :: x5 :: x6 :: x7 :: o :: rest)) listed = [8]) (hw : Region.wanted o (yielded (List.toArray (x0 :: x1 :: x2 :: x3 :: x4 :: x5 :: x6 :: x7 :: o :: rest)) a.tmps) = true)
    (h : ∀ K' : Act → World → Prop, Shut (∀ a w, S w → (S w → wpAnyH P md (List.toArray (x0 :: x1 :: x2 :: x3 :: x4 :: x5 :: x6 :: x7 :: o :: rest)) Q S fuel (listed.setIfInBounds 8 true) a w) → K' a w) → Oper.wp P o a w K' Q) : wpAnyH P md (List.toArray (x0 :: x1 :: x2 :: x3 :: x4 :: x5 :: x6 :: x7 :: o :: rest)) Q S (fuel + 1) listed a w :=
  wpAnyH_ready hr (by simp) (AllReadyH.cons (o := o) rfl (fun K hK => by rw [if_pos hw]; exact h K hK) AllReadyH.nil)
theorem takeN9 {x0 x1 x2 x3 x4 x5 x6 x7 x8 o : Oper} {rest : List Oper} {v : Value} (hs : Region.noSelect (List.toArray (x0 :: x1 :: x2 :: x3 :: x4 :: x5 :: x6 :: x7 :: x8 :: o :: rest)) = true) (hf : Region.free md (List.toArray (x0 :: x1 :: x2 :: x3 :: x4 :: x5 :: x6 :: x7 :: x8 :: o :: rest)) listed 9 = true) (hr : (Region.ready md (List.toArray (x0 :: x1 :: x2 :: x3 :: x4 :: x5 :: x6 :: x7 :: x8 :: o :: rest)) listed).contains 9 = true)
    (hQ : ∀ c a w, Q (.panic c) (a.put o.dst v) w → Q (.panic c) a w) (hw : Region.wanted o (yielded (List.toArray (x0 :: x1 :: x2 :: x3 :: x4 :: x5 :: x6 :: x7 :: x8 :: o :: rest)) a.tmps) = true) (hv : ∀ w, S w → (execOp a.eval o).run P w = .ok (.value v) w) (hS : S w)
    (h : wpAnyH P md (List.toArray (x0 :: x1 :: x2 :: x3 :: x4 :: x5 :: x6 :: x7 :: x8 :: o :: rest)) Q S fuel (listed.setIfInBounds 9 true) (a.put o.dst v) w) : wpAnyH P md (List.toArray (x0 :: x1 :: x2 :: x3 :: x4 :: x5 :: x6 :: x7 :: x8 :: o :: rest)) Q S (fuel + 1) listed a w :=
  wpAnyH_take (oi := o) rfl hs hf hr hQ (Or.inl ⟨hw, hv⟩) hS h
theorem takeN10 {x0 x1 x2 x3 x4 x5 x6 x7 x8 x9 o : Oper} {rest : List Oper} {v : Value} (hs : Region.noSelect (List.toArray (x0 :: x1 :: x2 :: x3 :: x4 :: x5 :: x6 :: x7 :: x8 :: x9 :: o :: rest)) = true) (hf : Region.free md (List.toArray (x0 :: x1 :: x2 :: x3 :: x4 :: x5 :: x6 :: x7 :: x8 :: x9 :: o :: rest)) listed 10 = true) (hr : (Region.ready md (List.toArray (x0 :: x1 :: x2 :: x3 :: x4 :: x5 :: x6 :: x7 :: x8 :: x9 :: o :: rest)) listed).contains 10 = true)
    (hQ : ∀ c a w, Q (.panic c) (a.put o.dst v) w → Q (.panic c) a w) (hw : Region.wanted o (yielded (List.toArray (x0 :: x1 :: x2 :: x3 :: x4 :: x5 :: x6 :: x7 :: x8 :: x9 :: o :: rest)) a.tmps) = true) (hv : ∀ w, S w → (execOp a.eval o).run P w = .ok (.value v) w) (hS : S w)
    (h : wpAnyH P md (List.toArray (x0 :: x1 :: x2 :: x3 :: x4 :: x5 :: x6 :: x7 :: x8 :: x9 :: o :: rest)) Q S fuel (listed.setIfInBounds 10 true) (a.put o.dst v) w) : wpAnyH P md (List.toArray (x0 :: x1 :: x2 :: x3 :: x4 :: x5 :: x6 :: x7 :: x8 :: x9 :: o :: rest)) Q S (fuel + 1) listed a w :=
  wpAnyH_take (oi := o) rfl hs hf hr hQ (Or.inl ⟨hw, hv⟩) hS h
theorem comeN11 {x0 x1 x2 x3 x4 x5 x6 x7 x8 x9 x10 o : Oper} {rest : List Oper} (hr : Region.ready md (List.toArray (x0 :: x1 :: x2 :: x3 :: x4 :: x5 :: x6 :: x7 :: x8 :: x9 :: x10 :: o :: rest)) listed = [11]) (hw : Region.wanted o (yielded (List.toArray (x0 :: x1 :: x2 :: x3 :: x4 :: x5 :: x6 :: x7 :: x8 :: x9 :: x10 :: o :: rest)) a.tmps) = true)
    (h : ∀ K' : Act → World → Prop, Shut (∀ a w, S w → (S w → wpAnyH P md (List.toArray (x0 :: x1 :: x2 :: x3 :: x4 :: x5 :: x6 :: x7 :: x8 :: x9 :: x10 :: o :: rest)) Q S fuel (listed.setIfInBounds 11 true) a w) → K' a w) → Oper.wp P o a w K' Q) : wpAnyH P md (List.toArray (x0 :: x1 :: x2 :: x3 :: x4 :: x5 :: x6 :: x7 :: x8 :: x9 :: x10 :: o :: rest)) Q S (fuel + 1) listed a w :=
  wpAnyH_ready hr (by simp) (AllReadyH.cons (o := o) rfl (fun K hK => by rw [if_pos hw]; exact h K hK) AllReadyH.nil)
end

end Go.Proofs.YtcjakgpmompaiaaGreatDoor

/-
  Steps through a region that draws its order, by hand, for the operations 37 to 41.
-/
namespace Go.Proofs.YtcjakgpmompaiaaGreatDoor

section
variable {P : Program} {Q : Exit → Act → World → Prop} {md : Region.Mode} {S : World → Prop} {fuel : Nat} {listed : Array Bool} {a : Act} {w : World}
end

end Go.Proofs.YtcjakgpmompaiaaGreatDoor

