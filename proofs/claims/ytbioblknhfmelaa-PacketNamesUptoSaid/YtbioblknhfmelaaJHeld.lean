/- Held (merged). -/
import Derived.Test.YtbioblknhfmelaaJMem
namespace Go.Proofs.Ytbioblknhfmelaa
set_option linter.unusedVariables false
set_option linter.unusedSimpArgs false
open Go.RowKit
section
variable {P : Program} {md : Region.Mode} {ops : Array Oper} {Q : Exit → Act → World → Prop} {S : World → Prop} {lates : List Nat}
/-- no late operation has come up yet -/
def quietL (lates : List Nat) (listed : Array Bool) : Bool := lates.all fun j => !(listed.getD j true)
theorem quiet_set {listed : Array Bool} {i : Nat} (h : lates.contains i = false) : quietL lates (listed.setIfInBounds i true) = quietL lates listed := by
  unfold quietL
  rw [Bool.eq_iff_iff, List.all_eq_true, List.all_eq_true]
  have hne : ∀ j ∈ lates, i ≠ j := fun j hj e => by subst e; rw [List.contains_iff_mem.2 hj] at h; cases h
  constructor
  · intro h1 j hj
    have := h1 j hj
    rwa [getD_set_ne true (hne j hj)] at this
  · intro h1 j hj
    rw [getD_set_ne true (hne j hj)]
    exact h1 j hj
/-- whatever order is picked from here on, and S holds behind every operation that is carried out ahead of the late ones -/
def wpAnyL (P : Program) (md : Region.Mode) (ops : Array Oper) (Q : Exit → Act → World → Prop) (S : World → Prop) (lates : List Nat) : Nat → Array Bool → Act → World → Prop
  | 0, listed, a, w => Region.ready md ops listed = [] ∧ Q .normal a w
  | fuel + 1, listed, a, w =>
    (Region.ready md ops listed = [] → Q .normal a w) ∧
    ∀ i ∈ Region.ready md ops listed, wpOp P ops Q i (fun a' w' => (quietL lates (listed.setIfInBounds i true) = true → S w') ∧ wpAnyL P md ops Q S lates fuel (listed.setIfInBounds i true) a' w') a w
theorem wpAny_of_late : ∀ (fuel : Nat) (listed : Array Bool) (a : Act) (w : World), wpAnyL P md ops Q S lates fuel listed a w → wpAny P md ops Q fuel listed a w
  | 0, _, _, _, h => h
  | fuel + 1, _, _, _, h => ⟨h.1, fun i hi => wpOp_mono (fun a' w' h' => wpAny_of_late fuel _ a' w' h'.2) (h.2 i hi)⟩
/-- an operation that leaves its value in every world that meets S', taken first; D says of whom else may come up meanwhile that S' holds behind it -/
theorem wpAnyL_first {S' : World → Prop} {D : Array Bool → Prop} {i : Nat} {oi : Oper} {v : Value} (hi : ops[i]? = some oi) (hsel : ∀ (j : Nat) (o : Oper) cs b, ops[j]? = some o → o.op ≠ .select cs b)
    (hQ : ∀ c a w, Q (.panic c) (a.put oi.dst v) w → Q (.panic c) a w) (hil : lates.contains i = false)
    (hD : ∀ (listed : Array Bool) j oj (w' : World), D listed → ops[j]? = some oj → j ≠ i → (∀ e ∈ oj.after, Region.binds md e = true → e.on ≠ i) → (quietL lates (listed.setIfInBounds j true) = true → S w') → S' w' ∧ D (listed.setIfInBounds j true)) :
    ∀ (fuel : Nat) (listed : Array Bool) (a : Act) (w : World),
      (∀ j oj, ops[j]? = some oj → j ≠ i → listed.getD j true = false → (∀ e ∈ oj.after, Region.binds md e = true → e.on ≠ i) → oi.apart ops oj = true) →
      i ∈ Region.ready md ops listed → YieldsIf P ops S' oi v a → S' w → D listed → (quietL lates listed = true → S w) →
      wpAnyL P md ops Q S lates fuel (listed.setIfInBounds i true) (a.put oi.dst v) w → wpAnyL P md ops Q S lates (fuel + 1) listed a w := by
  intro fuel
  induction fuel with
  | zero =>
    intro listed a w _ hr hy hS' hd hS H
    refine ⟨fun h => (by rw [h] at hr; cases hr), fun j hj => ?_⟩
    by_cases hji : j = i
    · subst hji; exact hy.wpOp hi hS' ⟨fun hq => hS (by rw [quiet_set hil] at hq; exact hq), H⟩
    · have := ready_mono hj hji
      rw [H.1] at this
      cases this
  | succ fuel ih =>
    intro listed a w hfree hr hy hS' hd hS H
    refine ⟨fun h => (by rw [h] at hr; cases hr), fun j hj => ?_⟩
    by_cases hji : j = i
    · subst hji; exact hy.wpOp hi hS' ⟨fun hq => hS (by rw [quiet_set hil] at hq; exact hq), H⟩
    · have h1 := H.2 j (ready_mono hj hji)
      obtain ⟨hjun, oj, hoj, hall⟩ := mem_ready.1 hj
      have hnot : ∀ e ∈ oj.after, Region.binds md e = true → e.on ≠ i := fun e he hb heq => by
        have h1 := hall e he hb
        have h0 := (mem_ready.1 hr).1
        rw [heq] at h1
        rcases Nat.lt_or_ge i listed.size with h' | h'
        · simp [h'] at h0 h1; rw [h0] at h1; cases h1
        · simp [Array.getElem?_eq_none h'] at h1
      have h2 := wpOp_putIf hoj (hfree j oj hoj hji hjun hnot) (fun cs b => hsel i oi cs b hi) (fun cs b => hsel j oj cs b hoj) hQ hy h1
      have hfree' : ∀ k ok, ops[k]? = some ok → k ≠ i → (listed.setIfInBounds j true).getD k true = false →
          (∀ e ∈ ok.after, Region.binds md e = true → e.on ≠ i) → oi.apart ops ok = true := fun k ok hk hki hun hno => by
        refine hfree k ok hk hki ?_ hno
        by_cases hjk : j = k
        · subst hjk; exact hjun
        · rw [getD_set_ne true hjk] at hun; exact hun
      have hcomm : (listed.setIfInBounds i true).setIfInBounds j true = (listed.setIfInBounds j true).setIfInBounds i true := (Array.setIfInBounds_comm _ _ (Ne.symm hji))
      refine wpOp_mono (fun a' w' h3 => ?_) h2
      have h4 : quietL lates (listed.setIfInBounds j true) = true → S w' := fun hq => h3.2.1 (by rw [hcomm, quiet_set hil]; exact hq)
      obtain ⟨h5, h6⟩ := hD listed j oj w' hd hoj hji hnot h4
      refine ⟨h4, ih (listed.setIfInBounds j true) a' w' hfree' (ready_mono hr (Ne.symm hji)) h3.1 h5 h6 h4 ?_⟩
      rw [← hcomm]
      exact h3.2.2
/-- every late operation waits for operation i -/
def wait (md : Region.Mode) (ops : Array Oper) (lates : List Nat) (i : Nat) : Bool := lates.all fun j => match ops[j]? with
  | some o => o.after.toList.any fun e => Region.binds md e && e.on == i
  | none => true
theorem wait_spec {i : Nat} (h : wait md ops lates i = true) : ∀ j oj, ops[j]? = some oj → lates.contains j = true → ∃ e ∈ oj.after, Region.binds md e = true ∧ e.on = i := fun j oj hj hc => by
  unfold wait at h
  rw [List.all_eq_true] at h
  have h1 := h j (by simpa using hc)
  rw [hj] at h1
  obtain ⟨e, he, h2⟩ := List.any_eq_true.1 h1
  simp only [Bool.and_eq_true, beq_iff_eq] at h2
  exact ⟨e, by simpa using he, h2.1, h2.2⟩
/-- operation i, which leaves its value in slot d in every world that meets S, is taken now -/
theorem tl (i d : Nat) {op : Op} {ty : TypeId} {pos : String} {af : Array Edge} {g : Option (Nat × Bool)} {v : Value} {fuel : Nat} {listed : Array Bool} {a a' : Act} {w : World}
    (hi : ops[i]? = some ⟨some d, op, ty, pos, af, g⟩) (hS : S w) (h : wpAnyL P md ops Q S lates fuel (listed.setIfInBounds i true) a' w)
    (hc : (Region.noSelect ops && Region.free md ops listed i && (Region.ready md ops listed).contains i && (wait md ops lates i && quietL lates listed && !lates.contains i)) = true := by kernel_rfl)
    (hw : Region.wanted ⟨some d, op, ty, pos, af, g⟩ (yielded ops a.tmps) = true := by rfl)
    (hv : ∀ w', S w' → (execOp a.eval ⟨some d, op, ty, pos, af, g⟩).run P w' = .ok (.value v) w' := by (intro w' hSw; (try dsimp only at hSw); go_simp; all_goals (with_reducible rfl)))
    (ha : a.put (some d) v = a' := by (try simp only [Act.put, sA, sB, sC]); exact rfl)
    (hQ : ∀ c a w, Q (.panic c) (a.put (some d) v) w → Q (.panic c) a w := by exact fun _ _ _ h => h) : wpAnyL P md ops Q S lates (fuel + 1) listed a w := by
  simp only [Bool.and_eq_true, Bool.not_eq_true'] at hc
  subst ha
  refine wpAnyL_first (S' := S) (D := fun l => quietL lates l = true) hi (Region.noSelect_spec hc.1.1.1) hQ hc.2.2 (fun listed' j oj w' hd hj hji hno hs => ?_) fuel listed a w (Region.free_spec hi hc.1.1.2) (by simpa using hc.1.2) (Or.inl ⟨hw, hv⟩) hS hc.2.1.2 (fun _ => hS) h
  have hjl : lates.contains j = false := by
    cases hcj : lates.contains j
    · rfl
    · obtain ⟨e, he, hb, hon⟩ := wait_spec hc.2.1.1 j oj hj hcj
      exact absurd hon (hno e he hb)
  have hq : quietL lates (listed'.setIfInBounds j true) = true := by rw [quiet_set hjl]; exact hd
  exact ⟨hs hq, hq⟩
/-- operation i, which leaves its value in slot d in whatever world, is taken now -/
theorem tw (i d : Nat) {op : Op} {ty : TypeId} {pos : String} {af : Array Edge} {g : Option (Nat × Bool)} {v : Value} {fuel : Nat} {listed : Array Bool} {a a' : Act} {w : World}
    (hi : ops[i]? = some ⟨some d, op, ty, pos, af, g⟩) (hS : quietL lates listed = true → S w) (h : wpAnyL P md ops Q S lates fuel (listed.setIfInBounds i true) a' w)
    (hc : (Region.noSelect ops && Region.free md ops listed i && (Region.ready md ops listed).contains i && !lates.contains i) = true := by kernel_rfl)
    (hw : Region.wanted ⟨some d, op, ty, pos, af, g⟩ (yielded ops a.tmps) = true := by rfl)
    (hv : ∀ w', True → (execOp a.eval ⟨some d, op, ty, pos, af, g⟩).run P w' = .ok (.value v) w' := by (intro w' hSw; go_simp; all_goals (with_reducible rfl)))
    (ha : a.put (some d) v = a' := by (try simp only [Act.put, sA, sB, sC]); exact rfl)
    (hQ : ∀ c a w, Q (.panic c) (a.put (some d) v) w → Q (.panic c) a w := by exact fun _ _ _ h => h) : wpAnyL P md ops Q S lates (fuel + 1) listed a w := by
  simp only [Bool.and_eq_true, Bool.not_eq_true'] at hc
  subst ha
  exact wpAnyL_first (S' := fun _ => True) (D := fun _ => True) hi (Region.noSelect_spec hc.1.1.1) hQ hc.2 (fun _ _ _ _ _ _ _ _ _ => ⟨trivial, trivial⟩) fuel listed a w (Region.free_spec hi hc.1.1.2) (by simpa using hc.1.2) (Or.inl ⟨hw, hv⟩) trivial trivial hS h
def AllReadyL (P : Program) (md : Region.Mode) (ops : Array Oper) (Q : Exit → Act → World → Prop) (S : World → Prop) (lates : List Nat) (fuel : Nat) (listed : Array Bool) (a : Act) (w : World) (rs : List Nat) : Prop :=
  ∀ i ∈ rs, wpOp P ops Q i (fun a' w' => (quietL lates (listed.setIfInBounds i true) = true → S w') ∧ wpAnyL P md ops Q S lates fuel (listed.setIfInBounds i true) a' w') a w
theorem AllReadyL.nil {fuel : Nat} {listed : Array Bool} {a : Act} {w : World} : AllReadyL P md ops Q S lates fuel listed a w [] := fun _ h => by cases h
theorem AllReadyL.cons {fuel : Nat} {listed : Array Bool} {a : Act} {w : World} {i : Nat} {o : Oper} {rs : List Nat} (ho : ops[i]? = some o)
    (h : ∀ K' : Act → World → Prop, Shut (∀ a w, S w → (S w → wpAnyL P md ops Q S lates fuel (listed.setIfInBounds i true) a w) → K' a w) → if Region.wanted o (yielded ops a.tmps) = true then Oper.wp P o a w K' Q else K' (a.put o.dst undef) w)
    (hs : AllReadyL P md ops Q S lates fuel listed a w rs) : AllReadyL P md ops Q S lates fuel listed a w (i :: rs) := fun j hj => by
  rcases List.mem_cons.1 hj with rfl | hj
  · exact wpOp_step ho (fun K' hK => h K' (fun a w hS hW => hK a w ⟨fun _ => hS, hW hS⟩))
  · exact hs j hj
/-- a late one, or one behind a late one: nothing is asked behind it -/
theorem AllReadyL.late {fuel : Nat} {listed : Array Bool} {a : Act} {w : World} {i : Nat} {o : Oper} {rs : List Nat} (ho : ops[i]? = some o) (hl : quietL lates (listed.setIfInBounds i true) = false)
    (h : ∀ K' : Act → World → Prop, Shut (∀ a w, wpAnyL P md ops Q S lates fuel (listed.setIfInBounds i true) a w → K' a w) → if Region.wanted o (yielded ops a.tmps) = true then Oper.wp P o a w K' Q else K' (a.put o.dst undef) w)
    (hs : AllReadyL P md ops Q S lates fuel listed a w rs) : AllReadyL P md ops Q S lates fuel listed a w (i :: rs) := fun j hj => by
  rcases List.mem_cons.1 hj with rfl | hj
  · exact wpOp_step ho (fun K' hK => h K' (fun a w hW => hK a w ⟨fun h0 => (by rw [hl] at h0; cases h0), hW⟩))
  · exact hs j hj
theorem wpAnyL_ready {rs : List Nat} {fuel : Nat} {listed : Array Bool} {a : Act} {w : World} (hr : Region.ready md ops listed = rs) (hne : rs ≠ [])
    (h : AllReadyL P md ops Q S lates fuel listed a w rs) : wpAnyL P md ops Q S lates (fuel + 1) listed a w := ⟨fun h0 => absurd (hr ▸ h0) hne, hr ▸ h⟩
theorem wpAnyL_done {listed : Array Bool} {a : Act} {w : World} (hr : Region.ready md ops listed = []) (h : Q .normal a w) :
    ∀ fuel, wpAnyL P md ops Q S lates fuel listed a w
  | 0 => ⟨hr, h⟩
  | _ + 1 => ⟨fun _ => h, by rw [hr]; simp⟩
theorem wp_region_late {id : Nat} {a : Act} {w : World} (hm : P.follows .mixedOrders = true) (hS : S w.drew)
    (h : S w.drew → wpAnyL P .any ops Q S lates ops.size (Array.replicate ops.size false) a w.drew) : (Code.region id ops true).wp P Q a w :=
  wp_region_any hm (wpAny_of_late _ _ _ _ (h hS))
end
end Go.Proofs.Ytbioblknhfmelaa

