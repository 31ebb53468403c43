/- Names of the domain system, plainly: labels, joined, cut, as texts, in small letters (no program). -/
import Derived.Test.YtillnjhmdgmgeaaDoorWords
namespace Go.Proofs.YtillnjhmdgmgeaaDoor
set_option linter.unusedVariables false
set_option linter.unusedSimpArgs false
namespace Lab
def wire (s : List UInt8) : List UInt8 := UInt8.ofNat s.length :: s
def wires (l : List (List UInt8)) : List UInt8 := l.flatMap wire
def names (l : List (List UInt8)) : List UInt8 := wires l ++ [0]
def okL (s : List UInt8) : Prop := 1 ≤ s.length ∧ s.length ≤ 63
instance (s : List UInt8) : Decidable (okL s) := by unfold okL; infer_instance
def cutF : Nat → List UInt8 → Option (List (List UInt8))
  | 0, _ => none
  | _ + 1, [] => none
  | f + 1, c :: r => if c = 0 then (if r = [] then some [] else none) else if 63 < c.toNat ∨ r.length < c.toNat then none else (cutF f (r.drop c.toNat)).map (r.take c.toNat :: ·)
/-- the labels of bytes that end with them, however many -/
def lab (s : List UInt8) : Option (List (List UInt8)) := cutF s.length s
def cut (s : List UInt8) : Option (List (List UInt8)) := if 255 < s.length then none else lab s
def right (s : List UInt8) : Bool := (cut s).isSome
def labels (s : List UInt8) : List (List UInt8) := (cut s).getD []
theorem pos_of {c : UInt8} (h : c ≠ 0) : 1 ≤ c.toNat := by
  rcases Nat.eq_zero_or_pos c.toNat with h0 | h0
  · exact absurd (UInt8.toNat_inj.1 (by rw [h0]; rfl)) h
  · exact h0
theorem cutF_any : ∀ (f : Nat) (s : List UInt8), s.length ≤ f → ∀ g, s.length ≤ g → cutF f s = cutF g s
  | 0, [], _, 0, _ => rfl
  | 0, [], _, _ + 1, _ => rfl
  | 0, _ :: _, h, _, _ => by simp at h
  | _ + 1, [], _, 0, _ => rfl
  | _ + 1, [], _, _ + 1, _ => rfl
  | f + 1, c :: r, h, 0, h2 => by simp at h2
  | f + 1, c :: r, h, g + 1, h2 => by
    simp only [List.length_cons] at h h2
    unfold cutF
    rw [cutF_any f (r.drop c.toNat) (by rw [List.length_drop]; omega) g (by rw [List.length_drop]; omega)]
theorem lab_nil : lab [] = none := rfl
theorem lab_cons (c : UInt8) (r : List UInt8) : lab (c :: r) = if c = 0 then (if r = [] then some [] else none) else if 63 < c.toNat ∨ r.length < c.toNat then none else (lab (r.drop c.toNat)).map (r.take c.toNat :: ·) := by
  show cutF (r.length + 1) (c :: r) = _
  conv => lhs; unfold cutF
  unfold lab
  rw [cutF_any r.length (r.drop c.toNat) (by rw [List.length_drop]; omega) (r.drop c.toNat).length (Nat.le_refl _)]
theorem ofNat_len {n : Nat} (h : n ≤ 63) : (UInt8.ofNat n).toNat = n := by rw [UInt8.toNat_ofNat']; omega
theorem wire_ne {s : List UInt8} (h : okL s) : UInt8.ofNat s.length ≠ 0 := fun e => by
  have h1 := ofNat_len h.2
  rw [e] at h1
  have := h.1
  simp at h1
  omega
theorem lab_wire {s : List UInt8} (h : okL s) (rest : List UInt8) : lab (wire s ++ rest) = (lab rest).map (s :: ·) := by
  have e := ofNat_len h.2
  show lab (UInt8.ofNat s.length :: (s ++ rest)) = _
  rw [lab_cons, if_neg (wire_ne h), e, if_neg (by rw [List.length_append]; have := h.2; omega), List.drop_left, List.take_left]
theorem lab_wires : ∀ {o : List (List UInt8)}, (∀ s ∈ o, okL s) → ∀ rest, lab (wires o ++ rest) = (lab rest).map (o ++ ·)
  | [], _, rest => by show lab rest = _; cases lab rest <;> rfl
  | s :: o, h, rest => by
    show lab (wire s ++ wires o ++ rest) = _
    rw [List.append_assoc, lab_wire (h s (by simp)), lab_wires (fun x hx => h x (by simp [hx])) rest]
    cases lab rest <;> rfl
theorem lab_names {l : List (List UInt8)} (h : ∀ s ∈ l, okL s) : lab (names l) = some l := by
  unfold names
  rw [lab_wires h]
  show (lab [0]).map _ = _
  rw [lab_cons, if_pos rfl, if_pos rfl]
  simp
theorem cutF_some : ∀ (f : Nat) (s : List UInt8) (l : List (List UInt8)), cutF f s = some l → (∀ x ∈ l, okL x) ∧ names l = s
  | 0, _, _, h => by cases h
  | _ + 1, [], _, h => by cases h
  | f + 1, c :: r, l, h => by
    unfold cutF at h
    split at h
    · rename_i hc
      split at h
      · rename_i hr
        injection h with h
        subst h hc hr
        exact ⟨by simp, rfl⟩
      · cases h
    · rename_i hc
      split at h
      · cases h
      · rename_i hb
        cases hq : cutF f (r.drop c.toNat) with
        | none => rw [hq] at h; cases h
        | some m =>
          rw [hq] at h
          injection h with h
          subst h
          obtain ⟨h1, h2⟩ := cutF_some f _ m hq
          have hlen : (r.take c.toNat).length = c.toNat := by rw [List.length_take]; omega
          have hp := pos_of hc
          refine ⟨fun x hx => ?_, ?_⟩
          · rcases List.mem_cons.1 hx with rfl | hx
            · exact ⟨by omega, by omega⟩
            · exact h1 x hx
          · have hw : wire (r.take c.toNat) = c :: r.take c.toNat := by
              unfold wire
              rw [hlen, UInt8.ofNat_toNat]
            show wire (r.take c.toNat) ++ wires m ++ [0] = _
            rw [hw, List.append_assoc]
            show c :: (r.take c.toNat ++ names m) = _
            rw [h2, List.take_append_drop]
theorem lab_some {s : List UInt8} {l : List (List UInt8)} (h : lab s = some l) : (∀ x ∈ l, okL x) ∧ names l = s := cutF_some _ _ _ h
/-- may labels be a name's -/
def ok (l : List (List UInt8)) : Prop := (∀ s ∈ l, okL s) ∧ (names l).length ≤ 255
instance (l : List (List UInt8)) : Decidable (ok l) := by unfold ok; infer_instance
theorem cut_some {s : List UInt8} {l : List (List UInt8)} (h : cut s = some l) : ok l ∧ names l = s := by
  unfold cut at h
  split at h
  · cases h
  · rename_i hs
    obtain ⟨h1, h2⟩ := lab_some h
    exact ⟨⟨h1, by rw [h2]; omega⟩, h2⟩
theorem cut_names {l : List (List UInt8)} (h : ok l) : cut (names l) = some l := by
  unfold cut
  rw [if_neg (by have := h.2; omega), lab_names h.1]
theorem names_inj {l m : List (List UInt8)} (h : ok l) (h2 : ok m) (e : names l = names m) : l = m := by
  have h3 := cut_names h
  rw [e, cut_names h2] at h3
  injection h3 with h3
  exact h3.symm
theorem right_iff {s : List UInt8} : right s = true ↔ ∃ l, ok l ∧ names l = s := by
  unfold right
  constructor
  · intro h
    cases hc : cut s with
    | none => rw [hc] at h; cases h
    | some l => exact ⟨l, cut_some hc⟩
  · rintro ⟨l, h, rfl⟩
    rw [cut_names h]; rfl
theorem right_names {l : List (List UInt8)} (h : ok l) : right (names l) = true := right_iff.2 ⟨l, h, rfl⟩
theorem labels_names {l : List (List UInt8)} (h : ok l) : labels (names l) = l := by unfold labels; rw [cut_names h]; rfl
theorem labels_no {s : List UInt8} (h : right s = false) : labels s = [] := by
  unfold right at h
  unfold labels
  cases hc : cut s with
  | none => rfl
  | some l => rw [hc] at h; cases h
theorem wires_app (l m : List (List UInt8)) : wires (l ++ m) = wires l ++ wires m := List.flatMap_append
theorem names_len (l : List (List UInt8)) : (names l).length = (wires l).length + 1 := by simp [names]
theorem wires_cons (s : List UInt8) (l : List (List UInt8)) : wires (s :: l) = wire s ++ wires l := rfl
theorem wires_drop (l : List (List UInt8)) : ∀ k, (wires (l.drop k)).length ≤ (wires l).length := fun k => by
  have e : l.take k ++ l.drop k = l := List.take_append_drop k l
  have h : wires l = wires (l.take k) ++ wires (l.drop k) := by rw [← wires_app, e]
  rw [h, List.length_append]; omega
theorem ok_drop {l : List (List UInt8)} (h : ok l) (k : Nat) : ok (l.drop k) := by
  refine ⟨fun s hs => h.1 s (List.mem_of_mem_drop hs), ?_⟩
  have h1 := h.2
  have h2 := wires_drop l k
  rw [names_len] at h1 ⊢
  omega
/-! ### Joined -/
def join (l : List (List UInt8)) : List UInt8 × Int := if [] ∈ l then ([], 3) else if ok l then (names l, 0) else ([], 4)
theorem nil_ok {l : List (List UInt8)} (h : ok l) : ¬ [] ∈ l := fun hm => by have := (h.1 [] hm).1; simp at this
theorem join_ok {l : List (List UInt8)} (h : ok l) : join l = (names l, 0) := by unfold join; rw [if_neg (nil_ok h), if_pos h]
theorem join_once {l : List (List UInt8)} (h : (join l).2 = 0) : ok l ∧ (join l).1 = names l := by
  unfold join at h ⊢
  split at h
  · cases h
  · rename_i h1
    split at h
    · rename_i h2; rw [if_neg h1, if_pos h2]; exact ⟨h2, rfl⟩
    · cases h
/-! ### Small letters -/
def lowB (c : UInt8) : UInt8 := if 65 ≤ c.toNat ∧ c.toNat ≤ 90 then c + 32 else c
def low (s : List UInt8) : List UInt8 := s.map lowB
def lower (s : List UInt8) : List UInt8 := if right s = true then low s else s
def same (a b : List UInt8) : Bool := right a && right b && decide (lower a = lower b)
def under (a b : List UInt8) : Bool := right a && right b && decide ((labels b).length ≤ (labels a).length) && same (names ((labels a).drop ((labels a).length - (labels b).length))) b
theorem lowB_nat (c : UInt8) : (lowB c).toNat = if 65 ≤ c.toNat ∧ c.toNat ≤ 90 then c.toNat + 32 else c.toNat := by
  unfold lowB
  split
  · rename_i h
    rw [UInt8.toNat_add]
    show (c.toNat + 32) % 256 = _
    omega
  · rfl
theorem lowB_lowB (c : UInt8) : lowB (lowB c) = lowB c := by
  have h := lowB_nat c
  apply UInt8.toNat_inj.1
  rw [lowB_nat (lowB c)]
  split
  · rename_i h2
    rw [h] at h2
    split at h2 <;> omega
  · rfl
theorem low_low (s : List UInt8) : low (low s) = low s := by unfold low; rw [List.map_map]; congr 1; funext c; exact lowB_lowB c
theorem low_len (s : List UInt8) : (low s).length = s.length := List.length_map ..
theorem lowB_small {n : Nat} (h : n ≤ 63) : lowB (UInt8.ofNat n) = UInt8.ofNat n := by
  unfold lowB
  rw [ofNat_len h, if_neg (by omega)]
def lows (l : List (List UInt8)) : List (List UInt8) := l.map low
theorem low_wire {s : List UInt8} (h : okL s) : low (wire s) = wire (low s) := by
  show lowB (UInt8.ofNat s.length) :: low s = UInt8.ofNat (low s).length :: low s
  rw [lowB_small h.2, low_len]
theorem low_wires : ∀ {l : List (List UInt8)}, (∀ s ∈ l, okL s) → low (wires l) = wires (lows l)
  | [], _ => rfl
  | s :: l, h => by
    show low (wire s ++ wires l) = wire (low s) ++ wires (lows l)
    rw [← low_wire (h s (by simp)), ← low_wires fun x hx => h x (by simp [hx])]
    exact List.map_append ..
theorem low_names {l : List (List UInt8)} (h : ok l) : low (names l) = names (lows l) := by
  unfold names
  rw [← low_wires h.1]
  show (wires l ++ [0]).map lowB = _
  rw [List.map_append]
  rfl
theorem okL_low {s : List UInt8} (h : okL s) : okL (low s) := by unfold okL; rw [low_len]; exact h
theorem ok_lows {l : List (List UInt8)} (h : ok l) : ok (lows l) := by
  refine ⟨fun s hs => ?_, ?_⟩
  · obtain ⟨x, hx, rfl⟩ := List.mem_map.1 hs
    exact okL_low (h.1 x hx)
  · rw [← low_names h, low_len]; exact h.2
theorem lows_lows (l : List (List UInt8)) : lows (lows l) = lows l := by unfold lows; rw [List.map_map]; congr 1; funext s; exact low_low s
theorem lower_names {l : List (List UInt8)} (h : ok l) : lower (names l) = names (lows l) := by unfold lower; rw [if_pos (right_names h), low_names h]
theorem lower_no {s : List UInt8} (h : right s = false) : lower s = s := by unfold lower; rw [if_neg (by rw [h]; simp)]
theorem lower_len (s : List UInt8) : (lower s).length = s.length := by unfold lower; split; exact low_len s; rfl
theorem right_lower (s : List UInt8) : right (lower s) = right s := by
  cases h : right s with
  | false => rw [lower_no h, h]
  | true =>
    obtain ⟨l, hl, rfl⟩ := right_iff.1 h
    rw [lower_names hl, right_names (ok_lows hl)]
theorem lower_lower (s : List UInt8) : lower (lower s) = lower s := by
  cases h : right s with
  | false => rw [lower_no h, lower_no h]
  | true =>
    obtain ⟨l, hl, rfl⟩ := right_iff.1 h
    rw [lower_names hl, lower_names (ok_lows hl), lows_lows]
theorem same_names {l m : List (List UInt8)} (h : ok l) (h2 : ok m) : same (names l) (names m) = true ↔ lows l = lows m := by
  unfold same
  rw [right_names h, right_names h2, lower_names h, lower_names h2]
  simp only [Bool.true_and, decide_eq_true_eq]
  exact ⟨fun e => names_inj (ok_lows h) (ok_lows h2) e, fun e => by rw [e]⟩
theorem same_right {a b : List UInt8} (h : same a b = true) : right a = true ∧ right b = true := by
  unfold same at h
  simp only [Bool.and_eq_true] at h
  exact ⟨h.1.1, h.1.2⟩
theorem same_lower {s : List UInt8} (h : right s = true) : same s (lower s) = true := by
  obtain ⟨l, hl, rfl⟩ := right_iff.1 h
  rw [lower_names hl, same_names hl (ok_lows hl), lows_lows]
theorem under_names {l m : List (List UInt8)} (h : ok l) (h2 : ok m) : under (names l) (names m) = true ↔ lows m <:+ lows l := by
  unfold under
  rw [right_names h, right_names h2, labels_names h, labels_names h2]
  simp only [Bool.true_and, Bool.and_eq_true, decide_eq_true_eq]
  rw [same_names (ok_drop h _) h2]
  have e : lows (l.drop (l.length - m.length)) = (lows l).drop (l.length - m.length) := List.map_drop ..
  rw [e]
  constructor
  · rintro ⟨_, h4⟩
    rw [← h4]
    exact List.drop_suffix _ _
  · intro hs
    have hl := hs.length_le
    have h5 : (lows l).length = l.length := List.length_map ..
    have h6 : (lows m).length = m.length := List.length_map ..
    refine ⟨by omega, ?_⟩
    have := List.suffix_iff_eq_drop.1 hs
    rw [h5, h6] at this
    exact this.symm
theorem under_right {a b : List UInt8} (h : under a b = true) : right a = true ∧ right b = true := by
  unfold under at h
  simp only [Bool.and_eq_true] at h
  exact ⟨h.1.1.1, h.1.1.2⟩
theorem under_trans {a b c : List UInt8} (h1 : under a b = true) (h2 : under b c = true) : under a c = true := by
  obtain ⟨la, oa, rfl⟩ := right_iff.1 (under_right h1).1
  obtain ⟨lb, ob, rfl⟩ := right_iff.1 (under_right h1).2
  obtain ⟨lc, oc, rfl⟩ := right_iff.1 (under_right h2).2
  rw [under_names oa ob] at h1
  rw [under_names ob oc] at h2
  rw [under_names oa oc]
  exact h2.trans h1
theorem under_both {a b : List UInt8} (h1 : under a b = true) (h2 : under b a = true) : same a b = true := by
  obtain ⟨la, oa, rfl⟩ := right_iff.1 (under_right h1).1
  obtain ⟨lb, ob, rfl⟩ := right_iff.1 (under_right h1).2
  rw [under_names oa ob] at h1
  rw [under_names ob oa] at h2
  rw [same_names oa ob]
  exact h2.eq_of_length (Nat.le_antisymm h2.length_le h1.length_le)
theorem under_self {a : List UInt8} (h : right a = true) : under a a = true := by
  obtain ⟨l, hl, rfl⟩ := right_iff.1 h
  rw [under_names hl hl]
  exact List.suffix_refl _
theorem ok_nil : ok [] := ⟨by simp, by decide⟩
theorem under_root {a : List UInt8} (h : right a = true) : under a [0] = true := by
  obtain ⟨l, hl, rfl⟩ := right_iff.1 h
  have : under (names l) (names []) = true := (under_names hl ok_nil).2 (List.nil_suffix ..)
  exact this
/-- a label ahead of a name -/
theorem ahead {a x : List UInt8} (hx : okL x) (h : right a = true) (hl : a.length + x.length + 1 ≤ 255) :
    ok (x :: labels a) ∧ under (names (x :: labels a)) a = true ∧ under a (names (x :: labels a)) = false ∧ under (names (x :: labels a)) (lower a) = true := by
  obtain ⟨l, ol, rfl⟩ := right_iff.1 h
  rw [labels_names ol]
  have o : ok (x :: l) := by
    refine ⟨fun s hs => ?_, ?_⟩
    · rcases List.mem_cons.1 hs with rfl | hs
      · exact hx
      · exact ol.1 s hs
    · rw [names_len] at hl ⊢
      rw [wires_cons, List.length_append]
      have : (wire x).length = x.length + 1 := by simp [wire]
      omega
  refine ⟨o, ?_, ?_, ?_⟩
  · rw [under_names o ol]; exact List.suffix_cons ..
  · cases hu : under (names l) (names (x :: l)) with
    | false => rfl
    | true =>
      rw [under_names ol o] at hu
      have h1 := hu.length_le
      simp [lows] at h1
      omega
  · rw [lower_names ol, under_names o (ok_lows ol), lows_lows]; exact List.suffix_cons ..
theorem no_great {s : List UInt8} (h : right s = true) {c : UInt8} (hc : c ∈ lower s) : ¬ (65 ≤ c.toNat ∧ c.toNat ≤ 90) := by
  unfold lower at hc
  rw [if_pos h] at hc
  obtain ⟨d, _, rfl⟩ := List.mem_map.1 hc
  rw [lowB_nat]
  split <;> omega
theorem labels_lower (s : List UInt8) : (labels (lower s)).length = (labels s).length := by
  cases h : right s with
  | false => rw [lower_no h]
  | true =>
    obtain ⟨l, hl, rfl⟩ := right_iff.1 h
    rw [lower_names hl, labels_names hl, labels_names (ok_lows hl)]
    exact List.length_map ..
end Lab
end Go.Proofs.YtillnjhmdgmgeaaDoor
