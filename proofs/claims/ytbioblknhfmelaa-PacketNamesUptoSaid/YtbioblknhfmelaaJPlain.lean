/- BMath BMath2 ZMath ZMath2 ZMath3 ZMath4 (merged). -/
import Derived.Test.YtbioblknhfmelaaJWords
namespace Go.Proofs.Ytbioblknhfmelaa
set_option linter.unusedVariables false
set_option linter.unusedSimpArgs false
namespace Lab
def wire (s : List UInt8) : List UInt8 := UInt8.ofNat s.length :: s
def wires (l : List (List UInt8)) : List UInt8 := l.flatMap wire
def names (l : List (List UInt8)) : List UInt8 := wires l ++ [0]
def okL (s : List UInt8) : Prop := 1 ≤ s.length ∧ s.length ≤ 63
instance (s : List UInt8) : Decidable (okL s) := by unfold okL; infer_instance
def cutF : Nat → List UInt8 → Option (List (List UInt8))
  | 0, _ => none
  | _ + 1, [] => none
  | f + 1, c :: r => if c = 0 then (if r = [] then some [] else none) else if 63 < c.toNat ∨ r.length < c.toNat then none else (cutF f (r.drop c.toNat)).map (r.take c.toNat :: ·)
/-- the labels of bytes that end with them, however many -/
def lab (s : List UInt8) : Option (List (List UInt8)) := cutF s.length s
def cut (s : List UInt8) : Option (List (List UInt8)) := if 255 < s.length then none else lab s
def right (s : List UInt8) : Bool := (cut s).isSome
def labels (s : List UInt8) : List (List UInt8) := (cut s).getD []
theorem pos_of {c : UInt8} (h : c ≠ 0) : 1 ≤ c.toNat := by
  rcases Nat.eq_zero_or_pos c.toNat with h0 | h0
  · exact absurd (UInt8.toNat_inj.1 (by rw [h0]; rfl)) h
  · exact h0
theorem cutF_any : ∀ (f : Nat) (s : List UInt8), s.length ≤ f → ∀ g, s.length ≤ g → cutF f s = cutF g s
  | 0, [], _, 0, _ => rfl
  | 0, [], _, _ + 1, _ => rfl
  | 0, _ :: _, h, _, _ => by simp at h
  | _ + 1, [], _, 0, _ => rfl
  | _ + 1, [], _, _ + 1, _ => rfl
  | f + 1, c :: r, h, 0, h2 => by simp at h2
  | f + 1, c :: r, h, g + 1, h2 => by
    simp only [List.length_cons] at h h2
    unfold cutF
    rw [cutF_any f (r.drop c.toNat) (by rw [List.length_drop]; omega) g (by rw [List.length_drop]; omega)]
theorem lab_nil : lab [] = none := rfl
theorem lab_cons (c : UInt8) (r : List UInt8) : lab (c :: r) = if c = 0 then (if r = [] then some [] else none) else if 63 < c.toNat ∨ r.length < c.toNat then none else (lab (r.drop c.toNat)).map (r.take c.toNat :: ·) := by
  show cutF (r.length + 1) (c :: r) = _
  conv => lhs; unfold cutF
  unfold lab
  rw [cutF_any r.length (r.drop c.toNat) (by rw [List.length_drop]; omega) (r.drop c.toNat).length (Nat.le_refl _)]
theorem ofNat_len {n : Nat} (h : n ≤ 63) : (UInt8.ofNat n).toNat = n := by rw [UInt8.toNat_ofNat']; omega
theorem wire_ne {s : List UInt8} (h : okL s) : UInt8.ofNat s.length ≠ 0 := fun e => by
  have h1 := ofNat_len h.2
  rw [e] at h1
  have := h.1
  simp at h1
  omega
theorem lab_wire {s : List UInt8} (h : okL s) (rest : List UInt8) : lab (wire s ++ rest) = (lab rest).map (s :: ·) := by
  have e := ofNat_len h.2
  show lab (UInt8.ofNat s.length :: (s ++ rest)) = _
  rw [lab_cons, if_neg (wire_ne h), e, if_neg (by rw [List.length_append]; have := h.2; omega), List.drop_left, List.take_left]
theorem lab_wires : ∀ {o : List (List UInt8)}, (∀ s ∈ o, okL s) → ∀ rest, lab (wires o ++ rest) = (lab rest).map (o ++ ·)
  | [], _, rest => by show lab rest = _; cases lab rest <;> rfl
  | s :: o, h, rest => by
    show lab (wire s ++ wires o ++ rest) = _
    rw [List.append_assoc, lab_wire (h s (by simp)), lab_wires (fun x hx => h x (by simp [hx])) rest]
    cases lab rest <;> rfl
theorem lab_names {l : List (List UInt8)} (h : ∀ s ∈ l, okL s) : lab (names l) = some l := by
  unfold names
  rw [lab_wires h]
  show (lab [0]).map _ = _
  rw [lab_cons, if_pos rfl, if_pos rfl]
  simp
theorem cutF_some : ∀ (f : Nat) (s : List UInt8) (l : List (List UInt8)), cutF f s = some l → (∀ x ∈ l, okL x) ∧ names l = s
  | 0, _, _, h => by cases h
  | _ + 1, [], _, h => by cases h
  | f + 1, c :: r, l, h => by
    unfold cutF at h
    split at h
    · rename_i hc
      split at h
      · rename_i hr
        injection h with h
        subst h hc hr
        exact ⟨by simp, rfl⟩
      · cases h
    · rename_i hc
      split at h
      · cases h
      · rename_i hb
        cases hq : cutF f (r.drop c.toNat) with
        | none => rw [hq] at h; cases h
        | some m =>
          rw [hq] at h
          injection h with h
          subst h
          obtain ⟨h1, h2⟩ := cutF_some f _ m hq
          have hlen : (r.take c.toNat).length = c.toNat := by rw [List.length_take]; omega
          have hp := pos_of hc
          refine ⟨fun x hx => ?_, ?_⟩
          · rcases List.mem_cons.1 hx with rfl | hx
            · exact ⟨by omega, by omega⟩
            · exact h1 x hx
          · have hw : wire (r.take c.toNat) = c :: r.take c.toNat := by
              unfold wire
              rw [hlen, UInt8.ofNat_toNat]
            show wire (r.take c.toNat) ++ wires m ++ [0] = _
            rw [hw, List.append_assoc]
            show c :: (r.take c.toNat ++ names m) = _
            rw [h2, List.take_append_drop]
theorem lab_some {s : List UInt8} {l : List (List UInt8)} (h : lab s = some l) : (∀ x ∈ l, okL x) ∧ names l = s := cutF_some _ _ _ h
/-- may labels be a name's -/
def ok (l : List (List UInt8)) : Prop := (∀ s ∈ l, okL s) ∧ (names l).length ≤ 255
instance (l : List (List UInt8)) : Decidable (ok l) := by unfold ok; infer_instance
theorem cut_some {s : List UInt8} {l : List (List UInt8)} (h : cut s = some l) : ok l ∧ names l = s := by
  unfold cut at h
  split at h
  · cases h
  · rename_i hs
    obtain ⟨h1, h2⟩ := lab_some h
    exact ⟨⟨h1, by rw [h2]; omega⟩, h2⟩
theorem cut_names {l : List (List UInt8)} (h : ok l) : cut (names l) = some l := by
  unfold cut
  rw [if_neg (by have := h.2; omega), lab_names h.1]
theorem names_inj {l m : List (List UInt8)} (h : ok l) (h2 : ok m) (e : names l = names m) : l = m := by
  have h3 := cut_names h
  rw [e, cut_names h2] at h3
  injection h3 with h3
  exact h3.symm
theorem right_iff {s : List UInt8} : right s = true ↔ ∃ l, ok l ∧ names l = s := by
  unfold right
  constructor
  · intro h
    cases hc : cut s with
    | none => rw [hc] at h; cases h
    | some l => exact ⟨l, cut_some hc⟩
  · rintro ⟨l, h, rfl⟩
    rw [cut_names h]; rfl
theorem right_names {l : List (List UInt8)} (h : ok l) : right (names l) = true := right_iff.2 ⟨l, h, rfl⟩
theorem labels_names {l : List (List UInt8)} (h : ok l) : labels (names l) = l := by unfold labels; rw [cut_names h]; rfl
theorem wires_app (l m : List (List UInt8)) : wires (l ++ m) = wires l ++ wires m := List.flatMap_append
theorem names_len (l : List (List UInt8)) : (names l).length = (wires l).length + 1 := by simp [names]
theorem wires_cons (s : List UInt8) (l : List (List UInt8)) : wires (s :: l) = wire s ++ wires l := rfl
theorem wires_drop (l : List (List UInt8)) : ∀ k, (wires (l.drop k)).length ≤ (wires l).length := fun k => by
  have e : l.take k ++ l.drop k = l := List.take_append_drop k l
  have h : wires l = wires (l.take k) ++ wires (l.drop k) := by rw [← wires_app, e]
  rw [h, List.length_append]; omega
theorem ok_drop {l : List (List UInt8)} (h : ok l) (k : Nat) : ok (l.drop k) := by
  refine ⟨fun s hs => h.1 s (List.mem_of_mem_drop hs), ?_⟩
  have h1 := h.2
  have h2 := wires_drop l k
  rw [names_len] at h1 ⊢
  omega
/-! ### Joined -/
def join (l : List (List UInt8)) : List UInt8 × Int := if [] ∈ l then ([], 3) else if ok l then (names l, 0) else ([], 4)
/-! ### Small letters -/
def lowB (c : UInt8) : UInt8 := if 65 ≤ c.toNat ∧ c.toNat ≤ 90 then c + 32 else c
def low (s : List UInt8) : List UInt8 := s.map lowB
def lower (s : List UInt8) : List UInt8 := if right s = true then low s else s
def same (a b : List UInt8) : Bool := right a && right b && decide (lower a = lower b)
def under (a b : List UInt8) : Bool := right a && right b && decide ((labels b).length ≤ (labels a).length) && same (names ((labels a).drop ((labels a).length - (labels b).length))) b
theorem lowB_nat (c : UInt8) : (lowB c).toNat = if 65 ≤ c.toNat ∧ c.toNat ≤ 90 then c.toNat + 32 else c.toNat := by
  unfold lowB
  split
  · rename_i h
    rw [UInt8.toNat_add]
    show (c.toNat + 32) % 256 = _
    omega
  · rfl
theorem lowB_lowB (c : UInt8) : lowB (lowB c) = lowB c := by
  have h := lowB_nat c
  apply UInt8.toNat_inj.1
  rw [lowB_nat (lowB c)]
  split
  · rename_i h2
    rw [h] at h2
    split at h2 <;> omega
  · rfl
theorem low_low (s : List UInt8) : low (low s) = low s := by unfold low; rw [List.map_map]; congr 1; funext c; exact lowB_lowB c
theorem low_len (s : List UInt8) : (low s).length = s.length := List.length_map ..
theorem lowB_small {n : Nat} (h : n ≤ 63) : lowB (UInt8.ofNat n) = UInt8.ofNat n := by
  unfold lowB
  rw [ofNat_len h, if_neg (by omega)]
def lows (l : List (List UInt8)) : List (List UInt8) := l.map low
theorem low_wire {s : List UInt8} (h : okL s) : low (wire s) = wire (low s) := by
  show lowB (UInt8.ofNat s.length) :: low s = UInt8.ofNat (low s).length :: low s
  rw [lowB_small h.2, low_len]
theorem low_wires : ∀ {l : List (List UInt8)}, (∀ s ∈ l, okL s) → low (wires l) = wires (lows l)
  | [], _ => rfl
  | s :: l, h => by
    show low (wire s ++ wires l) = wire (low s) ++ wires (lows l)
    rw [← low_wire (h s (by simp)), ← low_wires fun x hx => h x (by simp [hx])]
    exact List.map_append ..
theorem low_names {l : List (List UInt8)} (h : ok l) : low (names l) = names (lows l) := by
  unfold names
  rw [← low_wires h.1]
  show (wires l ++ [0]).map lowB = _
  rw [List.map_append]
  rfl
theorem okL_low {s : List UInt8} (h : okL s) : okL (low s) := by unfold okL; rw [low_len]; exact h
theorem ok_lows {l : List (List UInt8)} (h : ok l) : ok (lows l) := by
  refine ⟨fun s hs => ?_, ?_⟩
  · obtain ⟨x, hx, rfl⟩ := List.mem_map.1 hs
    exact okL_low (h.1 x hx)
  · rw [← low_names h, low_len]; exact h.2
theorem lows_lows (l : List (List UInt8)) : lows (lows l) = lows l := by unfold lows; rw [List.map_map]; congr 1; funext s; exact low_low s
theorem lower_names {l : List (List UInt8)} (h : ok l) : lower (names l) = names (lows l) := by unfold lower; rw [if_pos (right_names h), low_names h]
theorem lower_no {s : List UInt8} (h : right s = false) : lower s = s := by unfold lower; rw [if_neg (by rw [h]; simp)]
theorem same_names {l m : List (List UInt8)} (h : ok l) (h2 : ok m) : same (names l) (names m) = true ↔ lows l = lows m := by
  unfold same
  rw [right_names h, right_names h2, lower_names h, lower_names h2]
  simp only [Bool.true_and, decide_eq_true_eq]
  exact ⟨fun e => names_inj (ok_lows h) (ok_lows h2) e, fun e => by rw [e]⟩
theorem under_names {l m : List (List UInt8)} (h : ok l) (h2 : ok m) : under (names l) (names m) = true ↔ lows m <:+ lows l := by
  unfold under
  rw [right_names h, right_names h2, labels_names h, labels_names h2]
  simp only [Bool.true_and, Bool.and_eq_true, decide_eq_true_eq]
  rw [same_names (ok_drop h _) h2]
  have e : lows (l.drop (l.length - m.length)) = (lows l).drop (l.length - m.length) := List.map_drop ..
  rw [e]
  constructor
  · rintro ⟨_, h4⟩
    rw [← h4]
    exact List.drop_suffix _ _
  · intro hs
    have hl := hs.length_le
    have h5 : (lows l).length = l.length := List.length_map ..
    have h6 : (lows m).length = m.length := List.length_map ..
    refine ⟨by omega, ?_⟩
    have := List.suffix_iff_eq_drop.1 hs
    rw [h5, h6] at this
    exact this.symm
/-- a label ahead of a name -/
theorem ahead {a x : List UInt8} (hx : okL x) (h : right a = true) (hl : a.length + x.length + 1 ≤ 255) :
    ok (x :: labels a) ∧ under (names (x :: labels a)) a = true ∧ under a (names (x :: labels a)) = false ∧ under (names (x :: labels a)) (lower a) = true := by
  obtain ⟨l, ol, rfl⟩ := right_iff.1 h
  rw [labels_names ol]
  have o : ok (x :: l) := by
    refine ⟨fun s hs => ?_, ?_⟩
    · rcases List.mem_cons.1 hs with rfl | hs
      · exact hx
      · exact ol.1 s hs
    · rw [names_len] at hl ⊢
      rw [wires_cons, List.length_append]
      have : (wire x).length = x.length + 1 := by simp [wire]
      omega
  refine ⟨o, ?_, ?_, ?_⟩
  · rw [under_names o ol]; exact List.suffix_cons ..
  · cases hu : under (names l) (names (x :: l)) with
    | false => rfl
    | true =>
      rw [under_names ol o] at hu
      have h1 := hu.length_le
      simp [lows] at h1
      omega
  · rw [lower_names ol, under_names o (ok_lows ol), lows_lows]; exact List.suffix_cons ..
end Lab
end Go.Proofs.Ytbioblknhfmelaa

namespace Go.Proofs.Ytbioblknhfmelaa
set_option linter.unusedVariables false
set_option linter.unusedSimpArgs false
namespace Lab
/-- one byte more of a text that is parted by dots -/
def step (l : List (List UInt8)) (c : UInt8) : List (List UInt8) := if c = 46 then l ++ [[]] else l.dropLast ++ [(l.getLast?.getD []) ++ [c]]
def parts (t : List UInt8) : List (List UInt8) := t.foldl step [[]]
def trim (t : List UInt8) : List UInt8 := if t.getLast? = some 46 then t.dropLast else t
def of (t : List UInt8) : List UInt8 × Int := if t = [] ∨ t = [46] then ([0], 0) else join (parts (trim t))
def dot (s : List UInt8) : List UInt8 := s ++ [46]
def dots (l : List (List UInt8)) : List UInt8 := l.flatMap dot
def bad (l : List (List UInt8)) : Bool := l.any fun s => decide (46 ∈ s)
def shown (l : List (List UInt8)) : List UInt8 := if l = [] then [46] else dots l
def text (s : List UInt8) : List UInt8 × Int := match cut s with
  | none => ([], 1)
  | some l => if bad l = true then ([], 3) else (shown l, 0)
end Lab
end Go.Proofs.Ytbioblknhfmelaa

namespace Go.Proofs.Ytbioblknhfmelaa
set_option linter.unusedVariables false
set_option linter.unusedSimpArgs false
namespace Pk
def b2 (n : Nat) : List UInt8 := [UInt8.ofNat (n / 256), UInt8.ofNat n]
def b4 (n : Nat) : List UInt8 := [UInt8.ofNat (n / 16777216), UInt8.ofNat (n / 65536), UInt8.ofNat (n / 256), UInt8.ofNat n]
def w2 : List UInt8 → Nat
  | x :: y :: _ => x.toNat * 256 + y.toNat
  | _ => 0
def w4 : List UInt8 → Nat
  | x :: y :: z :: u :: _ => ((x.toNat * 256 + y.toNat) * 256 + z.toNat) * 256 + u.toNat
  | _ => 0
theorem b2_len (n : Nat) : (b2 n).length = 2 := rfl
theorem b4_len (n : Nat) : (b4 n).length = 4 := rfl
theorem w2_b2 {n : Nat} (h : n ≤ 65535) (r : List UInt8) : w2 (b2 n ++ r) = n := by
  show (UInt8.ofNat (n / 256)).toNat * 256 + (UInt8.ofNat n).toNat = n
  rw [UInt8.toNat_ofNat', UInt8.toNat_ofNat']
  omega
theorem w4_b4 {n : Nat} (h : n ≤ 4294967295) (r : List UInt8) : w4 (b4 n ++ r) = n := by
  show (((UInt8.ofNat (n / 16777216)).toNat * 256 + (UInt8.ofNat (n / 65536)).toNat) * 256 + (UInt8.ofNat (n / 256)).toNat) * 256 + (UInt8.ofNat n).toNat = n
  rw [UInt8.toNat_ofNat', UInt8.toNat_ofNat', UInt8.toNat_ofNat', UInt8.toNat_ofNat']
  omega
/-- a name in bytes: what there is, the place, where its labels began, where it ends, how many pointers; the first number is above what is left to do -/
def nameF : Nat → List UInt8 → List UInt8 → Nat → Nat → Option Nat → Nat → List UInt8 × Nat × Int
  | 0, _, _, _, _, _, _ => ([], 0, 99)
  | f + 1, b, out, i, st, nx, j =>
    match b.drop i with
    | [] => ([], 0, 2)
    | c :: r =>
      if c = 0 then (out ++ [0], nx.getD (i + 1), 0)
      else if c.toNat < 64 then
        (if r.length < c.toNat then ([], 0, 2)
        else if 254 < (out ++ c :: r.take c.toNat).length then ([], 0, 4)
        else nameF f b (out ++ c :: r.take c.toNat) (i + 1 + c.toNat) st nx j)
      else if c.toNat < 192 then ([], 0, 3)
      else match r with
        | [] => ([], 0, 2)
        | d :: _ => if st ≤ (c.toNat - 192) * 256 + d.toNat ∨ 16 ≤ j then ([], 0, 15) else nameF f b out ((c.toNat - 192) * 256 + d.toNat) ((c.toNat - 192) * 256 + d.toNat) (some (nx.getD (i + 2))) (j + 1)
def nameAt (b : List UInt8) (i : Int) : List UInt8 × Nat × Int := if i < 0 ∨ b.length < i then ([], 0, 1) else nameF 300 b [] i.toNat i.toNat none 0
theorem drop_more {b x r : List UInt8} {i : Nat} (h : b.drop i = x ++ r) : b.drop (i + x.length) = r := by
  rw [← List.drop_drop, h, List.drop_left]
theorem name_labels {b rest : List UInt8} {st j : Nat} {nx : Option Nat} : ∀ {l : List (List UInt8)} (f : Nat) (out : List UInt8) (i : Nat), (∀ s ∈ l, Lab.okL s) → b.drop i = Lab.wires l ++ 0 :: rest → (out ++ Lab.wires l).length ≤ 254 → l.length < f →
    nameF f b out i st nx j = (out ++ (Lab.wires l ++ [0]), nx.getD (i + (Lab.wires l).length + 1), 0)
  | [], 0, _, _, _, _, _, h => by omega
  | [], f + 1, out, i, _, hd, _, _ => by
    unfold nameF
    rw [show b.drop i = 0 :: rest from hd]
    show (if (0 : UInt8) = 0 then _ else _) = _
    rw [if_pos rfl]
    rfl
  | s :: l, 0, _, _, _, _, _, h => by omega
  | s :: l, f + 1, out, i, ho, hd, hl, hf => by
    have hs := ho s (by simp)
    have e := Lab.ofNat_len hs.2
    have hd2 : b.drop i = UInt8.ofNat s.length :: (s ++ (Lab.wires l ++ 0 :: rest)) := by
      rw [hd]
      show (Lab.wire s ++ Lab.wires l) ++ 0 :: rest = _
      rw [List.append_assoc]
      rfl
    have hnx : b.drop (i + 1 + s.length) = Lab.wires l ++ 0 :: rest := by
      have h1 := drop_more (b := b) (x := Lab.wire s) (r := Lab.wires l ++ 0 :: rest) (i := i) (by rw [hd2]; rfl)
      have h2 : (Lab.wire s).length = s.length + 1 := by simp [Lab.wire]
      rw [h2] at h1
      rw [show i + 1 + s.length = i + (s.length + 1) by omega]
      exact h1
    have hlw : (Lab.wires (s :: l)).length = s.length + 1 + (Lab.wires l).length := by
      rw [Lab.wires_cons, List.length_append]
      simp [Lab.wire]
    have hlen : (out ++ Lab.wire s).length + (Lab.wires l).length ≤ 254 := by
      rw [List.length_append] at hl ⊢
      rw [hlw] at hl
      have h2 : (Lab.wire s).length = s.length + 1 := by simp [Lab.wire]
      omega
    unfold nameF
    rw [hd2]
    show (if UInt8.ofNat s.length = 0 then _ else _) = _
    rw [if_neg (Lab.wire_ne hs), e, if_pos (by have := hs.2; omega), if_neg (by rw [List.length_append]; omega), List.take_left]
    show (if 254 < (out ++ Lab.wire s).length then _ else nameF f b (out ++ Lab.wire s) _ _ _ _) = _
    rw [if_neg (by omega), name_labels f (out ++ Lab.wire s) (i + 1 + s.length) (fun x hx => ho x (by simp [hx])) hnx (by rw [List.length_append]; omega) (by simp only [List.length_cons] at hf; omega)]
    rw [Lab.wires_cons, List.append_assoc, List.append_assoc]
    congr 2
    rw [List.length_append]
    have h2 : (Lab.wire s).length = s.length + 1 := by simp [Lab.wire]
    rw [h2]
    congr 1
    omega
theorem ok_fuel {l : List (List UInt8)} (h : Lab.ok l) : l.length < 299 := by
  have h1 : ∀ {l : List (List UInt8)}, (∀ s ∈ l, Lab.okL s) → l.length ≤ (Lab.wires l).length := by
    intro l
    induction l with
    | nil => intro _; exact Nat.zero_le _
    | cons s l ih =>
      intro h
      have h1 := ih fun x hx => h x (by simp [hx])
      rw [Lab.wires_cons, List.length_append]
      simp only [Lab.wire, List.length_cons]
      omega
  have h2 := h1 h.1
  have h3 := h.2
  rw [Lab.names_len] at h3
  omega
/-- a name that stands in bytes is read there -/
theorem name_here {b s rest : List UInt8} {i : Nat} (h : Lab.right s = true) (hd : b.drop i = s ++ rest) (hi : i ≤ b.length) : nameAt b i = (s, i + s.length, 0) := by
  obtain ⟨l, ol, rfl⟩ := Lab.right_iff.1 h
  unfold nameAt
  rw [if_neg (by omega), show ((i : Int)).toNat = i by omega]
  have hlen := ol.2
  rw [Lab.names_len] at hlen
  have := name_labels (b := b) (st := i) (j := 0) (nx := none) (rest := rest) (l := l) 300 [] i ol.1 (by rw [hd]; unfold Lab.names; simp) (by simp; omega) (by have := ok_fuel ol; omega)
  rw [this]
  simp only [List.nil_append, Option.getD_none]
  rw [show i + (Lab.names l).length = i + (Lab.wires l).length + 1 by rw [Lab.names_len]; omega]
  rfl
/-- a pointer to a name is that name -/
theorem name_there {b s rest rest2 : List UInt8} {i to : Nat} {c d : UInt8} (h : Lab.right s = true) (hp : b.drop i = c :: d :: rest) (hc : 192 ≤ c.toNat) (ht : (c.toNat - 192) * 256 + d.toNat = to) (hlt : to < i) (hd : b.drop to = s ++ rest2) (hi : i ≤ b.length) : nameAt b i = (s, i + 2, 0) := by
  obtain ⟨l, ol, rfl⟩ := Lab.right_iff.1 h
  have hlen := ol.2
  rw [Lab.names_len] at hlen
  unfold nameAt
  rw [if_neg (by omega), show ((i : Int)).toNat = i by omega]
  have hc0 : c ≠ 0 := fun e => by rw [e] at hc; simp at hc
  show nameF (299 + 1) b [] i i none 0 = _
  unfold nameF
  rw [hp]
  show (if c = 0 then _ else _) = _
  rw [if_neg hc0, if_neg (by omega), if_neg (by omega)]
  show (if i ≤ (c.toNat - 192) * 256 + d.toNat ∨ 16 ≤ 0 then _ else _) = _
  rw [ht, if_neg (by omega)]
  have := name_labels (b := b) (st := to) (j := 0 + 1) (nx := some ((none : Option Nat).getD (i + 2))) (rest := rest2) (l := l) 299 [] to ol.1 (by rw [hd]; unfold Lab.names; simp) (by simp; omega) (ok_fuel ol)
  rw [this]
  rfl
end Pk
end Go.Proofs.Ytbioblknhfmelaa

namespace Go.Proofs.Ytbioblknhfmelaa
set_option linter.unusedVariables false
set_option linter.unusedSimpArgs false
/-- a question -/
structure Qst where
  name : List UInt8
  typ : Int
  cls : Int
deriving DecidableEq
/-- a record of the domain system -/
structure Rrc where
  name : List UInt8
  typ : Int
  cls : Int
  ttl : Int
  data : List UInt8
deriving DecidableEq
/-- a packet -/
structure Pck where
  id : Int
  flags : Int
  qs : List Qst
  an : List Rrc
  au : List Rrc
  mo : List Rrc
deriving DecidableEq
namespace Pk
def none : Pck := ⟨0, 0, [], [], [], []⟩
def two (n : Int) : Prop := 0 ≤ n ∧ n ≤ 65535
instance (n : Int) : Decidable (two n) := by unfold two; infer_instance
def rightQ (q : Qst) : Prop := Lab.right q.name = true ∧ two q.typ ∧ two q.cls
instance (q : Qst) : Decidable (rightQ q) := by unfold rightQ; infer_instance
def rightR (r : Rrc) : Prop := Lab.right r.name = true ∧ two r.typ ∧ two r.cls ∧ 0 ≤ r.ttl ∧ r.ttl ≤ 2147483647 ∧ r.data.length ≤ 1000
instance (r : Rrc) : Decidable (rightR r) := by unfold rightR; infer_instance
def rightL (l : List Rrc) : Prop := l.length ≤ 100 ∧ ∀ r ∈ l, rightR r
instance (l : List Rrc) : Decidable (rightL l) := by unfold rightL; infer_instance
def right (p : Pck) : Prop := two p.id ∧ two p.flags ∧ (p.qs.length ≤ 100 ∧ ∀ q ∈ p.qs, rightQ q) ∧ rightL p.an ∧ rightL p.au ∧ rightL p.mo
instance (p : Pck) : Decidable (right p) := by unfold right; infer_instance
/-! ### Built -/
def qb (q : Qst) : List UInt8 := q.name ++ (b2 q.typ.toNat ++ b2 q.cls.toNat)
def qsb (l : List Qst) : List UInt8 := l.flatMap qb
/-- is a record's name the first question's -/
def asked (qs : List Qst) (r : Rrc) : Bool := match qs with | [] => false | q :: _ => Lab.same r.name q.name
def nmb (qs : List Qst) (r : Rrc) : List UInt8 := if asked qs r = true then [192, 12] else r.name
def rb (qs : List Qst) (r : Rrc) : List UInt8 := nmb qs r ++ (b2 r.typ.toNat ++ (b2 r.cls.toNat ++ (b4 r.ttl.toNat ++ (b2 r.data.length ++ r.data))))
def rsb (qs : List Qst) (l : List Rrc) : List UInt8 := l.flatMap (rb qs)
/-- how many records there is room for -/
def fits (qs : List Qst) : Nat → List Rrc → Nat
  | _, [] => 0
  | room, r :: l => if (rb qs r).length ≤ room then fits qs (room - (rb qs r).length) l + 1 else 0
def all (p : Pck) : List Rrc := p.an ++ (p.au ++ p.mo)
def cutFlag (n : Int) : Int := ((n.toNat ||| 512 : Nat) : Int)
/-- the first k records alone -/
def first (p : Pck) (k : Nat) : Pck := ⟨p.id, if k < (all p).length then cutFlag p.flags else p.flags, p.qs, p.an.take k, p.au.take (k - p.an.length), p.mo.take (k - p.an.length - p.au.length)⟩
def hd (p : Pck) : List UInt8 := b2 p.id.toNat ++ (b2 p.flags.toNat ++ (b2 p.qs.length ++ (b2 p.an.length ++ (b2 p.au.length ++ b2 p.mo.length))))
/-- all of a packet's bytes -/
def whole (p : Pck) : List UInt8 := hd p ++ (qsb p.qs ++ rsb p.qs (all p))
def room (p : Pck) (limit : Int) : Nat := (limit - 12 - (qsb p.qs).length).toNat
def kept (p : Pck) (limit : Int) : Pck := first p (fits p.qs (room p limit) (all p))
def build (p : Pck) (limit : Int) : List UInt8 × Int := if ¬ right p then ([], 1) else if limit < 12 + (qsb p.qs).length then ([], 4) else (whole (kept p limit), 0)
theorem hd_len (p : Pck) : (hd p).length = 12 := rfl
theorem all_first (p : Pck) (k : Nat) : all (first p k) = (all p).take k := by
  show p.an.take k ++ (p.au.take (k - p.an.length) ++ p.mo.take (k - p.an.length - p.au.length)) = (p.an ++ (p.au ++ p.mo)).take k
  rw [List.take_append, List.take_append]
theorem fits_le (qs : List Qst) : ∀ (l : List Rrc) (n : Nat), fits qs n l ≤ l.length
  | [], _ => Nat.le_refl _
  | r :: l, n => by
    unfold fits
    split
    · have := fits_le qs l (n - (rb qs r).length); simp only [List.length_cons]; omega
    · exact Nat.zero_le _
theorem rsb_cons (qs : List Qst) (r : Rrc) (l : List Rrc) : rsb qs (r :: l) = rb qs r ++ rsb qs l := rfl
theorem rsb_app (qs : List Qst) (l m : List Rrc) : rsb qs (l ++ m) = rsb qs l ++ rsb qs m := List.flatMap_append
theorem fits_room (qs : List Qst) : ∀ (l : List Rrc) (n : Nat), (rsb qs (l.take (fits qs n l))).length ≤ n
  | [], n => by simp [fits, rsb]
  | r :: l, n => by
    unfold fits
    split
    · rename_i h
      have := fits_room qs l (n - (rb qs r).length)
      rw [List.take_succ_cons, rsb_cons, List.length_append]
      omega
    · simp [rsb]
theorem fits_mono (qs : List Qst) : ∀ (l : List Rrc) (n m : Nat), n ≤ m → fits qs n l ≤ fits qs m l
  | [], _, _, _ => Nat.le_refl _
  | r :: l, n, m, h => by
    unfold fits
    split
    · rw [if_pos (by omega)]
      have := fits_mono qs l (n - (rb qs r).length) (m - (rb qs r).length) (by omega)
      omega
    · exact Nat.zero_le _
theorem cut_two {n : Int} (h : two n) : two (cutFlag n) := by
  unfold two cutFlag at *
  have h1 : n.toNat < 2 ^ 16 := by omega
  have h2 : n.toNat ||| 512 < 2 ^ 16 := Nat.or_lt_two_pow h1 (by decide)
  omega
theorem right_first {p : Pck} (h : right p) (k : Nat) : right (first p k) := by
  obtain ⟨h1, h2, h3, h4, h5, h6⟩ := h
  have tk : ∀ {l : List Rrc} (j : Nat), rightL l → rightL (l.take j) := fun j hl => ⟨by rw [List.length_take]; have := hl.1; omega, fun r hr => hl.2 r (List.mem_of_mem_take hr)⟩
  refine ⟨h1, ?_, h3, tk _ h4, tk _ h5, tk _ h6⟩
  show two (if _ then _ else _)
  split
  · exact cut_two h2
  · exact h2
theorem build_no {p : Pck} {n : Int} (h : ¬ right p) : build p n = ([], 1) := if_pos h
theorem build_long {p : Pck} {n : Int} (h : right p) (h2 : n < 12 + (qsb p.qs).length) : build p n = ([], 4) := by unfold build; rw [if_neg (Classical.not_not.2 h), if_pos h2]
theorem build_is {p : Pck} {n : Int} (h : right p) (h2 : ¬ n < 12 + (qsb p.qs).length) : build p n = (whole (kept p n), 0) := by unfold build; rw [if_neg (Classical.not_not.2 h), if_neg h2]
theorem whole_len (p : Pck) : (whole p).length = 12 + (qsb p.qs).length + (rsb p.qs (all p)).length := by
  unfold whole
  rw [List.length_append, hd_len, List.length_append]
  omega
theorem kept_len {p : Pck} {n : Int} (h2 : ¬ n < 12 + (qsb p.qs).length) : ((whole (kept p n)).length : Int) ≤ n := by
  rw [whole_len]
  have h3 := fits_room p.qs (all p) (room p n)
  unfold kept
  rw [all_first]
  show ((12 + (qsb p.qs).length + (rsb p.qs ((all p).take (fits p.qs (room p n) (all p)))).length : Nat) : Int) ≤ n
  unfold room at *
  omega
/-! ### Parsed -/
def qsF : Nat → List UInt8 → Nat → List Qst × Nat × Int
  | 0, _, i => ([], i, 0)
  | n + 1, b, i =>
    if (nameAt b i).2.2 ≠ 0 then ([], 0, (nameAt b i).2.2)
    else if b.length < (nameAt b i).2.1 + 4 then ([], 0, 2)
    else if (qsF n b ((nameAt b i).2.1 + 4)).2.2 ≠ 0 then ([], 0, (qsF n b ((nameAt b i).2.1 + 4)).2.2)
    else (⟨(nameAt b i).1, (w2 (b.drop (nameAt b i).2.1) : Nat), (w2 (b.drop ((nameAt b i).2.1 + 2)) : Nat)⟩ :: (qsF n b ((nameAt b i).2.1 + 4)).1, (qsF n b ((nameAt b i).2.1 + 4)).2.1, 0)
/-- the record whose name ends at a place -/
def recAt (b s : List UInt8) (k : Nat) : Rrc := ⟨s, (w2 (b.drop k) : Nat), (w2 (b.drop (k + 2)) : Nat), (w4 (b.drop (k + 4)) : Nat), (b.drop (k + 10)).take (w2 (b.drop (k + 8)))⟩
def rsF : Nat → List UInt8 → Nat → List Rrc × Nat × Int
  | 0, _, i => ([], i, 0)
  | n + 1, b, i =>
    if (nameAt b i).2.2 ≠ 0 then ([], 0, (nameAt b i).2.2)
    else if b.length < (nameAt b i).2.1 + 10 then ([], 0, 2)
    else if b.length < (nameAt b i).2.1 + 10 + w2 (b.drop ((nameAt b i).2.1 + 8)) then ([], 0, 2)
    else if (rsF n b ((nameAt b i).2.1 + 10 + w2 (b.drop ((nameAt b i).2.1 + 8)))).2.2 ≠ 0 then ([], 0, (rsF n b ((nameAt b i).2.1 + 10 + w2 (b.drop ((nameAt b i).2.1 + 8)))).2.2)
    else (recAt b (nameAt b i).1 (nameAt b i).2.1 :: (rsF n b ((nameAt b i).2.1 + 10 + w2 (b.drop ((nameAt b i).2.1 + 8)))).1, (rsF n b ((nameAt b i).2.1 + 10 + w2 (b.drop ((nameAt b i).2.1 + 8)))).2.1, 0)
/-- the end of parsing: all lists are there -/
def ended (b : List UInt8) (p : Pck) (i : Nat) : Pck × Int := if i ≠ b.length then (none, 3) else if ¬ right p then (none, 1) else (p, 0)
def parse (b : List UInt8) : Pck × Int :=
  if b.length < 12 then (none, 2) else if 65535 < b.length then (none, 4)
  else
    let q := qsF (w2 (b.drop 4)) b 12
    if q.2.2 ≠ 0 then (none, q.2.2) else
    let x := rsF (w2 (b.drop 6)) b q.2.1
    if x.2.2 ≠ 0 then (none, x.2.2) else
    let y := rsF (w2 (b.drop 8)) b x.2.1
    if y.2.2 ≠ 0 then (none, y.2.2) else
    let z := rsF (w2 (b.drop 10)) b y.2.1
    if z.2.2 ≠ 0 then (none, z.2.2) else ended b ⟨(w2 b : Nat), (w2 (b.drop 2) : Nat), q.1, x.1, y.1, z.1⟩ z.2.1
theorem qs_there {b rest : List UInt8} : ∀ {l : List Qst} (i : Nat), (∀ q ∈ l, rightQ q) → b.drop i = qsb l ++ rest → i ≤ b.length → qsF l.length b i = (l, i + (qsb l).length, 0)
  | [], i, _, _, _ => rfl
  | q :: l, i, h, hd, hi => by
    obtain ⟨h1, h2, h3⟩ := h q (by simp)
    have e0 : qsb (q :: l) = q.name ++ (b2 q.typ.toNat ++ (b2 q.cls.toNat ++ qsb l)) := by
      show qb q ++ qsb l = _
      unfold qb
      simp only [List.append_assoc]
    have hd' : b.drop i = q.name ++ (b2 q.typ.toNat ++ (b2 q.cls.toNat ++ (qsb l ++ rest))) := by rw [hd, e0]; simp only [List.append_assoc]
    have d1 := drop_more hd'
    have d2 := drop_more d1
    have d3 := drop_more d2
    rw [b2_len] at d2 d3
    have hlen := congrArg List.length d1
    rw [List.length_drop, List.length_append, List.length_append, b2_len, b2_len] at hlen
    have hlen0 := congrArg List.length hd'
    rw [List.length_drop, List.length_append] at hlen0
    have hn := name_here h1 hd' hi
    have ih := qs_there (b := b) (rest := rest) (l := l) (i + q.name.length + 2 + 2) (fun x hx => h x (by simp [hx])) d3 (by omega)
    show qsF (l.length + 1) b i = _
    unfold qsF
    rw [hn]
    simp only [ne_eq, not_true_eq_false, if_false]
    rw [if_neg (by omega), show i + q.name.length + 4 = i + q.name.length + 2 + 2 by omega, ih]
    simp only [not_true_eq_false, if_false]
    rw [d1, d2, w2_b2 (by have := h2.2; omega), w2_b2 (by have := h3.2; omega)]
    have t1 : ((q.typ.toNat : Nat) : Int) = q.typ := by have := h2.1; omega
    have t2 : ((q.cls.toNat : Nat) : Int) = q.cls := by have := h3.1; omega
    rw [t1, t2, e0]
    simp only [List.length_append, b2_len]
    congr 2
    omega
/-- a record as it is parsed: its name may be the question's -/
def back (qs : List Qst) (r : Rrc) : Rrc := match qs with | [] => r | q :: _ => if Lab.same r.name q.name = true then ⟨q.name, r.typ, r.cls, r.ttl, r.data⟩ else r
/-- bytes in which the first question's name stands at its place -/
def Stands (b : List UInt8) (qs : List Qst) : Prop := match qs with | [] => True | q :: _ => Lab.right q.name = true ∧ ∃ rest, b.drop 12 = q.name ++ rest
theorem rec_name {b rest : List UInt8} {qs : List Qst} {r : Rrc} {i : Nat} (hs : Stands b qs) (hr : rightR r) (hd : b.drop i = nmb qs r ++ rest) (h12 : qs ≠ [] → 12 < i) (hi : i ≤ b.length) :
    nameAt b i = ((back qs r).name, i + (nmb qs r).length, 0) := by
  cases qs with
  | nil => exact name_here hr.1 hd hi
  | cons q l =>
    obtain ⟨h1, rest2, h2⟩ := hs
    unfold nmb asked at hd ⊢
    unfold back
    by_cases hc : Lab.same r.name q.name = true
    · simp only [hc, if_true] at hd ⊢
      exact name_there h1 hd (by decide) (by decide) (h12 (by simp)) h2 hi
    · simp only [hc, if_false] at hd ⊢
      exact name_here hr.1 hd hi
theorem rs_there {b rest : List UInt8} {qs : List Qst} (hs : Stands b qs) : ∀ {l : List Rrc} (i : Nat), (∀ r ∈ l, rightR r) → b.drop i = rsb qs l ++ rest → (qs ≠ [] → 12 < i) → i ≤ b.length → rsF l.length b i = (l.map (back qs), i + (rsb qs l).length, 0)
  | [], i, _, _, _, _ => rfl
  | r :: l, i, h, hd, h12, hi => by
    have hr := h r (by simp)
    have hr0 := hr
    obtain ⟨_, h2, h3, h4, h5, h6⟩ := hr0
    have e0 : rsb qs (r :: l) = nmb qs r ++ (b2 r.typ.toNat ++ (b2 r.cls.toNat ++ (b4 r.ttl.toNat ++ (b2 r.data.length ++ (r.data ++ rsb qs l))))) := by
      show rb qs r ++ rsb qs l = _
      unfold rb
      simp only [List.append_assoc]
    have hd' : b.drop i = nmb qs r ++ (b2 r.typ.toNat ++ (b2 r.cls.toNat ++ (b4 r.ttl.toNat ++ (b2 r.data.length ++ (r.data ++ (rsb qs l ++ rest)))))) := by rw [hd, e0]; simp only [List.append_assoc]
    have d1 := drop_more hd'
    have d2 := drop_more d1
    have d3 := drop_more d2
    have d4 := drop_more d3
    have d5 := drop_more d4
    have d6 := drop_more d5
    have hn := rec_name hs hr hd' h12 hi
    obtain ⟨k, hk⟩ : ∃ k, i + (nmb qs r).length = k := ⟨_, rfl⟩
    rw [hk] at d1 d2 d3 d4 d5 d6 hn
    simp only [b2_len, b4_len] at d2 d3 d4 d5 d6
    have hlen := congrArg List.length d1
    simp only [List.length_drop, List.length_append, b2_len, b4_len] at hlen
    have hkb : k ≤ b.length := by
      have h0 := congrArg List.length hd'
      simp only [List.length_drop, List.length_append, b2_len, b4_len] at h0
      omega
    have w8 : w2 (b.drop (k + 8)) = r.data.length := by rw [show k + 8 = k + 2 + 2 + 4 by omega, d4, w2_b2 (by omega)]
    have ih := rs_there hs (b := b) (rest := rest) (l := l) (k + 2 + 2 + 4 + 2 + r.data.length) (fun x hx => h x (by simp [hx])) d6 (fun hq => by have := h12 hq; omega) (by omega)
    show rsF (l.length + 1) b i = _
    unfold rsF
    rw [hn]
    simp only [ne_eq, not_true_eq_false, if_false]
    rw [w8, if_neg (by omega), if_neg (by omega), show k + 10 + r.data.length = k + 2 + 2 + 4 + 2 + r.data.length by omega, ih]
    simp only [not_true_eq_false, if_false]
    have er : recAt b (back qs r).name k = back qs r := by
      unfold recAt
      rw [w8, d1, d2, show k + 4 = k + 2 + 2 by omega, d3, show k + 10 = k + 2 + 2 + 4 + 2 by omega, d5, List.take_left, w2_b2 (by have := h2.2; omega), w2_b2 (by have := h3.2; omega), w4_b4 (by omega)]
      have t1 : ((r.typ.toNat : Nat) : Int) = r.typ := by have := h2.1; omega
      have t2 : ((r.cls.toNat : Nat) : Int) = r.cls := by have := h3.1; omega
      have t3 : ((r.ttl.toNat : Nat) : Int) = r.ttl := by omega
      rw [t1, t2, t3]
      unfold back
      cases qs with
      | nil => rfl
      | cons q l => simp only; split <;> rfl
    rw [er, e0]
    simp only [List.length_append, b2_len, b4_len, List.map_cons]
    congr 2
    omega
theorem right_back {qs : List Qst} (hq : ∀ q ∈ qs, rightQ q) {r : Rrc} (h : rightR r) : rightR (back qs r) := by
  cases qs with
  | nil => exact h
  | cons q l =>
    unfold back
    simp only
    split
    · exact ⟨(hq q (by simp)).1, h.2⟩
    · exact h
/-- what is built whole is parsed as it was, but for names' letters -/
theorem parse_whole {p : Pck} (h : right p) (hl : (whole p).length ≤ 65535) : parse (whole p) = (⟨p.id, p.flags, p.qs, p.an.map (back p.qs), p.au.map (back p.qs), p.mo.map (back p.qs)⟩, 0) := by
  obtain ⟨h1, h2, ⟨h3, h3'⟩, ⟨h4, h4'⟩, ⟨h5, h5'⟩, ⟨h6, h6'⟩⟩ := h
  obtain ⟨b, hb⟩ : ∃ b, whole p = b := ⟨_, rfl⟩
  have e : b = b2 p.id.toNat ++ (b2 p.flags.toNat ++ (b2 p.qs.length ++ (b2 p.an.length ++ (b2 p.au.length ++ (b2 p.mo.length ++ (qsb p.qs ++ (rsb p.qs p.an ++ (rsb p.qs p.au ++ (rsb p.qs p.mo ++ []))))))))) := by
    rw [← hb]
    unfold whole hd all
    rw [rsb_app, rsb_app]
    simp only [List.append_assoc, List.append_nil]
  rw [hb] at hl ⊢
  have d0 : b.drop 0 = b2 p.id.toNat ++ (b2 p.flags.toNat ++ (b2 p.qs.length ++ (b2 p.an.length ++ (b2 p.au.length ++ (b2 p.mo.length ++ (qsb p.qs ++ (rsb p.qs p.an ++ (rsb p.qs p.au ++ (rsb p.qs p.mo ++ []))))))))) := e
  have d2 := drop_more d0
  have d4 := drop_more d2
  have d6 := drop_more d4
  have d8 := drop_more d6
  have d10 := drop_more d8
  have d12 := drop_more d10
  simp only [b2_len, Nat.zero_add] at d2 d4 d6 d8 d10 d12
  have hblen : b.length = 12 + ((qsb p.qs).length + ((rsb p.qs p.an).length + ((rsb p.qs p.au).length + (rsb p.qs p.mo).length))) := by
    rw [e]
    simp only [List.length_append, b2_len, List.length_nil]
    omega
  have hst : Stands b p.qs := by
    cases hq : p.qs with
    | nil => exact True.intro
    | cons q l =>
      rw [hq] at d12 h3'
      have d13 : b.drop 12 = q.name ++ (b2 q.typ.toNat ++ (b2 q.cls.toNat ++ (qsb l ++ (rsb (q :: l) p.an ++ (rsb (q :: l) p.au ++ (rsb (q :: l) p.mo ++ [])))))) := by
        rw [d12]
        show (qb q ++ qsb l) ++ _ = _
        unfold qb
        simp only [List.append_assoc]
      exact ⟨(h3' q (by simp)).1, _, d13⟩
  have d12' : b.drop 12 = qsb p.qs ++ (rsb p.qs p.an ++ (rsb p.qs p.au ++ (rsb p.qs p.mo ++ []))) := d12
  have dan := drop_more d12'
  have dau := drop_more dan
  have dmo := drop_more dau
  have nq : p.qs ≠ [] → 12 < 12 + (qsb p.qs).length := fun hne => by
    cases hq : p.qs with
    | nil => exact absurd hq hne
    | cons q l =>
      show 12 < 12 + (qb q ++ qsb l).length
      unfold qb
      simp only [List.length_append, b2_len]
      omega
  have q1 := qs_there (b := b) 12 h3' d12' (by omega)
  have x1 := rs_there hst (b := b) (12 + (qsb p.qs).length) h4' dan nq (by omega)
  have y1 := rs_there hst (b := b) (12 + (qsb p.qs).length + (rsb p.qs p.an).length) h5' dau (fun hne => by have := nq hne; omega) (by omega)
  have z1 := rs_there hst (b := b) (12 + (qsb p.qs).length + (rsb p.qs p.an).length + (rsb p.qs p.au).length) h6' dmo (fun hne => by have := nq hne; omega) (by omega)
  have w0 : w2 b = p.id.toNat := by rw [show b = b.drop 0 from rfl, d0, w2_b2 (by have := h1.2; omega)]
  have v2 : w2 (b.drop 2) = p.flags.toNat := by rw [d2, w2_b2 (by have := h2.2; omega)]
  have v4 : w2 (b.drop 4) = p.qs.length := by rw [d4, w2_b2 (by omega)]
  have v6 : w2 (b.drop 6) = p.an.length := by rw [d6, w2_b2 (by omega)]
  have v8 : w2 (b.drop 8) = p.au.length := by rw [d8, w2_b2 (by omega)]
  have v10 : w2 (b.drop 10) = p.mo.length := by rw [d10, w2_b2 (by omega)]
  have t1 : ((p.id.toNat : Nat) : Int) = p.id := by have := h1.1; omega
  have t2 : ((p.flags.toNat : Nat) : Int) = p.flags := by have := h2.1; omega
  have bk : ∀ {l : List Rrc}, l.length ≤ 100 → (∀ r ∈ l, rightR r) → rightL (l.map (back p.qs)) := fun hl hr => ⟨by rw [List.length_map]; exact hl, fun r hm => by
    obtain ⟨x, hx, rfl⟩ := List.mem_map.1 hm
    exact right_back h3' (hr x hx)⟩
  have hr2 : right ⟨p.id, p.flags, p.qs, p.an.map (back p.qs), p.au.map (back p.qs), p.mo.map (back p.qs)⟩ := ⟨h1, h2, ⟨h3, h3'⟩, bk h4 h4', bk h5 h5', bk h6 h6'⟩
  unfold parse
  rw [if_neg (by omega), if_neg (by omega)]
  simp only
  rw [v4, q1]
  simp only [ne_eq, not_true_eq_false, if_false]
  rw [v6, x1]
  simp only [not_true_eq_false, if_false]
  rw [v8, y1]
  simp only [not_true_eq_false, if_false]
  rw [v10, z1]
  simp only [not_true_eq_false, if_false]
  unfold ended
  rw [w0, v2, t1, t2, if_neg (by simp only [ne_eq, Classical.not_not]; omega), if_neg (Classical.not_not.2 hr2)]
end Pk
end Go.Proofs.Ytbioblknhfmelaa

namespace Go.Proofs.Ytbioblknhfmelaa
set_option linter.unusedVariables false
set_option linter.unusedSimpArgs false
namespace Pk
theorem fits_ge (qs : List Qst) : ∀ (l : List Rrc) (n k : Nat), k ≤ l.length → (rsb qs (l.take k)).length ≤ n → k ≤ fits qs n l
  | _, _, 0, _, _ => Nat.zero_le _
  | [], _, k + 1, h, _ => by simp at h
  | r :: l, n, k + 1, h, h2 => by
    rw [List.take_succ_cons, rsb_cons, List.length_append] at h2
    simp only [List.length_cons] at h
    unfold fits
    rw [if_pos (by omega)]
    have := fits_ge qs l (n - (rb qs r).length) k (by omega) (by omega)
    omega
theorem first_kept {p : Pck} {n m : Int} (hn : ¬ n < 12 + (qsb p.qs).length) (hm : ¬ m < 12 + (qsb p.qs).length) (h : n ≤ m) (h2 : ((whole (kept p m)).length : Int) ≤ n) : kept p n = kept p m := by
  have h3 : fits p.qs (room p n) (all p) = fits p.qs (room p m) (all p) := by
    refine Nat.le_antisymm (fits_mono _ _ _ _ (by unfold room; omega)) (fits_ge _ _ _ _ (fits_le _ _ _) ?_)
    rw [whole_len] at h2
    unfold kept at h2
    rw [all_first] at h2
    have h4 : ((12 + (qsb p.qs).length + (rsb p.qs ((all p).take (fits p.qs (room p m) (all p)))).length : Nat) : Int) ≤ n := h2
    unfold room at *
    omega
  unfold kept
  rw [h3]
/-- what stands behind the head -/
theorem whole_drop (p : Pck) : (whole p).drop 12 = qsb p.qs ++ rsb p.qs (all p) := by
  unfold whole
  exact List.drop_left' (hd_len p)
theorem rsb_take_le (qs : List Qst) (l : List Rrc) {j k : Nat} (h : j ≤ k) : ∃ r, rsb qs (l.take k) = rsb qs (l.take j) ++ r := by
  have e : l.take k = l.take j ++ (l.take k).drop j := by
    have h1 := List.take_append_drop j (l.take k)
    rw [List.take_take, Nat.min_eq_left h] at h1
    exact h1.symm
  exact ⟨rsb qs ((l.take k).drop j), by rw [← rsb_app, ← e]⟩
theorem whole_first_len (p : Pck) {j k : Nat} (h : j ≤ k) : (whole (first p j)).length ≤ (whole (first p k)).length := by
  rw [whole_len, whole_len, all_first, all_first]
  obtain ⟨r, hr⟩ := rsb_take_le p.qs (all p) h
  show 12 + (qsb p.qs).length + (rsb p.qs ((all p).take j)).length ≤ 12 + (qsb p.qs).length + (rsb p.qs ((all p).take k)).length
  rw [hr, List.length_append]
  omega
/-- behind the head the shorter one is the beginning of the longer one -/
theorem whole_begins (p : Pck) {j k : Nat} (h : j ≤ k) : (whole (first p j)).drop 12 = ((whole (first p k)).take (whole (first p j)).length).drop 12 := by
  rw [List.drop_take, whole_drop, whole_drop, all_first, all_first]
  obtain ⟨r, hr⟩ := rsb_take_le p.qs (all p) h
  have e : (whole (first p j)).length - 12 = (qsb p.qs ++ rsb p.qs ((all p).take j)).length := by
    rw [whole_len, all_first]
    show 12 + (qsb p.qs).length + (rsb p.qs ((all p).take j)).length - 12 = _
    rw [List.length_append]
    omega
  rw [e]
  show qsb p.qs ++ rsb p.qs ((all p).take j) = (qsb p.qs ++ rsb p.qs ((all p).take k)).take _
  rw [hr, ← List.append_assoc, List.take_left]
theorem kept_mono {p : Pck} {n m : Int} (h : n ≤ m) : fits p.qs (room p n) (all p) ≤ fits p.qs (room p m) (all p) := fits_mono _ _ _ _ (by unfold room; omega)
theorem name_le {s : List UInt8} (h : Lab.right s = true) : s.length ≤ 255 := by
  obtain ⟨l, ol, rfl⟩ := Lab.right_iff.1 h
  exact ol.2
theorem qsb_le {l : List Qst} (h : ∀ q ∈ l, rightQ q) : (qsb l).length ≤ l.length * 259 := by
  induction l with
  | nil => exact Nat.le_refl _
  | cons q l ih =>
    have h1 := ih fun x hx => h x (by simp [hx])
    have h2 := name_le (h q (by simp)).1
    show (qb q ++ qsb l).length ≤ _
    unfold qb
    simp only [List.length_append, b2_len, List.length_cons]
    omega
theorem same_comm (a b : List UInt8) : Lab.same a b = Lab.same b a := by
  unfold Lab.same
  rw [Bool.and_comm (Lab.right a)]
  congr 1
  by_cases h : Lab.lower a = Lab.lower b
  · rw [decide_eq_true h, decide_eq_true h.symm]
  · rw [decide_eq_false h, decide_eq_false fun e => h e.symm]
theorem same_self {a : List UInt8} (h : Lab.right a = true) : Lab.same a a = true := by unfold Lab.same; rw [h]; simp
/-- are two records the same but for letters of names -/
def near (x y : Rrc) : Prop := Lab.same x.name y.name = true ∧ x.typ = y.typ ∧ x.cls = y.cls ∧ x.ttl = y.ttl ∧ x.data = y.data
theorem near_back {qs : List Qst} {r : Rrc} (h : rightR r) : near (back qs r) r := by
  cases qs with
  | nil => exact ⟨same_self h.1, rfl, rfl, rfl, rfl⟩
  | cons q l =>
    unfold back
    simp only
    split
    · rename_i hc
      exact ⟨by rw [same_comm]; exact hc, rfl, rfl, rfl, rfl⟩
    · exact ⟨same_self h.1, rfl, rfl, rfl, rfl⟩
/-- what is parsed of what was built -/
def again (p : Pck) (n : Int) : Pck := ⟨p.id, (kept p n).flags, p.qs, (kept p n).an.map (back p.qs), (kept p n).au.map (back p.qs), (kept p n).mo.map (back p.qs)⟩
theorem parse_build {p : Pck} {n : Int} (h : right p) (h2 : ¬ n < 12 + (qsb p.qs).length) (hn : n ≤ 65535) : parse (whole (kept p n)) = (again p n, 0) := by
  have h3 := kept_len h2
  exact parse_whole (p := kept p n) (right_first h _) (by omega)
def begins (l all : List Rrc) : Prop := l.length ≤ all.length ∧ ∀ (i : Nat) (x y : Rrc), l[i]? = some x → all[i]? = some y → near x y
theorem begins_back {qs : List Qst} {l : List Rrc} (h : ∀ r ∈ l, rightR r) (k : Nat) : begins ((l.take k).map (back qs)) l := by
  refine ⟨by rw [List.length_map, List.length_take]; omega, fun i x y hx hy => ?_⟩
  rw [List.getElem?_map, List.getElem?_take] at hx
  split at hx
  · rw [hy] at hx
    simp only [Option.map_some, Option.some.injEq] at hx
    subst hx
    exact near_back (h y (List.mem_of_getElem? hy))
  · simp at hx
theorem again_parts {p : Pck} (n : Int) (h : right p) : begins (again p n).an p.an ∧ begins (again p n).au p.au ∧ begins (again p n).mo p.mo := ⟨begins_back h.2.2.2.1.2 _, begins_back h.2.2.2.2.1.2 _, begins_back h.2.2.2.2.2.2 _⟩
/-- all records are there, or the flag is -/
theorem again_flags (p : Pck) (n : Int) : ((again p n).an.length = p.an.length ∧ (again p n).au.length = p.au.length ∧ (again p n).mo.length = p.mo.length → (again p n).flags = p.flags) ∧
    (¬ ((again p n).an.length = p.an.length ∧ (again p n).au.length = p.au.length ∧ (again p n).mo.length = p.mo.length) → (again p n).flags = cutFlag p.flags) := by
  obtain ⟨k, hk⟩ : ∃ k, fits p.qs (room p n) (all p) = k := ⟨_, rfl⟩
  have e : kept p n = first p k := by unfold kept; rw [hk]
  have hl : (all p).length = p.an.length + (p.au.length + p.mo.length) := by simp [all]
  have l1 : (again p n).an.length = min k p.an.length := by
    show ((kept p n).an.map _).length = _
    rw [List.length_map, e]
    exact List.length_take ..
  have l2 : (again p n).au.length = min (k - p.an.length) p.au.length := by
    show ((kept p n).au.map _).length = _
    rw [List.length_map, e]
    exact List.length_take ..
  have l3 : (again p n).mo.length = min (k - p.an.length - p.au.length) p.mo.length := by
    show ((kept p n).mo.map _).length = _
    rw [List.length_map, e]
    exact List.length_take ..
  have f : (again p n).flags = if k < (all p).length then cutFlag p.flags else p.flags := by
    show (kept p n).flags = _
    rw [e]
    rfl
  rw [l1, l2, l3, f]
  constructor
  · rintro ⟨h1, h2, h3⟩
    rw [if_neg (by omega)]
  · intro h
    rw [if_pos (by omega)]
/-- a name behind bytes, and a pointer to it behind that -/
theorem names_law {a s : List UInt8} (ha : a.length ≤ 300) (h : Lab.right s = true) :
    nameAt (a ++ s ++ [UInt8.ofNat (192 + a.length / 256), UInt8.ofNat (a.length % 256)]) a.length = (s, a.length + s.length, 0) ∧
    nameAt (a ++ s ++ [UInt8.ofNat (192 + a.length / 256), UInt8.ofNat (a.length % 256)]) ((a.length + s.length : Nat) : Int) = (s, a.length + s.length + 2, 0) := by
  have hs : 1 ≤ s.length := by
    obtain ⟨l, ol, rfl⟩ := Lab.right_iff.1 h
    rw [Lab.names_len]
    omega
  have d1 : (a ++ s ++ [UInt8.ofNat (192 + a.length / 256), UInt8.ofNat (a.length % 256)]).drop a.length = s ++ [UInt8.ofNat (192 + a.length / 256), UInt8.ofNat (a.length % 256)] := by
    rw [List.append_assoc, List.drop_left]
  have d2 := drop_more d1
  have e1 : (UInt8.ofNat (192 + a.length / 256)).toNat = 192 + a.length / 256 := by rw [UInt8.toNat_ofNat']; omega
  have e2 : (UInt8.ofNat (a.length % 256)).toNat = a.length % 256 := by rw [UInt8.toNat_ofNat']; omega
  exact ⟨name_here h d1 (by simp), name_there h (rest := []) d2 (by rw [e1]; omega) (by rw [e1, e2]; omega) (by omega) d1 (by simp)⟩
end Pk
end Go.Proofs.Ytbioblknhfmelaa

namespace Go.Proofs.Ytbioblknhfmelaa
set_option linter.unusedVariables false
set_option linter.unusedSimpArgs false
namespace Pk
def lst (p : Pck) : Nat → List Rrc
  | 0 => p.an
  | 1 => p.au
  | _ => p.mo
def off (p : Pck) : Nat → Nat
  | 0 => 0
  | 1 => p.an.length
  | 2 => p.an.length + p.au.length
  | _ => p.an.length + p.au.length + p.mo.length
/-- how many records of a list are among the first ones -/
def num (p : Pck) (t : Nat) : Nat → Nat
  | 0 => (p.an.take t).length
  | 1 => (p.au.take (t - p.an.length)).length
  | _ => (p.mo.take (t - p.an.length - p.au.length)).length
theorem all_length (p : Pck) : (all p).length = p.an.length + p.au.length + p.mo.length := by unfold all; simp; omega
theorem off_all (p : Pck) : off p 3 = (all p).length := by rw [all_length]; rfl
theorem three {j : Nat} (h : j < 3) : j = 0 ∨ j = 1 ∨ j = 2 := by omega
theorem off_next (p : Pck) {j : Nat} (h : j < 3) : off p (j + 1) = off p j + (lst p j).length := by
  rcases three h with rfl | rfl | rfl <;> simp [off, lst]
theorem all_at {p : Pck} {j k : Nat} {r : Rrc} (hj : j < 3) (h : (lst p j)[k]? = some r) : (all p)[off p j + k]? = some r := by
  have hk := (List.getElem?_eq_some_iff.1 h).1
  unfold all
  rcases three hj with rfl | rfl | rfl
  · simp only [lst, off, Nat.zero_add] at *
    rw [List.getElem?_append_left hk, h]
  · simp only [lst, off] at *
    rw [List.getElem?_append_right (by omega), Nat.add_sub_cancel_left, List.getElem?_append_left hk, h]
  · simp only [lst, off] at *
    rw [List.getElem?_append_right (by omega), List.getElem?_append_right (by omega), show p.an.length + p.au.length + k - p.an.length - p.au.length = k by omega, h]
theorem num_zero (p : Pck) (j : Nat) (hj : j < 3) : num p 0 j = 0 := by rcases three hj with rfl | rfl | rfl <;> simp [num]
theorem num_same (p : Pck) {j k : Nat} (hj : j < 3) (hk : k < (lst p j).length) : num p (off p j + k + 1) j = num p (off p j + k) j + 1 := by
  rcases three hj with rfl | rfl | rfl <;> simp only [num, off, lst, List.length_take] at * <;> omega
theorem num_other (p : Pck) {i j k : Nat} (hi : i < 3) (hj : j < 3) (hne : i ≠ j) (hk : k < (lst p j).length) : num p (off p j + k + 1) i = num p (off p j + k) i := by
  rcases three hj with rfl | rfl | rfl <;> rcases three hi with rfl | rfl | rfl <;> simp only [num, off, lst, List.length_take] at * <;> omega
theorem num_le (p : Pck) (t : Nat) {j : Nat} (hj : j < 3) : num p t j ≤ (lst p j).length := by
  rcases three hj with rfl | rfl | rfl <;> simp only [num, lst, List.length_take] <;> omega
/-- so many records are taken; none is taken any more -/
structure Bst (p : Pck) (limit : Int) (t : Nat) (cut : Bool) : Prop where
  fit : 12 + ((qsb p.qs).length : Int) + ((rsb p.qs ((all p).take t)).length : Int) ≤ limit
  le : t ≤ (all p).length
  stop : cut = true → ∃ r, (all p)[t]? = some r ∧ limit < 12 + ((qsb p.qs).length : Int) + ((rsb p.qs ((all p).take t)).length : Int) + ((rb p.qs r).length : Int)
theorem take_more' {α : Type} {l : List α} {k : Nat} {x : α} (h : l[k]? = some x) : l.take (k + 1) = l.take k ++ [x] := by
  rw [List.take_add_one, h]; rfl
theorem rsb_more {p : Pck} {t : Nat} {r : Rrc} (h : (all p)[t]? = some r) : rsb p.qs ((all p).take (t + 1)) = rsb p.qs ((all p).take t) ++ rb p.qs r := by
  rw [take_more' h, rsb_app]
  simp [rsb]
theorem Bst.start {p : Pck} {limit : Int} (h : ¬ limit < 12 + (qsb p.qs).length) : Bst p limit 0 false := ⟨by simp [rsb]; omega, Nat.zero_le _, fun h => by cases h⟩
theorem Bst.take {p : Pck} {limit : Int} {t : Nat} {r : Rrc} (h : Bst p limit t false) (hr : (all p)[t]? = some r) (hf : ¬ limit < 12 + ((qsb p.qs).length : Int) + ((rsb p.qs ((all p).take t)).length : Int) + ((rb p.qs r).length : Int)) : Bst p limit (t + 1) false :=
  ⟨by rw [rsb_more hr, List.length_append]; push_cast; omega, (List.getElem?_eq_some_iff.1 hr).1, fun h => by cases h⟩
theorem Bst.cut {p : Pck} {limit : Int} {t : Nat} {r : Rrc} (h : Bst p limit t false) (hr : (all p)[t]? = some r) (hf : limit < 12 + ((qsb p.qs).length : Int) + ((rsb p.qs ((all p).take t)).length : Int) + ((rb p.qs r).length : Int)) : Bst p limit t true :=
  ⟨h.fit, h.le, fun _ => ⟨r, hr, hf⟩⟩
def bfl (cut : Bool) (f : Int) : Int := if cut = true then cutFlag f else f
theorem rsb_take_len (qs : List Qst) (l : List Rrc) {j k : Nat} (h : j ≤ k) : (rsb qs (l.take j)).length ≤ (rsb qs (l.take k)).length := by
  obtain ⟨r, hr⟩ := rsb_take_le qs l h
  rw [hr, List.length_append]
  omega
theorem Bst.ends {p : Pck} {limit : Int} {t : Nat} {c : Bool} (h : Bst p limit t c) (hc : c = false → t = (all p).length) : kept p limit = first p t ∧ (first p t).flags = bfl c p.flags := by
  have hroom : (rsb p.qs ((all p).take t)).length ≤ room p limit := by have := h.fit; unfold room; omega
  have hge := fits_ge p.qs (all p) (room p limit) t h.le hroom
  cases c with
  | false =>
    have ht := hc rfl
    have hle := fits_le p.qs (all p) (room p limit)
    refine ⟨by unfold kept; rw [show fits p.qs (room p limit) (all p) = t by omega], ?_⟩
    show (if t < (all p).length then _ else _) = _
    rw [if_neg (by omega)]
    rfl
  | true =>
    obtain ⟨r, hr, hlong⟩ := h.stop rfl
    have hlt := (List.getElem?_eq_some_iff.1 hr).1
    have hf := fits_room p.qs (all p) (room p limit)
    have heq : fits p.qs (room p limit) (all p) = t := by
      by_cases hgt : t < fits p.qs (room p limit) (all p)
      · have h1 := rsb_take_len p.qs (all p) (show t + 1 ≤ fits p.qs (room p limit) (all p) from hgt)
        rw [rsb_more hr, List.length_append] at h1
        have h0 := h.fit
        have hrm : ((room p limit : Nat) : Int) ≤ limit - 12 - (qsb p.qs).length := by unfold room; omega
        omega
      · omega
    refine ⟨by unfold kept; rw [heq], ?_⟩
    show (if t < (all p).length then _ else _) = _
    rw [if_pos hlt]
    rfl
/-- a packet's bytes as they are laid one behind the other -/
theorem whole_laid (p : Pck) (t : Nat) : whole (first p t) = [] ++ b2 p.id.toNat ++ b2 (first p t).flags.toNat ++ b2 p.qs.length ++ b2 (num p t 0) ++ b2 (num p t 1) ++ b2 (num p t 2) ++ (qsb p.qs ++ rsb p.qs ((all p).take t)) := by
  unfold whole
  rw [all_first]
  unfold hd
  simp only [List.append_assoc, List.nil_append]
  rfl
theorem lst_right {p : Pck} (h : right p) {j : Nat} (hj : j < 3) : rightL (lst p j) := by
  obtain ⟨_, _, _, h1, h2, h3⟩ := h
  rcases three hj with rfl | rfl | rfl
  · exact h1
  · exact h2
  · exact h3
theorem lst_mem {p : Pck} {j : Nat} (hj : j < 3) {r : Rrc} (h : r ∈ lst p j) : r ∈ p.an ∨ r ∈ p.au ∨ r ∈ p.mo := by
  rcases three hj with rfl | rfl | rfl
  · exact .inl h
  · exact .inr (.inl h)
  · exact .inr (.inr h)
theorem rb_le {qs : List Qst} {r : Rrc} (h : rightR r) : (rb qs r).length ≤ 1300 := by
  have h1 := name_le h.1
  have h2 := h.2.2.2.2.2
  unfold rb nmb
  simp only [List.length_append, b2_len, b4_len]
  split
  · simp; omega
  · omega
theorem rb_ge (qs : List Qst) (r : Rrc) : 10 ≤ (rb qs r).length := by
  unfold rb
  simp only [List.length_append, b2_len, b4_len]
  omega
theorem rsb_le {qs : List Qst} : ∀ {l : List Rrc}, (∀ r ∈ l, rightR r) → (rsb qs l).length ≤ l.length * 1300
  | [], _ => by simp [rsb]
  | r :: l, h => by
    have h1 := rb_le (qs := qs) (h r (by simp))
    have h2 := rsb_le (qs := qs) (l := l) (fun x hx => h x (by simp [hx]))
    rw [rsb_cons, List.length_append, List.length_cons]
    omega
theorem rsb_taken_le {p : Pck} (h : right p) (t : Nat) : (rsb p.qs ((all p).take t)).length ≤ 390000 := by
  have hm : ∀ r ∈ (all p).take t, rightR r := fun r hr => by
    have := List.mem_of_mem_take hr
    unfold all at this
    rcases List.mem_append.1 this with h1 | h1
    · exact h.2.2.2.1.2 r h1
    · rcases List.mem_append.1 h1 with h1 | h1
      · exact h.2.2.2.2.1.2 r h1
      · exact h.2.2.2.2.2.2 r h1
  have h1 := rsb_le (qs := p.qs) hm
  have h2 : ((all p).take t).length ≤ 300 := by
    rw [List.length_take, all_length]
    have := h.2.2.2.1.1
    have := h.2.2.2.2.1.1
    have := h.2.2.2.2.2.1
    omega
  omega
end Pk
end Go.Proofs.Ytbioblknhfmelaa

