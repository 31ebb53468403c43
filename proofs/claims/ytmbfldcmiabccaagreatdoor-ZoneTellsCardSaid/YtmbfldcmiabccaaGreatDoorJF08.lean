/- YMem BMath BMath2 BMem ZMath ZMath2 (merged). -/
import Derived.Laws.StructEq
import Derived.Laws.Concat
import Derived.Laws.Strings2
import Derived.Laws.Strings3
import Derived.BigQuiet
import Derived.Deep.DeepCutAuto
import Derived.Lib.Hide
import Derived.Test.YtmbfldcmiabccaaGreatDoorJF00
import Derived.Test.YtmbfldcmiabccaaGreatDoorJF05
import Derived.Test.YtmbfldcmiabccaaGreatDoorJF07
namespace Go.Proofs.YtmbfldcmiabccaaGreatDoor
set_option linter.unusedVariables false
set_option linter.unusedSimpArgs false
open Go.RowKit
/-- a service's cells -/
def yc (x : Svc) : List Value := [.string (strB x.name), .string (strB x.proto), .int .i64 x.port, .int .i64 x.prio, .int .i64 x.wt, .bool x.well]
def YC (l : List Svc) : List Value := l.flatMap yc
theorem yc_len (x : Svc) : (yc x).length = 6 := rfl
theorem YC_len : ∀ l : List Svc, (YC l).length = l.length * 6
  | [] => rfl
  | x :: r => by
    show (yc x ++ YC r).length = _
    rw [List.length_append, YC_len r, yc_len, List.length_cons]
    omega
theorem YC_append (l m : List Svc) : YC (l ++ m) = YC l ++ YC m := List.flatMap_append
theorem YC_at : ∀ {l : List Svc} {i : Nat} {x : Svc}, l[i]? = some x → ∀ j, j < 6 → (YC l)[i * 6 + j]? = (yc x)[j]?
  | y :: r, 0, x, h, j, hj => by
    obtain rfl : y = x := by simpa using h
    show (yc y ++ YC r)[0 * 6 + j]? = _
    rw [List.getElem?_append_left (by rw [yc_len]; omega), Nat.zero_mul, Nat.zero_add]
  | y :: r, i + 1, x, h, j, hj => by
    show (yc y ++ YC r)[(i + 1) * 6 + j]? = _
    rw [List.getElem?_append_right (by rw [yc_len]; omega), yc_len, show (i + 1) * 6 + j - 6 = i * 6 + j by omega]
    exact YC_at (by simpa using h) j hj
/-- services that are answered -/
def MadeY (l : List Svc) (w : World) (e : Ending) (w' : World) : Prop := (∃ A n c, e = .returned (.slice A n c) ∧ n = l.length ∧ Rd w' w'.heap.size 6 A n (YC l) ∧ n ≤ c ∧ c ≤ 9223372036854775807) ∧ Below w.heap.size w w'
/-- the cells of the service at a place -/
theorem Rd.atY {w : World} {B : Nat} {A : Option Addr} {n : Nat} {l : List Svc} (h : Rd w B 6 A n (YC l)) {k : Nat} (hk : k < n) :
    ∃ b o x, A = some ⟨b, o, none⟩ ∧ b < B ∧ l[k]? = some x ∧ w.cell? ⟨b, o + k * 6, none⟩ = some (.string (strB x.name)) ∧ w.cell? ⟨b, o + k * 6 + 1, none⟩ = some (.string (strB x.proto)) ∧ w.cell? ⟨b, o + k * 6 + 2, none⟩ = some (.int .i64 x.port) ∧ w.cell? ⟨b, o + k * 6 + 3, none⟩ = some (.int .i64 x.prio) ∧ w.cell? ⟨b, o + k * 6 + 4, none⟩ = some (.int .i64 x.wt) ∧ w.cell? ⟨b, o + k * 6 + 5, none⟩ = some (.bool x.well) := by
  have hlen := h.1
  rw [YC_len] at hlen
  have hl : l.length = n := by omega
  obtain ⟨b, o, e, hb, hc⟩ := h.2 (by omega)
  obtain ⟨x, hx⟩ : ∃ x, l[k]? = some x := ⟨_, List.getElem?_eq_getElem (by omega)⟩
  have g : ∀ j, j < 6 → w.cell? ⟨b, o + k * 6 + j, none⟩ = (yc x)[j]? := fun j hj => by
    rw [← YC_at hx j hj, Nat.add_assoc]
    exact hc _ (by rw [YC_len]; omega)
  exact ⟨b, o, x, e, hb, hx, g 0 (by omega), g 1 (by omega), g 2 (by omega), g 3 (by omega), g 4 (by omega), g 5 (by omega)⟩
end Go.Proofs.YtmbfldcmiabccaaGreatDoor

namespace Go.Proofs.YtmbfldcmiabccaaGreatDoor
set_option linter.unusedVariables false
set_option linter.unusedSimpArgs false
namespace Lab
def wire (s : List UInt8) : List UInt8 := UInt8.ofNat s.length :: s
def wires (l : List (List UInt8)) : List UInt8 := l.flatMap wire
def names (l : List (List UInt8)) : List UInt8 := wires l ++ [0]
def okL (s : List UInt8) : Prop := 1 ≤ s.length ∧ s.length ≤ 63
instance (s : List UInt8) : Decidable (okL s) := by unfold okL; infer_instance
def cutF : Nat → List UInt8 → Option (List (List UInt8))
  | 0, _ => none
  | _ + 1, [] => none
  | f + 1, c :: r => if c = 0 then (if r = [] then some [] else none) else if 63 < c.toNat ∨ r.length < c.toNat then none else (cutF f (r.drop c.toNat)).map (r.take c.toNat :: ·)
/-- the labels of bytes that end with them, however many -/
def lab (s : List UInt8) : Option (List (List UInt8)) := cutF s.length s
def cut (s : List UInt8) : Option (List (List UInt8)) := if 255 < s.length then none else lab s
def right (s : List UInt8) : Bool := (cut s).isSome
def labels (s : List UInt8) : List (List UInt8) := (cut s).getD []
theorem pos_of {c : UInt8} (h : c ≠ 0) : 1 ≤ c.toNat := by
  rcases Nat.eq_zero_or_pos c.toNat with h0 | h0
  · exact absurd (UInt8.toNat_inj.1 (by rw [h0]; rfl)) h
  · exact h0
theorem cutF_any : ∀ (f : Nat) (s : List UInt8), s.length ≤ f → ∀ g, s.length ≤ g → cutF f s = cutF g s
  | 0, [], _, 0, _ => rfl
  | 0, [], _, _ + 1, _ => rfl
  | 0, _ :: _, h, _, _ => by simp at h
  | _ + 1, [], _, 0, _ => rfl
  | _ + 1, [], _, _ + 1, _ => rfl
  | f + 1, c :: r, h, 0, h2 => by simp at h2
  | f + 1, c :: r, h, g + 1, h2 => by
    simp only [List.length_cons] at h h2
    unfold cutF
    rw [cutF_any f (r.drop c.toNat) (by rw [List.length_drop]; omega) g (by rw [List.length_drop]; omega)]
theorem lab_nil : lab [] = none := rfl
theorem lab_cons (c : UInt8) (r : List UInt8) : lab (c :: r) = if c = 0 then (if r = [] then some [] else none) else if 63 < c.toNat ∨ r.length < c.toNat then none else (lab (r.drop c.toNat)).map (r.take c.toNat :: ·) := by
  show cutF (r.length + 1) (c :: r) = _
  conv => lhs; unfold cutF
  unfold lab
  rw [cutF_any r.length (r.drop c.toNat) (by rw [List.length_drop]; omega) (r.drop c.toNat).length (Nat.le_refl _)]
theorem ofNat_len {n : Nat} (h : n ≤ 63) : (UInt8.ofNat n).toNat = n := by rw [UInt8.toNat_ofNat']; omega
theorem wire_ne {s : List UInt8} (h : okL s) : UInt8.ofNat s.length ≠ 0 := fun e => by
  have h1 := ofNat_len h.2
  rw [e] at h1
  have := h.1
  simp at h1
  omega
theorem lab_wire {s : List UInt8} (h : okL s) (rest : List UInt8) : lab (wire s ++ rest) = (lab rest).map (s :: ·) := by
  have e := ofNat_len h.2
  show lab (UInt8.ofNat s.length :: (s ++ rest)) = _
  rw [lab_cons, if_neg (wire_ne h), e, if_neg (by rw [List.length_append]; have := h.2; omega), List.drop_left, List.take_left]
theorem lab_wires : ∀ {o : List (List UInt8)}, (∀ s ∈ o, okL s) → ∀ rest, lab (wires o ++ rest) = (lab rest).map (o ++ ·)
  | [], _, rest => by show lab rest = _; cases lab rest <;> rfl
  | s :: o, h, rest => by
    show lab (wire s ++ wires o ++ rest) = _
    rw [List.append_assoc, lab_wire (h s (by simp)), lab_wires (fun x hx => h x (by simp [hx])) rest]
    cases lab rest <;> rfl
theorem lab_names {l : List (List UInt8)} (h : ∀ s ∈ l, okL s) : lab (names l) = some l := by
  unfold names
  rw [lab_wires h]
  show (lab [0]).map _ = _
  rw [lab_cons, if_pos rfl, if_pos rfl]
  simp
theorem cutF_some : ∀ (f : Nat) (s : List UInt8) (l : List (List UInt8)), cutF f s = some l → (∀ x ∈ l, okL x) ∧ names l = s
  | 0, _, _, h => by cases h
  | _ + 1, [], _, h => by cases h
  | f + 1, c :: r, l, h => by
    unfold cutF at h
    split at h
    · rename_i hc
      split at h
      · rename_i hr
        injection h with h
        subst h hc hr
        exact ⟨by simp, rfl⟩
      · cases h
    · rename_i hc
      split at h
      · cases h
      · rename_i hb
        cases hq : cutF f (r.drop c.toNat) with
        | none => rw [hq] at h; cases h
        | some m =>
          rw [hq] at h
          injection h with h
          subst h
          obtain ⟨h1, h2⟩ := cutF_some f _ m hq
          have hlen : (r.take c.toNat).length = c.toNat := by rw [List.length_take]; omega
          have hp := pos_of hc
          refine ⟨fun x hx => ?_, ?_⟩
          · rcases List.mem_cons.1 hx with rfl | hx
            · exact ⟨by omega, by omega⟩
            · exact h1 x hx
          · have hw : wire (r.take c.toNat) = c :: r.take c.toNat := by
              unfold wire
              rw [hlen, UInt8.ofNat_toNat]
            show wire (r.take c.toNat) ++ wires m ++ [0] = _
            rw [hw, List.append_assoc]
            show c :: (r.take c.toNat ++ names m) = _
            rw [h2, List.take_append_drop]
theorem lab_some {s : List UInt8} {l : List (List UInt8)} (h : lab s = some l) : (∀ x ∈ l, okL x) ∧ names l = s := cutF_some _ _ _ h
/-- may labels be a name's -/
def ok (l : List (List UInt8)) : Prop := (∀ s ∈ l, okL s) ∧ (names l).length ≤ 255
instance (l : List (List UInt8)) : Decidable (ok l) := by unfold ok; infer_instance
theorem cut_some {s : List UInt8} {l : List (List UInt8)} (h : cut s = some l) : ok l ∧ names l = s := by
  unfold cut at h
  split at h
  · cases h
  · rename_i hs
    obtain ⟨h1, h2⟩ := lab_some h
    exact ⟨⟨h1, by rw [h2]; omega⟩, h2⟩
theorem cut_names {l : List (List UInt8)} (h : ok l) : cut (names l) = some l := by
  unfold cut
  rw [if_neg (by have := h.2; omega), lab_names h.1]
theorem names_inj {l m : List (List UInt8)} (h : ok l) (h2 : ok m) (e : names l = names m) : l = m := by
  have h3 := cut_names h
  rw [e, cut_names h2] at h3
  injection h3 with h3
  exact h3.symm
theorem right_iff {s : List UInt8} : right s = true ↔ ∃ l, ok l ∧ names l = s := by
  unfold right
  constructor
  · intro h
    cases hc : cut s with
    | none => rw [hc] at h; cases h
    | some l => exact ⟨l, cut_some hc⟩
  · rintro ⟨l, h, rfl⟩
    rw [cut_names h]; rfl
theorem right_names {l : List (List UInt8)} (h : ok l) : right (names l) = true := right_iff.2 ⟨l, h, rfl⟩
theorem labels_names {l : List (List UInt8)} (h : ok l) : labels (names l) = l := by unfold labels; rw [cut_names h]; rfl
theorem labels_no {s : List UInt8} (h : right s = false) : labels s = [] := by
  unfold right at h
  unfold labels
  cases hc : cut s with
  | none => rfl
  | some l => rw [hc] at h; cases h
theorem wires_app (l m : List (List UInt8)) : wires (l ++ m) = wires l ++ wires m := List.flatMap_append
theorem names_len (l : List (List UInt8)) : (names l).length = (wires l).length + 1 := by simp [names]
theorem wires_cons (s : List UInt8) (l : List (List UInt8)) : wires (s :: l) = wire s ++ wires l := rfl
theorem wires_drop (l : List (List UInt8)) : ∀ k, (wires (l.drop k)).length ≤ (wires l).length := fun k => by
  have e : l.take k ++ l.drop k = l := List.take_append_drop k l
  have h : wires l = wires (l.take k) ++ wires (l.drop k) := by rw [← wires_app, e]
  rw [h, List.length_append]; omega
theorem ok_drop {l : List (List UInt8)} (h : ok l) (k : Nat) : ok (l.drop k) := by
  refine ⟨fun s hs => h.1 s (List.mem_of_mem_drop hs), ?_⟩
  have h1 := h.2
  have h2 := wires_drop l k
  rw [names_len] at h1 ⊢
  omega
/-! ### Joined -/
def join (l : List (List UInt8)) : List UInt8 × Int := if [] ∈ l then ([], 3) else if ok l then (names l, 0) else ([], 4)
theorem nil_ok {l : List (List UInt8)} (h : ok l) : ¬ [] ∈ l := fun hm => by have := (h.1 [] hm).1; simp at this
theorem join_ok {l : List (List UInt8)} (h : ok l) : join l = (names l, 0) := by unfold join; rw [if_neg (nil_ok h), if_pos h]
theorem join_once {l : List (List UInt8)} (h : (join l).2 = 0) : ok l ∧ (join l).1 = names l := by
  unfold join at h ⊢
  split at h
  · cases h
  · rename_i h1
    split at h
    · rename_i h2; rw [if_neg h1, if_pos h2]; exact ⟨h2, rfl⟩
    · cases h
/-! ### Small letters -/
def lowB (c : UInt8) : UInt8 := if 65 ≤ c.toNat ∧ c.toNat ≤ 90 then c + 32 else c
def low (s : List UInt8) : List UInt8 := s.map lowB
def lower (s : List UInt8) : List UInt8 := if right s = true then low s else s
def same (a b : List UInt8) : Bool := right a && right b && decide (lower a = lower b)
def under (a b : List UInt8) : Bool := right a && right b && decide ((labels b).length ≤ (labels a).length) && same (names ((labels a).drop ((labels a).length - (labels b).length))) b
theorem lowB_nat (c : UInt8) : (lowB c).toNat = if 65 ≤ c.toNat ∧ c.toNat ≤ 90 then c.toNat + 32 else c.toNat := by
  unfold lowB
  split
  · rename_i h
    rw [UInt8.toNat_add]
    show (c.toNat + 32) % 256 = _
    omega
  · rfl
theorem lowB_lowB (c : UInt8) : lowB (lowB c) = lowB c := by
  have h := lowB_nat c
  apply UInt8.toNat_inj.1
  rw [lowB_nat (lowB c)]
  split
  · rename_i h2
    rw [h] at h2
    split at h2 <;> omega
  · rfl
theorem low_low (s : List UInt8) : low (low s) = low s := by unfold low; rw [List.map_map]; congr 1; funext c; exact lowB_lowB c
theorem low_len (s : List UInt8) : (low s).length = s.length := List.length_map ..
theorem lowB_small {n : Nat} (h : n ≤ 63) : lowB (UInt8.ofNat n) = UInt8.ofNat n := by
  unfold lowB
  rw [ofNat_len h, if_neg (by omega)]
def lows (l : List (List UInt8)) : List (List UInt8) := l.map low
theorem low_wire {s : List UInt8} (h : okL s) : low (wire s) = wire (low s) := by
  show lowB (UInt8.ofNat s.length) :: low s = UInt8.ofNat (low s).length :: low s
  rw [lowB_small h.2, low_len]
theorem low_wires : ∀ {l : List (List UInt8)}, (∀ s ∈ l, okL s) → low (wires l) = wires (lows l)
  | [], _ => rfl
  | s :: l, h => by
    show low (wire s ++ wires l) = wire (low s) ++ wires (lows l)
    rw [← low_wire (h s (by simp)), ← low_wires fun x hx => h x (by simp [hx])]
    exact List.map_append ..
theorem low_names {l : List (List UInt8)} (h : ok l) : low (names l) = names (lows l) := by
  unfold names
  rw [← low_wires h.1]
  show (wires l ++ [0]).map lowB = _
  rw [List.map_append]
  rfl
theorem okL_low {s : List UInt8} (h : okL s) : okL (low s) := by unfold okL; rw [low_len]; exact h
theorem ok_lows {l : List (List UInt8)} (h : ok l) : ok (lows l) := by
  refine ⟨fun s hs => ?_, ?_⟩
  · obtain ⟨x, hx, rfl⟩ := List.mem_map.1 hs
    exact okL_low (h.1 x hx)
  · rw [← low_names h, low_len]; exact h.2
theorem lows_lows (l : List (List UInt8)) : lows (lows l) = lows l := by unfold lows; rw [List.map_map]; congr 1; funext s; exact low_low s
theorem lower_names {l : List (List UInt8)} (h : ok l) : lower (names l) = names (lows l) := by unfold lower; rw [if_pos (right_names h), low_names h]
theorem lower_no {s : List UInt8} (h : right s = false) : lower s = s := by unfold lower; rw [if_neg (by rw [h]; simp)]
theorem same_names {l m : List (List UInt8)} (h : ok l) (h2 : ok m) : same (names l) (names m) = true ↔ lows l = lows m := by
  unfold same
  rw [right_names h, right_names h2, lower_names h, lower_names h2]
  simp only [Bool.true_and, decide_eq_true_eq]
  exact ⟨fun e => names_inj (ok_lows h) (ok_lows h2) e, fun e => by rw [e]⟩
theorem under_names {l m : List (List UInt8)} (h : ok l) (h2 : ok m) : under (names l) (names m) = true ↔ lows m <:+ lows l := by
  unfold under
  rw [right_names h, right_names h2, labels_names h, labels_names h2]
  simp only [Bool.true_and, Bool.and_eq_true, decide_eq_true_eq]
  rw [same_names (ok_drop h _) h2]
  have e : lows (l.drop (l.length - m.length)) = (lows l).drop (l.length - m.length) := List.map_drop ..
  rw [e]
  constructor
  · rintro ⟨_, h4⟩
    rw [← h4]
    exact List.drop_suffix _ _
  · intro hs
    have hl := hs.length_le
    have h5 : (lows l).length = l.length := List.length_map ..
    have h6 : (lows m).length = m.length := List.length_map ..
    refine ⟨by omega, ?_⟩
    have := List.suffix_iff_eq_drop.1 hs
    rw [h5, h6] at this
    exact this.symm
/-- a label ahead of a name -/
theorem ahead {a x : List UInt8} (hx : okL x) (h : right a = true) (hl : a.length + x.length + 1 ≤ 255) :
    ok (x :: labels a) ∧ under (names (x :: labels a)) a = true ∧ under a (names (x :: labels a)) = false ∧ under (names (x :: labels a)) (lower a) = true := by
  obtain ⟨l, ol, rfl⟩ := right_iff.1 h
  rw [labels_names ol]
  have o : ok (x :: l) := by
    refine ⟨fun s hs => ?_, ?_⟩
    · rcases List.mem_cons.1 hs with rfl | hs
      · exact hx
      · exact ol.1 s hs
    · rw [names_len] at hl ⊢
      rw [wires_cons, List.length_append]
      have : (wire x).length = x.length + 1 := by simp [wire]
      omega
  refine ⟨o, ?_, ?_, ?_⟩
  · rw [under_names o ol]; exact List.suffix_cons ..
  · cases hu : under (names l) (names (x :: l)) with
    | false => rfl
    | true =>
      rw [under_names ol o] at hu
      have h1 := hu.length_le
      simp [lows] at h1
      omega
  · rw [lower_names ol, under_names o (ok_lows ol), lows_lows]; exact List.suffix_cons ..
end Lab
end Go.Proofs.YtmbfldcmiabccaaGreatDoor

namespace Go.Proofs.YtmbfldcmiabccaaGreatDoor
set_option linter.unusedVariables false
set_option linter.unusedSimpArgs false
namespace Lab
/-- one byte more of a text that is parted by dots -/
def step (l : List (List UInt8)) (c : UInt8) : List (List UInt8) := if c = 46 then l ++ [[]] else l.dropLast ++ [(l.getLast?.getD []) ++ [c]]
def parts (t : List UInt8) : List (List UInt8) := t.foldl step [[]]
def trim (t : List UInt8) : List UInt8 := if t.getLast? = some 46 then t.dropLast else t
def of (t : List UInt8) : List UInt8 × Int := if t = [] ∨ t = [46] then ([0], 0) else join (parts (trim t))
def dot (s : List UInt8) : List UInt8 := s ++ [46]
def dots (l : List (List UInt8)) : List UInt8 := l.flatMap dot
def bad (l : List (List UInt8)) : Bool := l.any fun s => decide (46 ∈ s)
def shown (l : List (List UInt8)) : List UInt8 := if l = [] then [46] else dots l
def text (s : List UInt8) : List UInt8 × Int := match cut s with
  | none => ([], 1)
  | some l => if bad l = true then ([], 3) else (shown l, 0)
end Lab
end Go.Proofs.YtmbfldcmiabccaaGreatDoor

namespace Go.Proofs.YtmbfldcmiabccaaGreatDoor
set_option linter.unusedVariables false
set_option linter.unusedSimpArgs false
open Go.RowKit
theorem strT : SlT Tryz.prog 81 9 (.string ⟨#[]⟩) 1 16 := ⟨Tryz.underlying81, by kernel_rfl, rfl, by omega⟩
theorem kdrewB {B : Nat} {w w' : World} (h : Below B w w') (q : Nat) : Below B w (w'.drewN q) := ⟨h.os, h.tape, h.output, h.size, h.block⟩
def tc (s : List UInt8) : Value := .string (strB s)
def Tt (l : List (List UInt8)) : List Value := l.map tc
theorem Tt_len (l : List (List UInt8)) : (Tt l).length = l.length := List.length_map ..
theorem Tt_app (l m : List (List UInt8)) : Tt (l ++ m) = Tt l ++ Tt m := List.map_append ..
theorem Tt_get (l : List (List UInt8)) (k : Nat) : (Tt l)[k]? = (l[k]?).map tc := List.getElem?_map ..
theorem Tt_one (l : List (List UInt8)) : ∀ u ∈ Tt l, u.oneCell' = true := fun u hu => by obtain ⟨s, _, rfl⟩ := List.mem_map.1 hu; rfl
theorem strB_sz (l : List UInt8) : (strB l).size = l.length := by simp [strB, ByteArray.size]
theorem strB_app (a b : List UInt8) : strB a ++ strB b = strB (a ++ b) := ByteArray.mk_append_mk a b
theorem strB_cut (l : List UInt8) (a b : Nat) : (strB l).extract a b = strB ((l.drop a).take (b - a)) := ByteArray.extract_mk l a b
theorem strB_beq (a b : List UInt8) : (strB a == strB b) = decide (a = b) := by
  show (a.toArray == b.toArray) = _
  by_cases h : a = b
  · subst h; simp
  · rw [decide_eq_false h]; exact beq_eq_false_iff_ne.2 fun e => h (by simpa using e)
/-- a byte of a text -/
theorem run_chr {w : World} {l : List UInt8} {k : Nat} {x : UInt8} (h : l[k]? = some x) : (Instr.index 9 (.string (strB l)) (.int .i64 (k : Int))).run Tryz.prog w = .ok (.int .u8 (x.toNat : Int)) w := by
  obtain ⟨hk, rfl⟩ := List.getElem?_eq_some_iff.1 h
  have hs : (strB l).size = l.length := strB_sz l
  rw [run_index_string w 9 (strB l) .i64 (k : Int) Tryz.underlying9, dif_pos ⟨by omega, by omega⟩]
  rfl
/-- a part of a text -/
theorem run_part {w : World} {l : List UInt8} {a b : Nat} {i j : Int} (hi : i = a) (hj : j = b) (h1 : a ≤ b) (h2 : b ≤ l.length) : (Instr.slice 9 (.string (strB l)) (some (.int .i64 i)) (some (.int .i64 j)) none).run Tryz.prog w = .ok (.string (strB ((l.drop a).take (b - a)))) w := by
  subst hi hj
  rw [run_slice_string w 9 (strB l) .i64 .i64 a b Tryz.underlying9 (by omega) (by omega) (by rw [strB_sz]; omega), ← strB_cut]
  rfl
/-- two texts as one -/
theorem run_two {w : World} {a b : List UInt8} (h : a.length + b.length ≤ 9223372036854775807) : (Op.stringOp .add (strB a) (strB b)).run Tryz.prog w = .ok (.string (strB (a ++ b))) w := by
  rw [run_string_add_sum w _ _ (by rw [strB_sz, strB_sz]; exact h), strB_app]
section
variable {w : World} {B n k : Nat} {A : Option Addr} {l : List (List UInt8)}
theorem Rd.atT (h : Rd w B 1 A n (Tt l)) (hk : k < n) : ∃ b o s, A = some ⟨b, o, none⟩ ∧ b < B ∧ l[k]? = some s ∧ w.cell? ⟨b, o + k, none⟩ = some (.string (strB s)) := by
  obtain ⟨b, o, e, hb, hc⟩ := h.at1 hk
  have hl : l.length = n := by have h1 := h.len1; rwa [Tt_len] at h1
  obtain ⟨s, hs⟩ : ∃ s, l[k]? = some s := ⟨_, List.getElem?_eq_getElem (by omega)⟩
  exact ⟨b, o, s, e, hb, hs, by rw [hc k hk, Tt_get, hs]; rfl⟩
end
/-- labels that are answered, and whether they are a name's -/
def CutR (c : Option (List (List UInt8))) (w : World) (e : Ending) (w' : World) : Prop :=
  (∃ A n cp, e = .returned (.tuple #[.slice A n cp, .bool c.isSome]) ∧ n = (c.getD []).length ∧ Rd w' w'.heap.size 1 A n (Tt (c.getD [])) ∧ n ≤ cp ∧ cp ≤ 9223372036854775807) ∧ Below w.heap.size w w'
/-- labels that are answered -/
def LabR (l : List (List UInt8)) (w : World) (e : Ending) (w' : World) : Prop :=
  (∃ A n cp, e = .returned (.slice A n cp) ∧ n = l.length ∧ Rd w' w'.heap.size 1 A n (Tt l) ∧ n ≤ cp ∧ cp ≤ 9223372036854775807) ∧ Below w.heap.size w w'
/-- a text and an error -/
def TxE (s : List UInt8) (er : Int) (w : World) (e : Ending) (w' : World) : Prop := e = .returned (.tuple #[.string (strB s), .int .i64 er]) ∧ Below w.heap.size w w'
def TxO (s : List UInt8) (w : World) (e : Ending) (w' : World) : Prop := e = .returned (.string (strB s)) ∧ Below w.heap.size w w'
def BoB (b : Bool) (w : World) (e : Ending) (w' : World) : Prop := e = .returned (.bool b) ∧ Below w.heap.size w w'
end Go.Proofs.YtmbfldcmiabccaaGreatDoor

namespace Go.Proofs.YtmbfldcmiabccaaGreatDoor
set_option linter.unusedVariables false
set_option linter.unusedSimpArgs false
namespace Pk
def b2 (n : Nat) : List UInt8 := [UInt8.ofNat (n / 256), UInt8.ofNat n]
def b4 (n : Nat) : List UInt8 := [UInt8.ofNat (n / 16777216), UInt8.ofNat (n / 65536), UInt8.ofNat (n / 256), UInt8.ofNat n]
def w2 : List UInt8 → Nat
  | x :: y :: _ => x.toNat * 256 + y.toNat
  | _ => 0
def w4 : List UInt8 → Nat
  | x :: y :: z :: u :: _ => ((x.toNat * 256 + y.toNat) * 256 + z.toNat) * 256 + u.toNat
  | _ => 0
/-- a name in bytes: what there is, the place, where its labels began, where it ends, how many pointers; the first number is above what is left to do -/
def nameF : Nat → List UInt8 → List UInt8 → Nat → Nat → Option Nat → Nat → List UInt8 × Nat × Int
  | 0, _, _, _, _, _, _ => ([], 0, 99)
  | f + 1, b, out, i, st, nx, j =>
    match b.drop i with
    | [] => ([], 0, 2)
    | c :: r =>
      if c = 0 then (out ++ [0], nx.getD (i + 1), 0)
      else if c.toNat < 64 then
        (if r.length < c.toNat then ([], 0, 2)
        else if 254 < (out ++ c :: r.take c.toNat).length then ([], 0, 4)
        else nameF f b (out ++ c :: r.take c.toNat) (i + 1 + c.toNat) st nx j)
      else if c.toNat < 192 then ([], 0, 3)
      else match r with
        | [] => ([], 0, 2)
        | d :: _ => if st ≤ (c.toNat - 192) * 256 + d.toNat ∨ 16 ≤ j then ([], 0, 15) else nameF f b out ((c.toNat - 192) * 256 + d.toNat) ((c.toNat - 192) * 256 + d.toNat) (some (nx.getD (i + 2))) (j + 1)
def nameAt (b : List UInt8) (i : Int) : List UInt8 × Nat × Int := if i < 0 ∨ b.length < i then ([], 0, 1) else nameF 300 b [] i.toNat i.toNat none 0
theorem drop_more {b x r : List UInt8} {i : Nat} (h : b.drop i = x ++ r) : b.drop (i + x.length) = r := by
  rw [← List.drop_drop, h, List.drop_left]
end Pk
end Go.Proofs.YtmbfldcmiabccaaGreatDoor

namespace Go.Proofs.YtmbfldcmiabccaaGreatDoor
set_option linter.unusedVariables false
set_option linter.unusedSimpArgs false
/-- a question -/
structure Qst where
  name : List UInt8
  typ : Int
  cls : Int
deriving DecidableEq
/-- a record of the domain system -/
structure Rrc where
  name : List UInt8
  typ : Int
  cls : Int
  ttl : Int
  data : List UInt8
deriving DecidableEq
/-- a packet -/
structure Pck where
  id : Int
  flags : Int
  qs : List Qst
  an : List Rrc
  au : List Rrc
  mo : List Rrc
deriving DecidableEq
namespace Pk
def none : Pck := ⟨0, 0, [], [], [], []⟩
def two (n : Int) : Prop := 0 ≤ n ∧ n ≤ 65535
instance (n : Int) : Decidable (two n) := by unfold two; infer_instance
def rightQ (q : Qst) : Prop := Lab.right q.name = true ∧ two q.typ ∧ two q.cls
instance (q : Qst) : Decidable (rightQ q) := by unfold rightQ; infer_instance
def rightR (r : Rrc) : Prop := Lab.right r.name = true ∧ two r.typ ∧ two r.cls ∧ 0 ≤ r.ttl ∧ r.ttl ≤ 2147483647 ∧ r.data.length ≤ 1000
instance (r : Rrc) : Decidable (rightR r) := by unfold rightR; infer_instance
def rightL (l : List Rrc) : Prop := l.length ≤ 100 ∧ ∀ r ∈ l, rightR r
instance (l : List Rrc) : Decidable (rightL l) := by unfold rightL; infer_instance
def right (p : Pck) : Prop := two p.id ∧ two p.flags ∧ (p.qs.length ≤ 100 ∧ ∀ q ∈ p.qs, rightQ q) ∧ rightL p.an ∧ rightL p.au ∧ rightL p.mo
instance (p : Pck) : Decidable (right p) := by unfold right; infer_instance
/-! ### Built -/
def qb (q : Qst) : List UInt8 := q.name ++ (b2 q.typ.toNat ++ b2 q.cls.toNat)
def qsb (l : List Qst) : List UInt8 := l.flatMap qb
/-- is a record's name the first question's -/
def asked (qs : List Qst) (r : Rrc) : Bool := match qs with | [] => false | q :: _ => Lab.same r.name q.name
def nmb (qs : List Qst) (r : Rrc) : List UInt8 := if asked qs r = true then [192, 12] else r.name
def rb (qs : List Qst) (r : Rrc) : List UInt8 := nmb qs r ++ (b2 r.typ.toNat ++ (b2 r.cls.toNat ++ (b4 r.ttl.toNat ++ (b2 r.data.length ++ r.data))))
def rsb (qs : List Qst) (l : List Rrc) : List UInt8 := l.flatMap (rb qs)
/-- how many records there is room for -/
def fits (qs : List Qst) : Nat → List Rrc → Nat
  | _, [] => 0
  | room, r :: l => if (rb qs r).length ≤ room then fits qs (room - (rb qs r).length) l + 1 else 0
def all (p : Pck) : List Rrc := p.an ++ (p.au ++ p.mo)
def cutFlag (n : Int) : Int := ((n.toNat ||| 512 : Nat) : Int)
/-- the first k records alone -/
def first (p : Pck) (k : Nat) : Pck := ⟨p.id, if k < (all p).length then cutFlag p.flags else p.flags, p.qs, p.an.take k, p.au.take (k - p.an.length), p.mo.take (k - p.an.length - p.au.length)⟩
def hd (p : Pck) : List UInt8 := b2 p.id.toNat ++ (b2 p.flags.toNat ++ (b2 p.qs.length ++ (b2 p.an.length ++ (b2 p.au.length ++ b2 p.mo.length))))
/-- all of a packet's bytes -/
def whole (p : Pck) : List UInt8 := hd p ++ (qsb p.qs ++ rsb p.qs (all p))
def room (p : Pck) (limit : Int) : Nat := (limit - 12 - (qsb p.qs).length).toNat
def kept (p : Pck) (limit : Int) : Pck := first p (fits p.qs (room p limit) (all p))
/-! ### Parsed -/
def qsF : Nat → List UInt8 → Nat → List Qst × Nat × Int
  | 0, _, i => ([], i, 0)
  | n + 1, b, i =>
    if (nameAt b i).2.2 ≠ 0 then ([], 0, (nameAt b i).2.2)
    else if b.length < (nameAt b i).2.1 + 4 then ([], 0, 2)
    else if (qsF n b ((nameAt b i).2.1 + 4)).2.2 ≠ 0 then ([], 0, (qsF n b ((nameAt b i).2.1 + 4)).2.2)
    else (⟨(nameAt b i).1, (w2 (b.drop (nameAt b i).2.1) : Nat), (w2 (b.drop ((nameAt b i).2.1 + 2)) : Nat)⟩ :: (qsF n b ((nameAt b i).2.1 + 4)).1, (qsF n b ((nameAt b i).2.1 + 4)).2.1, 0)
/-- the record whose name ends at a place -/
def recAt (b s : List UInt8) (k : Nat) : Rrc := ⟨s, (w2 (b.drop k) : Nat), (w2 (b.drop (k + 2)) : Nat), (w4 (b.drop (k + 4)) : Nat), (b.drop (k + 10)).take (w2 (b.drop (k + 8)))⟩
def rsF : Nat → List UInt8 → Nat → List Rrc × Nat × Int
  | 0, _, i => ([], i, 0)
  | n + 1, b, i =>
    if (nameAt b i).2.2 ≠ 0 then ([], 0, (nameAt b i).2.2)
    else if b.length < (nameAt b i).2.1 + 10 then ([], 0, 2)
    else if b.length < (nameAt b i).2.1 + 10 + w2 (b.drop ((nameAt b i).2.1 + 8)) then ([], 0, 2)
    else if (rsF n b ((nameAt b i).2.1 + 10 + w2 (b.drop ((nameAt b i).2.1 + 8)))).2.2 ≠ 0 then ([], 0, (rsF n b ((nameAt b i).2.1 + 10 + w2 (b.drop ((nameAt b i).2.1 + 8)))).2.2)
    else (recAt b (nameAt b i).1 (nameAt b i).2.1 :: (rsF n b ((nameAt b i).2.1 + 10 + w2 (b.drop ((nameAt b i).2.1 + 8)))).1, (rsF n b ((nameAt b i).2.1 + 10 + w2 (b.drop ((nameAt b i).2.1 + 8)))).2.1, 0)
/-- the end of parsing: all lists are there -/
def ended (b : List UInt8) (p : Pck) (i : Nat) : Pck × Int := if i ≠ b.length then (none, 3) else if ¬ right p then (none, 1) else (p, 0)
def parse (b : List UInt8) : Pck × Int :=
  if b.length < 12 then (none, 2) else if 65535 < b.length then (none, 4)
  else
    let q := qsF (w2 (b.drop 4)) b 12
    if q.2.2 ≠ 0 then (none, q.2.2) else
    let x := rsF (w2 (b.drop 6)) b q.2.1
    if x.2.2 ≠ 0 then (none, x.2.2) else
    let y := rsF (w2 (b.drop 8)) b x.2.1
    if y.2.2 ≠ 0 then (none, y.2.2) else
    let z := rsF (w2 (b.drop 10)) b y.2.1
    if z.2.2 ≠ 0 then (none, z.2.2) else ended b ⟨(w2 b : Nat), (w2 (b.drop 2) : Nat), q.1, x.1, y.1, z.1⟩ z.2.1
end Pk
end Go.Proofs.YtmbfldcmiabccaaGreatDoor

