/- Texts in memory: rows of them, bytes and parts of one, two in a row. -/
import Derived.Test.YtillnjhmdgmgeaaDoorBase
import Derived.Test.YtillnjhmdgmgeaaDoorBMath2
import Derived.Laws.Concat
import Derived.Laws.Strings2
import Derived.Laws.Strings3
import Derived.BigQuiet
import Derived.Deep.DeepCutAuto
import Derived.Lib.Hide
namespace Go.Proofs.YtillnjhmdgmgeaaDoor
set_option linter.unusedVariables false
set_option linter.unusedSimpArgs false
open Go.RowKit
theorem strT : SlT Tryd.prog 28 9 (.string ⟨#[]⟩) 1 16 := ⟨Tryd.underlying28, by kernel_rfl, rfl, by omega⟩
theorem kdrewB {B : Nat} {w w' : World} (h : Below B w w') (q : Nat) : Below B w (w'.drewN q) := ⟨h.os, h.tape, h.output, h.size, h.block⟩
def tc (s : List UInt8) : Value := .string (strB s)
def Tt (l : List (List UInt8)) : List Value := l.map tc
theorem Tt_len (l : List (List UInt8)) : (Tt l).length = l.length := List.length_map ..
theorem Tt_app (l m : List (List UInt8)) : Tt (l ++ m) = Tt l ++ Tt m := List.map_append ..
theorem Tt_get (l : List (List UInt8)) (k : Nat) : (Tt l)[k]? = (l[k]?).map tc := List.getElem?_map ..
theorem Tt_one (l : List (List UInt8)) : ∀ u ∈ Tt l, u.oneCell' = true := fun u hu => by obtain ⟨s, _, rfl⟩ := List.mem_map.1 hu; rfl
theorem strB_sz (l : List UInt8) : (strB l).size = l.length := by simp [strB, ByteArray.size]
theorem strB_app (a b : List UInt8) : strB a ++ strB b = strB (a ++ b) := ByteArray.mk_append_mk a b
theorem strB_cut (l : List UInt8) (a b : Nat) : (strB l).extract a b = strB ((l.drop a).take (b - a)) := ByteArray.extract_mk l a b
theorem strB_inj {a b : List UInt8} (h : strB a = strB b) : a = b := by
  have := congrArg (fun x : ByteArray => x.data.toList) h
  simpa [strB] using this
theorem strB_beq (a b : List UInt8) : (strB a == strB b) = decide (a = b) := by
  show (a.toArray == b.toArray) = _
  by_cases h : a = b
  · subst h; simp
  · rw [decide_eq_false h]; exact beq_eq_false_iff_ne.2 fun e => h (by simpa using e)
theorem strB_bne (a b : List UInt8) : (strB a != strB b) = decide (a ≠ b) := by
  unfold bne
  rw [strB_beq]
  by_cases h : a = b <;> simp [h]
/-- a byte of a text -/
theorem run_chr {w : World} {l : List UInt8} {k : Nat} {x : UInt8} (h : l[k]? = some x) : (Instr.index 9 (.string (strB l)) (.int .i64 (k : Int))).run Tryd.prog w = .ok (.int .u8 (x.toNat : Int)) w := by
  obtain ⟨hk, rfl⟩ := List.getElem?_eq_some_iff.1 h
  have hs : (strB l).size = l.length := strB_sz l
  rw [run_index_string w 9 (strB l) .i64 (k : Int) Tryd.underlying9, dif_pos ⟨by omega, by omega⟩]
  rfl
/-- a part of a text -/
theorem run_part {w : World} {l : List UInt8} {a b : Nat} {i j : Int} (hi : i = a) (hj : j = b) (h1 : a ≤ b) (h2 : b ≤ l.length) : (Instr.slice 9 (.string (strB l)) (some (.int .i64 i)) (some (.int .i64 j)) none).run Tryd.prog w = .ok (.string (strB ((l.drop a).take (b - a)))) w := by
  subst hi hj
  rw [run_slice_string w 9 (strB l) .i64 .i64 a b Tryd.underlying9 (by omega) (by omega) (by rw [strB_sz]; omega), ← strB_cut]
  rfl
theorem run_head {w : World} {l : List UInt8} {b : Nat} {j : Int} (hj : j = b) (h2 : b ≤ l.length) : (Instr.slice 9 (.string (strB l)) none (some (.int .i64 j)) none).run Tryd.prog w = .ok (.string (strB (l.take b))) w := by
  subst hj
  rw [run_slice_string_to_if w 9 (strB l) .i64 b Tryd.underlying9, if_pos ⟨by omega, by rw [strB_sz]; omega⟩]
  have e : (strB l).extract 0 ((b : Int)).toNat = strB (l.take b) := by
    rw [strB_cut]
    simp
  rw [e]
/-- two texts as one -/
theorem run_two {w : World} {a b : List UInt8} (h : a.length + b.length ≤ 9223372036854775807) : (Op.stringOp .add (strB a) (strB b)).run Tryd.prog w = .ok (.string (strB (a ++ b))) w := by
  rw [run_string_add_sum w _ _ (by rw [strB_sz, strB_sz]; exact h), strB_app]
section
variable {w : World} {B n k : Nat} {A : Option Addr} {l : List (List UInt8)}
theorem Rd.atT (h : Rd w B 1 A n (Tt l)) (hk : k < n) : ∃ b o s, A = some ⟨b, o, none⟩ ∧ b < B ∧ l[k]? = some s ∧ w.cell? ⟨b, o + k, none⟩ = some (.string (strB s)) := by
  obtain ⟨b, o, e, hb, hc⟩ := h.at1 hk
  have hl : l.length = n := by have h1 := h.len1; rwa [Tt_len] at h1
  obtain ⟨s, hs⟩ : ∃ s, l[k]? = some s := ⟨_, List.getElem?_eq_getElem (by omega)⟩
  exact ⟨b, o, s, e, hb, hs, by rw [hc k hk, Tt_get, hs]; rfl⟩
end
/-- labels that are answered, and whether they are a name's -/
def CutR (c : Option (List (List UInt8))) (w : World) (e : Ending) (w' : World) : Prop :=
  (∃ A n cp, e = .returned (.tuple #[.slice A n cp, .bool c.isSome]) ∧ n = (c.getD []).length ∧ Rd w' w'.heap.size 1 A n (Tt (c.getD [])) ∧ n ≤ cp ∧ cp ≤ 9223372036854775807) ∧ Below w.heap.size w w'
/-- labels that are answered -/
def LabR (l : List (List UInt8)) (w : World) (e : Ending) (w' : World) : Prop :=
  (∃ A n cp, e = .returned (.slice A n cp) ∧ n = l.length ∧ Rd w' w'.heap.size 1 A n (Tt l) ∧ n ≤ cp ∧ cp ≤ 9223372036854775807) ∧ Below w.heap.size w w'
/-- a text and an error -/
def TxE (s : List UInt8) (er : Int) (w : World) (e : Ending) (w' : World) : Prop := e = .returned (.tuple #[.string (strB s), .int .i64 er]) ∧ Below w.heap.size w w'
def TxO (s : List UInt8) (w : World) (e : Ending) (w' : World) : Prop := e = .returned (.string (strB s)) ∧ Below w.heap.size w w'
def BoB (b : Bool) (w : World) (e : Ending) (w' : World) : Prop := e = .returned (.bool b) ∧ Below w.heap.size w w'
end Go.Proofs.YtillnjhmdgmgeaaDoor
