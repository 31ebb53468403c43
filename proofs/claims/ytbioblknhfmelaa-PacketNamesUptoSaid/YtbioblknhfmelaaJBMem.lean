/- BMem (merged). -/
import Derived.Laws.Concat
import Derived.Laws.Strings2
import Derived.Laws.Strings3
import Derived.BigQuiet
import Derived.Deep.DeepCutAuto
import Derived.Lib.Hide
import Derived.Test.YtbioblknhfmelaaJBase
import Derived.Test.YtbioblknhfmelaaJPlain
namespace Go.Proofs.Ytbioblknhfmelaa
set_option linter.unusedVariables false
set_option linter.unusedSimpArgs false
open Go.RowKit
theorem strT : SlT Try.prog 68 9 (.string ⟨#[]⟩) 1 16 := ⟨Try.underlying68, by kernel_rfl, rfl, by omega⟩
theorem kdrewB {B : Nat} {w w' : World} (h : Below B w w') (q : Nat) : Below B w (w'.drewN q) := ⟨h.os, h.tape, h.output, h.size, h.block⟩
def tc (s : List UInt8) : Value := .string (strB s)
def Tt (l : List (List UInt8)) : List Value := l.map tc
theorem Tt_len (l : List (List UInt8)) : (Tt l).length = l.length := List.length_map ..
theorem Tt_app (l m : List (List UInt8)) : Tt (l ++ m) = Tt l ++ Tt m := List.map_append ..
theorem Tt_one (l : List (List UInt8)) : ∀ u ∈ Tt l, u.oneCell' = true := fun u hu => by obtain ⟨s, _, rfl⟩ := List.mem_map.1 hu; rfl
theorem strB_sz (l : List UInt8) : (strB l).size = l.length := by simp [strB, ByteArray.size]
theorem strB_cut (l : List UInt8) (a b : Nat) : (strB l).extract a b = strB ((l.drop a).take (b - a)) := ByteArray.extract_mk l a b
theorem strB_beq (a b : List UInt8) : (strB a == strB b) = decide (a = b) := by
  show (a.toArray == b.toArray) = _
  by_cases h : a = b
  · subst h; simp
  · rw [decide_eq_false h]; exact beq_eq_false_iff_ne.2 fun e => h (by simpa using e)
/-- a byte of a text -/
theorem run_chr {w : World} {l : List UInt8} {k : Nat} {x : UInt8} (h : l[k]? = some x) : (Instr.index 9 (.string (strB l)) (.int .i64 (k : Int))).run Try.prog w = .ok (.int .u8 (x.toNat : Int)) w := by
  obtain ⟨hk, rfl⟩ := List.getElem?_eq_some_iff.1 h
  have hs : (strB l).size = l.length := strB_sz l
  rw [run_index_string w 9 (strB l) .i64 (k : Int) Try.underlying9, dif_pos ⟨by omega, by omega⟩]
  rfl
/-- a part of a text -/
theorem run_part {w : World} {l : List UInt8} {a b : Nat} {i j : Int} (hi : i = a) (hj : j = b) (h1 : a ≤ b) (h2 : b ≤ l.length) : (Instr.slice 9 (.string (strB l)) (some (.int .i64 i)) (some (.int .i64 j)) none).run Try.prog w = .ok (.string (strB ((l.drop a).take (b - a)))) w := by
  subst hi hj
  rw [run_slice_string w 9 (strB l) .i64 .i64 a b Try.underlying9 (by omega) (by omega) (by rw [strB_sz]; omega), ← strB_cut]
  rfl
section
variable {w : World} {B n k : Nat} {A : Option Addr} {l : List (List UInt8)}
end
/-- labels that are answered, and whether they are a name's -/
def CutR (c : Option (List (List UInt8))) (w : World) (e : Ending) (w' : World) : Prop :=
  (∃ A n cp, e = .returned (.tuple #[.slice A n cp, .bool c.isSome]) ∧ n = (c.getD []).length ∧ Rd w' w'.heap.size 1 A n (Tt (c.getD [])) ∧ n ≤ cp ∧ cp ≤ 9223372036854775807) ∧ Below w.heap.size w w'
def TxO (s : List UInt8) (w : World) (e : Ending) (w' : World) : Prop := e = .returned (.string (strB s)) ∧ Below w.heap.size w w'
def BoB (b : Bool) (w : World) (e : Ending) (w' : World) : Prop := e = .returned (.bool b) ∧ Below w.heap.size w w'
end Go.Proofs.Ytbioblknhfmelaa

