/- ZC4 (merged). -/
import Derived.Test.YtbioblknhfmelaaJZRow5
namespace Go.Proofs.Ytbioblknhfmelaa
set_option linter.unusedVariables false
set_option linter.unusedSimpArgs false
open Go.RowKit
namespace Pk
/-- numbers' bytes, two of each -/
def bs (l : List Int) : List UInt8 := l.flatMap fun v => b2 v.toNat
theorem bs_more {l : List Int} {k : Nat} {v : Int} (h : l[k]? = some v) : bs (l.take (k + 1)) = bs (l.take k) ++ b2 v.toNat := by
  rw [take_more h]
  unfold bs
  rw [List.flatMap_append]
  simp
end Pk
theorem two_le {n k m : Nat} (h : n + 2 * m ≤ 35184372088832) (hk : k < m) : n + 2 * k + 2 ≤ 70368744177664 := by omega
theorem two_nx {n k n' : Nat} (h : n' = n + 2 * k) : n' + 2 = n + 2 * (k + 1) := by omega
set_option maxHeartbeats 2000000 in
set_option maxRecDepth 20000 in
theorem ptwo_any (A : Option Addr) (n c base : Nat) (l : List UInt8) (vs : List Int) (b2 m c2 : Nat) (w : World) (h : Wr w base A n c l) (hbase : base ≤ w.heap.size) (hx : Box w b2 3 (I vs).toArray) (ha : Apart A b2) (hm : vs.length = m) (hn : n + 2 * m ≤ 35184372088832) (hm100 : m ≤ 100) (hv : ∀ v ∈ vs, 0 ≤ v ∧ v ≤ 4294967295) :
    Calls Try.prog 21 #[.slice A n c, .slice (some ⟨b2, 0, none⟩) m c2] w fun e w' => ∃ A' c', e = .returned (.slice A' (n + 2 * m) c') ∧ WroteK w w' base A n A' (n + 2 * m) c' (l ++ Pk.bs vs) := by
  have HV := Lib.hid hv
  have HM := Lib.hid hm
  have HN := Lib.hid hn
  have hlt := hx.lt
  clear hv hm hn
  go_enter Try.func21, Try.ntmps21
  go_wp2
  go_loopw [0, 9] (fun b i wr => ∃ (A' : Option Addr) (n' c' k : Nat) (l' : List UInt8), b = .slice A' n' c' ∧ WroteK w wr base A n A' n' c' l' ∧ Apart A' b2 ∧ k ≤ m ∧ i = .int .i64 (k : Int) ∧ Hid (n' = n + 2 * k ∧ l' = l ++ Pk.bs (vs.take k))) (fun _ i _ => m - (intOf i).toNat)
  case atStart => exact ⟨A, n, c, 0, l, rfl, WroteK.start h, ha, by omega, rfl, Lib.hid ⟨by omega, by simp [Pk.bs]⟩⟩
  case round =>
    obtain ⟨A', n', c', k, l', rfl, hw, ha', hk, rfl, HK⟩ := hrel
    have hsz := hw.1.2.1.size
    have hk0 : (0 : Int) ≤ (k : Int) := by omega
    by_cases hkm : k < m
    rotate_left
    · have g1 : decide ((k : Int) < (m : Int)) = false := decide_eq_false (by omega)
      have g2 : decide (k < m) = false := decide_eq_false hkm
      go_wp2
      go_ret
      obtain ⟨e1, e2⟩ := HK.out
      have e3 : k = m := by omega
      rw [e3] at e1 e2
      rw [List.take_of_length_le (by rw [HM.out]; omega)] at e2
      subst e1 e2
      exact ⟨A', c', rfl, hw⟩
    have g1 : decide ((k : Int) < (m : Int)) = true := decide_eq_true (by omega)
    have g2 : decide (k < m) = true := decide_eq_true hkm
    obtain ⟨v, hvk⟩ : ∃ v, vs[k]? = some v := ⟨_, List.getElem?_eq_getElem (by have := HM.out; omega)⟩
    have hv2 := HV.out v (List.mem_of_getElem? hvk)
    have HVK := Lib.hid hvk
    have hv0 : 0 ≤ v := hv2.1
    have HV2 := Lib.hid hv2
    have X := hw.1.box' hx ha
    have cx : wr.cell? ⟨b2, k, none⟩ = some (.int .i64 v) := X.at k (by simp [I, hvk])
    clear hv2 hvk
    obtain ⟨y1, hy1⟩ : ∃ x, UInt8.ofNat (v.toNat / 256) = x := ⟨_, rfl⟩
    obtain ⟨y0, hy0⟩ : ∃ x, UInt8.ofNat v.toNat = x := ⟨_, rfl⟩
    have e1 : ((y1.toNat : Nat) : Int) = v / 256 % 256 := by rw [← hy1, UInt8.toNat_ofNat']; omega
    have e0 : ((y0.toNat : Nat) : Int) = v % 256 := by rw [← hy0, UInt8.toNat_ofNat']; omega
    have HB : Hid (Pk.b2 v.toNat = [y1, y0]) := Lib.hid (by unfold Pk.b2; rw [hy1, hy0])
    have HU : Hid (U [y1, y0] = [.int .u8 (v / 256 % 256), .int .u8 (v % 256)]) := Lib.hid (by show [Value.int .u8 (y1.toNat : Int), Value.int .u8 (y0.toNat : Int)] = _; rw [e1, e0])
    clear hy1 hy0 e1 e0
    have hbd : n' + 2 ≤ 70368744177664 := by have h1 := HK.out.1; have h2 := two_le HN.out hkm; omega
    go_wp2_with (at_builtin; refine wrK_law rfl (.tmp 13) (.tmp 19) rfl rfl (hw.alloc _).1.1 (by simp; omega) rfl (news := [y1, y0]) (by rw [HU.out]; exact Rd.lit _ _ _ 1 2 rfl) (by omega) (by omega) ?_; rintro A2 c3 w2 hw2)
    have hw3 := (hw.alloc _).trans hw2
    have ha3 : Apart A2 b2 := hw3.1.apart ha hlt
    go_roundw
    case rel => exact ⟨A2, _, c3, k + 1, _, rfl, hw3, ha3, by omega, by go_num, Lib.hid ⟨two_nx HK.out.1, by rw [Pk.bs_more HVK.out, HB.out, HK.out.2, List.append_assoc]⟩⟩
    case measure => simp [intOf]; omega
end Go.Proofs.Ytbioblknhfmelaa

