/- Whether states are more than is looked at. -/
import Derived.Test.YtfpfpepejocjfaaTRef5
namespace Go.Proofs.Ytfpfpepejocjfaa
set_option linter.unusedVariables false
set_option linter.unusedSimpArgs false
open Go.RowKit

theorem Rd.atS {w : World} {B n : Nat} {A : Option Addr} {l : List Sv} (h : Rd w B 3 A n (FC scl l)) {k : Nat} (hk : k < n) :
    ∃ b o x, A = some ⟨b, o, none⟩ ∧ b < B ∧ l[k]? = some x ∧ w.cell? ⟨b, o + k * 3, none⟩ = some (.int .i64 x.s.gen) ∧ w.cell? ⟨b, o + k * 3 + 1, none⟩ = some (.int .i64 x.s.beat) ∧
      w.cell? ⟨b, o + k * 3 + 2, none⟩ = some (.slice x.A x.n x.c) := by
  obtain ⟨b, o, x, e, hb, hx, hc⟩ := h.atF (by omega) scl_len hk
  exact ⟨b, o, x, e, hb, hx, hc 0 _ rfl, by have := hc 1 _ rfl; rwa [← Nat.add_assoc] at this, by have := hc 2 _ rfl; rwa [← Nat.add_assoc] at this⟩
/-- a state that can be looked at -/
def SFit (w : World) (v : Sv) : Prop := SRd w v ∧ v.n * 32 ≤ 140737488351232 ∧ ∀ x ∈ v.s.apps, x.val.length ≤ 140737488351232
theorem SFit.belowH {w w' : World} {v : Sv} (h : SFit w v) (hb : Below w.heap.size w w') : SFit w' v := ⟨h.1.belowH hb, h.2⟩
theorem SFit.alloc {w : World} {v : Sv} (h : SFit w v) (o : Obj) : SFit (w.alloc o) v := ⟨h.1.alloc o, h.2⟩
def greats (l : List Sv) : Bool := l.any fun v => E.great v.s.apps

set_option maxHeartbeats 1000000 in
theorem greats_any (l : List Sv) (A : Option Addr) (n c B : Nat) (w : World) (h : Rd w B 3 A n (FC scl l)) (hB : B ≤ w.heap.size) (hn : n ≤ 1000000) (hf : ∀ v ∈ l, SFit w v) :
    Calls Try.prog 10 #[.slice A n c] w fun e w' => e = .returned (.bool (greats l)) ∧ Below w.heap.size w w' := by
  have hl := h.lenF (by omega) scl_len
  have HL := Lib.hid hl
  have HF := Lib.hid hf
  clear hl hf
  go_enter Try.func10, Try.ntmps10
  go_wp2
  go_loopw [3] (fun i wr => ∃ k : Nat, k ≤ n ∧ i = .int .i64 k ∧ greats (l.take k) = false ∧ Below w.heap.size w wr) (fun i _ => n - (intOf i).toNat)
  case atStart => exact ⟨0, by omega, rfl, rfl, Below.refl _ _⟩
  case round =>
    obtain ⟨k, hk, rfl, hno, hbel⟩ := hrel
    have HN := Lib.hid hno
    have hbs := hbel.size
    clear hno
    by_cases hlt : k < n
    · obtain ⟨b, o, x, e1, hb, hx, c0, c1, c2⟩ := (h.below (hbel.mono hB)).atS hlt
      subst e1
      have hfx := (HF.out x (List.mem_of_getElem? hx)).belowH hbel
      have HX := Lib.hid hx
      have hmore : greats (l.take (k + 1)) = E.great x.s.apps := by
        have h1 := HN.out
        unfold greats at h1 ⊢
        rw [take_more hx, List.any_append, h1]; simp
      have HM := Lib.hid hmore
      clear hx hmore
      go_wp2_with fail
      refine (rsgreat_any x _ hfx.1 hfx.2.1 hfx.2.2).mono ?_
      rintro e w2 ⟨rfl, hb2⟩
      have hbel2 := hbel.trans (hb2.mono hbs)
      clear hb2 c0 c1 c2 hfx
      rcases hg : E.great x.s.apps
      · have HG := Lib.hid hg
        clear hg
        go_wp2
        go_roundw
        case rel => exact ⟨k + 1, by omega, by go_num, by rw [HM.out, HG.out], hbel2⟩
        case measure => simp [intOf]; omega
      · have hall : greats l = true := List.any_eq_true.2 ⟨x, List.mem_of_getElem? HX.out, hg⟩
        have HA := Lib.hid hall
        clear hg hall
        go_wp2
        go_ret
        exact ⟨ret_bool HA.out.symm, hbel2⟩
    · have he : greats l = false := by have := HN.out; rwa [List.take_of_length_le (by have := HL.out; omega)] at this
      have HE := Lib.hid he
      clear he
      go_wp2
      go_ret
      exact ⟨ret_bool HE.out.symm, hbel⟩
end Go.Proofs.Ytfpfpepejocjfaa
