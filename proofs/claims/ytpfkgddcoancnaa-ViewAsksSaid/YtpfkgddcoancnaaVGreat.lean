/- Whether views are more than is looked at. -/
import Derived.Test.YtpfkgddcoancnaaVRef7
namespace Go.Proofs.Ytpfkgddcoancnaa
set_option linter.unusedVariables false
set_option linter.unusedSimpArgs false
open Go.RowKit

/-- a view's own cell, in a slice of views -/
def vcl (v : Vw) : List Value := [vval v]
theorem vcl_len (v : Vw) : (vcl v).length = 1 := rfl
theorem vcl_one (v : Vw) : ∀ u ∈ vcl v, u.oneCell' = true := by
  intro u hu
  simp [vcl] at hu
  subst hu; rfl
theorem Rd.atV {w : World} {B n : Nat} {A : Option Addr} {l : List Vw} (h : Rd w B 1 A n (FC vcl l)) {k : Nat} (hk : k < n) :
    ∃ b o x, A = some ⟨b, o, none⟩ ∧ b < B ∧ l[k]? = some x ∧ w.cell? ⟨b, o + k, none⟩ = some (.slice x.A x.n x.c) := by
  obtain ⟨b, o, x, e, hb, hx, hc⟩ := h.atF (by omega) vcl_len hk
  refine ⟨b, o, x, e, hb, hx, ?_⟩
  have h1 := hc 0 _ rfl
  rwa [Nat.mul_one, Nat.add_zero] at h1
/-- a view that can be looked at -/
def VLook (w : World) (v : Vw) : Prop := VRd w v ∧ v.n * 48 ≤ 140737488351232 ∧ ∀ x ∈ v.l, x.v.n * 32 ≤ 140737488351232 ∧ ∀ y ∈ x.v.s.apps, y.val.length ≤ 140737488351232
theorem VLook.belowH {w w' : World} {v : Vw} (h : VLook w v) (hb : Below w.heap.size w w') : VLook w' v := ⟨h.1.belowH hb, h.2⟩
theorem VLook.alloc {w : World} {v : Vw} (h : VLook w v) (o : Obj) : VLook (w.alloc o) v := ⟨h.1.allocH o, h.2⟩
def greatvs (l : List Vw) : Bool := l.any fun v => vgreatB v.l

set_option maxHeartbeats 1000000 in
theorem greatvs_any (l : List Vw) (A : Option Addr) (n c B : Nat) (w : World) (h : Rd w B 1 A n (FC vcl l)) (hB : B ≤ w.heap.size) (hn : n ≤ 1000000) (hf : ∀ v ∈ l, VLook w v) :
    Calls Try.prog 9 #[.slice A n c] w fun e w' => e = .returned (.bool (greatvs l)) ∧ Below w.heap.size w w' := by
  have hl := h.lenF (by omega) vcl_len
  have HL := Lib.hid hl
  have HF := Lib.hid hf
  clear hl hf
  go_enter Try.func9, Try.ntmps9
  go_wp2
  go_loopw [3] (fun i wr => ∃ k : Nat, k ≤ n ∧ i = .int .i64 k ∧ greatvs (l.take k) = false ∧ Below w.heap.size w wr) (fun i _ => n - (intOf i).toNat)
  case atStart => exact ⟨0, by omega, rfl, rfl, Below.refl _ _⟩
  case round =>
    obtain ⟨k, hk, rfl, hno, hbel⟩ := hrel
    have HN := Lib.hid hno
    have hbs := hbel.size
    clear hno
    by_cases hlt : k < n
    · obtain ⟨b, o, x, e1, hb, hx, c0⟩ := (h.below (hbel.mono hB)).atV hlt
      subst e1
      have hfx := (HF.out x (List.mem_of_getElem? hx)).belowH hbel
      have HX := Lib.hid hx
      have hmore : greatvs (l.take (k + 1)) = vgreatB x.l := by
        have h1 := HN.out
        unfold greatvs at h1 ⊢
        rw [take_more hx, List.any_append, h1]; simp
      have HM := Lib.hid hmore
      clear hx hmore
      go_wp2_with fail
      refine (rvgreat_any x _ hfx.1 hfx.2.1 hfx.2.2).mono ?_
      rintro e w2 ⟨rfl, hb2⟩
      have hbel2 := hbel.trans (hb2.mono hbs)
      clear hb2 c0 hfx
      rcases hg : vgreatB x.l
      · have HG := Lib.hid hg
        clear hg
        go_wp2
        go_roundw
        case rel => exact ⟨k + 1, by omega, by go_num, by rw [HM.out, HG.out], hbel2⟩
        case measure => simp [intOf]; omega
      · have hall : greatvs l = true := List.any_eq_true.2 ⟨x, List.mem_of_getElem? HX.out, hg⟩
        have HA := Lib.hid hall
        clear hg hall
        go_wp2
        go_ret
        exact ⟨ret_bool HA.out.symm, hbel2⟩
    · have he : greatvs l = false := by have := HN.out; rwa [List.take_of_length_le (by have := HL.out; omega)] at this
      have HE := Lib.hid he
      clear he
      go_wp2
      go_ret
      exact ⟨ret_bool HE.out.symm, hbel⟩
end Go.Proofs.Ytpfkgddcoancnaa
