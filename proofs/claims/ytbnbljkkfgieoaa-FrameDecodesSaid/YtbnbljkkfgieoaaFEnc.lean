/- frame.Encode and bellwetherref03.Encode: a frame's bytes. -/
import Derived.Test.YtbnbljkkfgieoaaFRight
import Derived.Test.YtbnbljkkfgieoaaQTake
import Derived.Test.YtbnbljkkfgieoaaSOpen
namespace Go.Proofs.Ytbnbljkkfgieoaa
set_option linter.unusedVariables false
set_option linter.unusedSimpArgs false
open Go.RowKit

theorem head_U : [Value.int .u8 66, .int .u8 87, .int .u8 1] = U F.head := rfl
theorem inner_len (f : Fr) : (F.inner f).length = 3 + Q.size f.kind + (Q.txt (strB f.clu)).length + Q.size f.frm + (Q.txt (strB f.pay)).length := by
  unfold F.inner
  simp only [List.length_append, Q.length_ub]
  rfl

theorem mark_head (w : World) : (convert 22 22 (.slice (some ⟨w.heap.size, 0, none⟩) 3 3)).run Try.prog (w.alloc (.cells #[.int .u8 66, .int .u8 87, .int .u8 1] 5)) = .ok (.slice (some ⟨w.heap.size, 0, none⟩) 3 3) (w.alloc (litO F.head)) := run_mark w F.head 3

set_option maxHeartbeats 1600000 in
set_option maxRecDepth 20000 in
theorem encode_any (f : Fr) (A : Option Addr) (n c B : Nat) (w : World) (h : Rd w B 1 A n (U f.pay)) (hB : B ≤ w.heap.size) :
    Calls Try.prog 9 #[fv f A n c] w fun e w' => (F.may f ∧ (∃ A' c', e = .returned (.tuple #[.slice A' (F.enc f).length c', .int .i64 0]) ∧ w'.ownsRow w.heap.size 5 1 (.slice A' (F.enc f).length c') (F.enc f).length (U (F.enc f))) ∨
      ¬ F.may f ∧ e = .returned (.tuple #[.slice none 0 0, .int .i64 1])) ∧ Below w.heap.size w w' := by
  have hn : n = f.pay.length := by have := h.len1; rw [U_length] at this; exact this.symm
  by_cases hm : F.may f
  · have hrb : rightB f = true := decide_eq_true hm
    obtain ⟨h1, h2, h3, h4, h5, h6, h7⟩ := id hm
    have hk : Q.may f.kind := ⟨by omega, by omega⟩
    have hf : Q.may f.frm := ⟨by omega, by omega⟩
    have HM := Lib.hid hm
    have hcl : (strB f.clu).size = f.clu.length := strB_size f.clu
    have hpl : (strB f.pay).size = f.pay.length := strB_size f.pay
    have z1 := Q.size_le f.kind
    have z2 := Q.size_le f.frm
    have z3 := Q.length_txt (strB f.clu)
    have z4 := Q.size_le (strB f.clu).size
    have z5 := Q.length_txt (strB f.pay)
    have z6 := Q.size_le (strB f.pay).size
    have z7 : (Q.txt (strB f.clu)).length ≤ 39 := by omega
    have z8 : (Q.txt (strB f.pay)).length ≤ 30009 := by omega
    have z9 : (strB f.clu).size ≤ 30 := by omega
    have z10 : (strB f.pay).size ≤ 30000 := by omega
    have el := inner_len f
    have EL := Lib.hid el
    have HN := Lib.hid hn
    clear hm hk hf z3 z4 z5 z6 hcl hpl el hn
    simp only [fv]
    go_enter Try.func9, Try.ntmps9
    go_wp2_with fail
    have hx0 := Cells.new w #[.int .i64 f.kind, .string (strB f.clu), .int .i64 f.frm, .slice A n c] 24
    have hb0 : Below w.heap.size w (w.alloc (.cells #[.int .i64 f.kind, .string (strB f.clu), .int .i64 f.frm, .slice A n c] 24)) := (Below.refl _ _).alloc (Nat.le_refl _) _
    refine (right_any f A n c _ HN.out).mono ?_
    rintro e w1 ⟨rfl, hb1⟩
    have hb1' : Below w.heap.size w w1 := hb0.trans (hb1.mono hb0.size)
    have hx1 := hx0.belowH hb1
    have hr1 := h.below (hb1'.mono hB)
    have k0 := hx1.at 0 rfl
    have hmk := mark_head w1
    have s1 : w.heap.size < w1.heap.size := hx1.1
    go_wp2_with fail
    have hone : Rd ((w1.alloc (litO F.head)).alloc (.cells #[.int .i64 f.kind] 3)) (w1.heap.size + 2) 1 (some ⟨w1.heap.size + 1, 0, none⟩) 1 (I [f.kind]) := by
      have h9 := Rd.one (w1.alloc (litO F.head)) (.int .i64 f.kind) 3
      rwa [show (w1.alloc (litO F.head)).heap.size = w1.heap.size + 1 by simp] at h9
    refine (num_any _ _ 3 3 1 1 (w1.heap.size + 2) (U F.head) [f.kind] _ (((Rd.mark w1 F.head rfl).alloc (by simp) _).more (by omega)) (U_one _) hone (by simp) (by omega) (by omega)).mono ?_
    rintro e w2 ⟨A2, c2, rfl, hown2, hb2⟩
    have e1 : Q.sizes [f.kind] = Q.size f.kind := by simp [Q.sizes]
    have e2 : Q.ubs [f.kind] = Q.ub f.kind := by simp [Q.ubs]
    rw [e1, e2, ← U_append] at hown2
    rw [e1]
    have hb2' : Below w.heap.size w w2 := ((hb1'.alloc hb1'.size _).alloc (by simp; omega) _).trans (hb2.mono (by simp; omega))
    have hx2 : Cells w2 w.heap.size [.int .i64 f.kind, .string (strB f.clu), .int .i64 f.frm, .slice A n c] := ((hx1.alloc _).alloc _).belowH hb2
    have q2 := hx2.at 1 rfl
    go_wp2_with fail
    refine (text_any A2 _ c2 _ _ (strB f.clu) _ (Rd.of_own hown2) (U_one _) (Nat.le_refl _) (by omega) (by omega)).mono ?_
    rintro e w3 ⟨A3, c3, rfl, hown3, hb3⟩
    rw [← U_append] at hown3
    have hb3' : Below w.heap.size w w3 := hb2'.trans (hb3.mono hb2'.size)
    have hx3 := hx2.belowH hb3
    have k3 := hx3.at 2 rfl
    have s3 : w.heap.size < w3.heap.size := hx3.1
    go_wp2_with fail
    refine (num_any A3 _ _ c3 1 1 (w3.heap.size + 1) _ [f.frm] _ (((Rd.of_own hown3).alloc (Nat.le_refl _) _).more (by omega)) (U_one _) (Rd.one w3 _ _) (by simp) (by omega) (by omega)).mono ?_
    rintro e w4 ⟨A4, c4, rfl, hown4, hb4⟩
    have e3 : Q.sizes [f.frm] = Q.size f.frm := by simp [Q.sizes]
    have e4 : Q.ubs [f.frm] = Q.ub f.frm := by simp [Q.ubs]
    rw [e3, e4, ← U_append] at hown4
    rw [e3]
    have hb4' : Below w.heap.size w w4 := (hb3'.alloc hb3'.size _).trans (hb4.mono (by simp; omega))
    have hx4 : Cells w4 w.heap.size [.int .i64 f.kind, .string (strB f.clu), .int .i64 f.frm, .slice A n c] := (hx3.alloc _).belowH hb4
    have k4 := hx4.at 3 rfl
    have hr4 := h.below (hb4'.mono hB)
    have hstr := run_str (P := Try.prog) (c := c) 22 9 5 Try.underlying22 Try.underlying5 Try.underlying9 hr4
    go_wp2_with fail
    refine (text_any A4 _ c4 _ _ (strB f.pay) _ (Rd.of_own hown4) (U_one _) (Nat.le_refl _) (by omega) (by omega)).mono ?_
    rintro e w5 ⟨A5, c5, rfl, hown5, hb5⟩
    have hb5' : Below w.heap.size w w5 := hb4'.trans (hb5.mono hb4'.size)
    rw [← U_append] at hown5
    have ei : F.head ++ Q.ub f.kind ++ Q.txt (strB f.clu) ++ Q.ub f.frm ++ Q.txt (strB f.pay) = F.inner f := rfl
    rw [ei, ← EL.out] at hown5
    rw [← EL.out]
    have hil : (F.inner f).length ≤ 31000 := by have := EL.out; omega
    have HS := Lib.hid (S.length_sealed (F.inner f))
    clear ei
    go_wp2_with fail
    refine (seal_any A5 _ c5 _ (F.inner f) _ (Rd.of_own hown5) (Nat.le_refl _) (by omega)).mono ?_
    rintro e w6 ⟨A6, c6, rfl, hown6, hb6⟩
    go_wp2
    go_ret2
    have es : (F.inner f).length + 4 = (F.enc f).length := HS.out.symm
    rw [es] at hown6
    exact ⟨Or.inl ⟨HM.out, A6, c6, by rw [es]; rfl, own_mono hown6 hb5'.size⟩, hb5'.trans (hb6.mono hb5'.size)⟩
  · have hrb : rightB f = false := decide_eq_false hm
    have HM := Lib.hid hm
    have HN := Lib.hid hn
    clear hm hn
    simp only [fv]
    go_enter Try.func9, Try.ntmps9
    go_wp2_with (go_at_call 12; refine (right_any f A n c _ HN.out).mono ?_; rintro e w1 ⟨rfl, hb1⟩)
    go_ret2
    exact ⟨Or.inr ⟨HM.out, rfl⟩, ((Below.refl _ _).alloc (Nat.le_refl _) _).trans (hb1.mono (by simp))⟩

set_option maxHeartbeats 1600000 in
set_option maxRecDepth 20000 in
theorem rencode_any (f : Fr) (A : Option Addr) (n c B : Nat) (w : World) (h : Rd w B 1 A n (U f.pay)) (hB : B ≤ w.heap.size) :
    Calls Try.prog 10 #[fv f A n c] w fun e w' => (F.may f ∧ (∃ A' c', e = .returned (.tuple #[.slice A' (F.enc f).length c', .int .i64 0]) ∧ w'.ownsRow w.heap.size 5 1 (.slice A' (F.enc f).length c') (F.enc f).length (U (F.enc f))) ∨
      ¬ F.may f ∧ e = .returned (.tuple #[.slice none 0 0, .int .i64 1])) ∧ Below w.heap.size w w' := by
  have hn : n = f.pay.length := by have := h.len1; rw [U_length] at this; exact this.symm
  by_cases hm : F.may f
  · have hrb : rightB f = true := decide_eq_true hm
    obtain ⟨h1, h2, h3, h4, h5, h6, h7⟩ := id hm
    have HM := Lib.hid hm
    have hcl : (strB f.clu).size = f.clu.length := strB_size f.clu
    have hpl : (strB f.pay).size = f.pay.length := strB_size f.pay
    have z1 := Q.size_le f.kind
    have z2 := Q.size_le f.frm
    have z3 := Q.length_txt (strB f.clu)
    have z4 := Q.size_le (strB f.clu).size
    have z5 := Q.length_txt (strB f.pay)
    have z6 := Q.size_le (strB f.pay).size
    have z7 : (Q.txt (strB f.clu)).length ≤ 39 := by omega
    have z8 : (Q.txt (strB f.pay)).length ≤ 30009 := by omega
    have z9 : (strB f.clu).size ≤ 30 := by omega
    have z10 : (strB f.pay).size ≤ 30000 := by omega
    have el := inner_len f
    have EL := Lib.hid el
    have HN := Lib.hid hn
    clear hm z3 z4 z5 z6 hcl hpl el hn
    simp only [fv]
    go_enter Try.func10, Try.ntmps10
    go_wp2_with fail
    have hx0 := Cells.new w #[.int .i64 f.kind, .string (strB f.clu), .int .i64 f.frm, .slice A n c] 24
    have hb0 : Below w.heap.size w (w.alloc (.cells #[.int .i64 f.kind, .string (strB f.clu), .int .i64 f.frm, .slice A n c] 24)) := (Below.refl _ _).alloc (Nat.le_refl _) _
    refine (rright_any f A n c _ HN.out).mono ?_
    rintro e w1 ⟨rfl, hb1⟩
    have hb1' : Below w.heap.size w w1 := hb0.trans (hb1.mono hb0.size)
    have hx1 := hx0.belowH hb1
    have hr1 := h.below (hb1'.mono hB)
    have k0 := hx1.at 0 rfl
    have s1 : w.heap.size < w1.heap.size := hx1.1
    go_wp2_with fail
    refine (rnum_any _ 3 3 (w1.heap.size + 1) (U F.head) f.kind _ (Rd.lit w1 _ _ 1 3 rfl) (U_one _) (by simp) (by omega)).mono ?_
    rintro e w2 ⟨A2, c2, rfl, hown2, hb2⟩
    rw [← U_append] at hown2
    have hb2' : Below w.heap.size w w2 := (hb1'.alloc hb1'.size _).trans (hb2.mono (by simp; omega))
    have hx2 : Cells w2 w.heap.size [.int .i64 f.kind, .string (strB f.clu), .int .i64 f.frm, .slice A n c] := (hx1.alloc _).belowH hb2
    have q0 := hx2.at 0 rfl
    have q1 := hx2.at 1 rfl
    have q2 := hx2.at 2 rfl
    have q3 := hx2.at 3 rfl
    go_wp2
    clear q3
    have q4 : w2.drew.cell? ⟨w.heap.size, 1, none⟩ = some (.string (strB f.clu)) := q1
    go_region_held3 (fun w' => w'.cell? ⟨w.heap.size, 1, none⟩ = some (.string (strB f.clu)) ∧ w'.cell? ⟨w.heap.size, 2, none⟩ = some (.int .i64 f.frm)) (go_keep)
      (first
      | (go_at_call 22; refine (rtext_any A2 _ c2 w2.heap.size _ (strB f.clu) _ (by exact Rd.of_own hown2) (U_one _) (by exact Nat.le_refl _) (by omega) (by omega)).mono ?_; rintro e w3 ⟨A3, c3, rfl, hown3, hb3⟩; rw [← U_append] at hown3; have hx3 := hx2.drew.belowH hb3; have k1 := hx3.at 1 rfl; have k2 := hx3.at 2 rfl)
      | (go_at_call 21; refine (rnum_any A3 _ c3 w3.heap.size _ f.frm _ (Rd.of_own hown3) (U_one _) (Nat.le_refl _) (by omega)).mono ?_; rintro e w4 ⟨A4, c4, rfl, hown4, hb4⟩; rw [← U_append] at hown4; have hx4 := hx3.belowH hb4; have k3 := hx4.at 1 rfl; have k4 := hx4.at 2 rfl))
    have hb3' : Below w.heap.size w w3 := hb2'.drew.trans (hb3.mono hb2'.size)
    have hb4' : Below w.heap.size w w4 := hb3'.trans (hb4.mono hb3'.size)
    have k5 := hx4.at 3 rfl
    have hr4 := h.below (hb4'.mono hB)
    have hstr := run_str (P := Try.prog) (c := c) 22 9 5 Try.underlying22 Try.underlying5 Try.underlying9 hr4
    go_wp2_with fail
    refine (rtext_any A4 _ c4 _ _ (strB f.pay) _ (Rd.of_own hown4) (U_one _) (Nat.le_refl _) (by omega) (by omega)).mono ?_
    rintro e w5 ⟨A5, c5, rfl, hown5, hb5⟩
    have hb5' : Below w.heap.size w w5 := hb4'.trans (hb5.mono hb4'.size)
    rw [← U_append] at hown5
    have ei : F.head ++ Q.ub f.kind ++ Q.txt (strB f.clu) ++ Q.ub f.frm ++ Q.txt (strB f.pay) = F.inner f := rfl
    rw [ei, ← EL.out] at hown5
    rw [← EL.out]
    have hil : (F.inner f).length ≤ 31000 := by have := EL.out; omega
    have HS := Lib.hid (S.length_sealed (F.inner f))
    clear ei
    go_wp2_with fail
    refine (rseal_any A5 _ c5 _ (F.inner f) _ (Rd.of_own hown5) (Nat.le_refl _) (by omega)).mono ?_
    rintro e w6 ⟨A6, c6, rfl, hown6, hb6⟩
    go_wp2
    go_ret2
    have es : (F.inner f).length + 4 = (F.enc f).length := HS.out.symm
    rw [es] at hown6
    exact ⟨Or.inl ⟨HM.out, A6, c6, by rw [es]; rfl, own_mono hown6 hb5'.size⟩, hb5'.trans (hb6.mono hb5'.size)⟩
  · have hrb : rightB f = false := decide_eq_false hm
    have HM := Lib.hid hm
    have HN := Lib.hid hn
    clear hm hn
    simp only [fv]
    go_enter Try.func10, Try.ntmps10
    go_wp2_with (go_at_call 13; refine (rright_any f A n c _ HN.out).mono ?_; rintro e w1 ⟨rfl, hb1⟩)
    go_ret2
    exact ⟨Or.inr ⟨HM.out, rfl⟩, ((Below.refl _ _).alloc (Nat.le_refl _) _).trans (hb1.mono (by simp))⟩
end Go.Proofs.Ytbnbljkkfgieoaa
