/- QSize QLay QTake YRef2 YRef3 YMath2 (merged). -/
import Derived.WalkKit
import Derived.Lib.Hide
import Derived.WalkSpells
import Derived.RegionTactic
import Derived.BigQuiet
import Derived.Deep.QuietTactic
import Derived.Deep.DeepCutAuto
import Derived.Test.YtmbfldcmiabccaaGreatDoorJF00
import Derived.Test.YtmbfldcmiabccaaGreatDoorJF05
import Derived.Test.YtmbfldcmiabccaaGreatDoorJF06
namespace Go.Proofs.YtmbfldcmiabccaaGreatDoor
open Go.RowKit

set_option maxHeartbeats 400000 in
theorem size_no (n : Int) (w : World) (h : ¬ Q.may n) :
    Calls Tryz.prog 108 #[.int .i64 n] w fun e w' => e = .returned (.int .i64 0) ∧ w = w' := by
  unfold Q.may at h
  by_cases h0 : n < 0
  · go_enter Tryz.func108, Tryz.ntmps108
    go_wp2
    go_ret
    exact ⟨rfl, rfl⟩
  · have h1 : 4611686018427387904 < n := by omega
    go_enter Tryz.func108, Tryz.ntmps108
    go_wp2
    go_ret
    exact ⟨rfl, rfl⟩

set_option maxHeartbeats 400000 in
theorem size_yes (n : Int) (w : World) (h0 : 0 ≤ n) (h1 : n ≤ 4611686018427387904) :
    Calls Tryz.prog 108 #[.int .i64 n] w fun e w' => e = .returned (.int .i64 (Q.sz n.toNat)) ∧ w = w' := by
  go_enter Tryz.func108, Tryz.ntmps108
  go_wp2
  go_loop [0, 3] (fun x s => ∃ c m : Nat, Q.SzAt n.toNat c m ∧ c ≤ 9 ∧ x = .int .i64 m ∧ s = .int .i64 c) (fun x _ => (intOf x).toNat)
  case atStart => exact ⟨1, n.toNat, Q.szAt_start _ (by omega), by omega, by go_num, rfl⟩
  case round =>
    obtain ⟨c, m, hs, hc, rfl, rfl⟩ := hrel
    have hm := (Q.szAt_le hs).2
    have hS := Lib.hid hs
    clear hs
    by_cases hlt : 127 < m
    · go_wp2
      go_round
      case rel => exact ⟨c + 1, m / 128, Q.szAt_step hS.out hlt, by have := (Q.szAt_le (Q.szAt_step hS.out hlt)).1; omega, by go_num, by go_num⟩
      case measure => simp [intOf]; omega
    · go_wp2
      go_ret
      exact ⟨by rw [Q.szAt_end hS.out (by omega)]; rfl, rfl⟩

/-- quill.Size, at any number. -/
theorem size_any (n : Int) (w : World) :
    Calls Tryz.prog 108 #[.int .i64 n] w fun e w' => e = .returned (.int .i64 (Q.size n)) ∧ w = w' := by
  by_cases h : Q.may n
  · have e : Q.size n = Q.sz n.toNat := by simp [Q.size, h]
    rw [e]; exact size_yes n w h.1 h.2
  · have e : Q.size n = 0 := by simp [Q.size, h]
    rw [e]; exact size_no n w h

/-- bellwetherref01.may -/
def mayB (n : Int) : Bool := decide (Q.may n)
theorem mayB_neg {n : Int} (h : n < 0) : mayB n = false := by
  have : ¬ Q.may n := fun k => by have := k.1; omega
  simp [mayB, this]
theorem may_any (n : Int) (w : World) :
    Calls Tryz.prog 74 #[.int .i64 n] w fun e w' => e = .returned (.bool (mayB n)) ∧ w = w' := by
  by_cases h0 : 0 ≤ n
  · by_cases h1 : n ≤ 4611686018427387904
    all_goals
      go_enter Tryz.func74, Tryz.ntmps74
      go_wp2
      go_ret
      exact ⟨by simp [mayB, Q.may, h0, h1], rfl⟩
  · go_enter Tryz.func74, Tryz.ntmps74
    go_wp2
    go_ret
    exact ⟨ret_bool (mayB_neg h0).symm, rfl⟩

theorem rsize_no (n : Int) (w : World) (h : ¬ Q.may n) :
    Calls Tryz.prog 104 #[.int .i64 n] w fun e w' => e = .returned (.int .i64 0) ∧ w = w' := by
  have hb : mayB n = false := by simp [mayB, h]
  clear h
  go_enter Tryz.func104, Tryz.ntmps104
  go_wp2_with (go_at_call 74; refine (may_any _ _).mono ?_; rintro e w' ⟨rfl, rfl⟩)
  go_ret
  exact ⟨rfl, rfl⟩
theorem rsize_yes (f : Nat) : f ≤ 8 → ∀ (n : Int) (w : World), 0 ≤ n → n ≤ 4611686018427387904 → n < 128 ^ (f + 1) →
    Calls Tryz.prog 104 #[.int .i64 n] w fun e w' => e = .returned (.int .i64 (Q.szf f n.toNat)) ∧ w = w' := by
  induction f with
  | zero =>
    intro _ n w h0 h1 hlt
    have hlt : n < 128 := by simpa using hlt
    have hb : mayB n = true := by simp [mayB, Q.may, h0, h1]
    go_enter Tryz.func104, Tryz.ntmps104
    go_wp2_with (go_at_call 74; refine (may_any _ _).mono ?_; rintro e w' ⟨rfl, rfl⟩)
    go_ret
    exact ⟨rfl, rfl⟩
  | succ f ih =>
    intro hf n w h0 h1 hlt
    have hb : mayB n = true := by simp [mayB, Q.may, h0, h1]
    have IH := Lib.hid ih
    clear ih
    have hlt' : n / 128 < 128 ^ (f + 1) := by
      rw [Int.pow_succ] at hlt; omega
    have HL := Lib.hid hlt'
    clear hlt hlt'
    have hsz := Q.szf_le f (n / 128).toNat
    by_cases hs : n < 128
    · go_enter Tryz.func104, Tryz.ntmps104
      go_wp2_with (go_at_call 74; refine (may_any _ _).mono ?_; rintro e w' ⟨rfl, rfl⟩)
      go_ret
      exact ⟨by simp only [Q.szf]; rw [if_pos (by omega)]; rfl, rfl⟩
    · go_enter Tryz.func104, Tryz.ntmps104
      go_wp2_with (first
        | (go_at_call 74; refine (may_any _ _).mono ?_; rintro e w' ⟨rfl, rfl⟩)
        | (go_at_call 104; refine (IH.out (by omega) _ _ (by omega) (by omega) HL.out).mono ?_; rintro e w' ⟨rfl, rfl⟩))
      go_ret
      exact ⟨ret_int (by simp only [Q.szf]; rw [if_neg (by omega), show n.toNat / 128 = (n / 128).toNat by omega]; omega), rfl⟩
theorem rsize_any (n : Int) (w : World) :
    Calls Tryz.prog 104 #[.int .i64 n] w fun e w' => e = .returned (.int .i64 (Q.size n)) ∧ w = w' := by
  by_cases h : Q.may n
  · have e : Q.size n = Q.szf 8 n.toNat := by simp [Q.size, Q.sz, h]
    rw [e]; exact rsize_yes 8 (by omega) n w h.1 h.2 (by have := h.2; omega)
  · have e : Q.size n = 0 := by simp [Q.size, h]
    rw [e]; exact rsize_no n w h
end Go.Proofs.YtmbfldcmiabccaaGreatDoor

namespace Go.Proofs.YtmbfldcmiabccaaGreatDoor
open Go.RowKit

/-! ### The reference's -/
set_option maxRecDepth 10000 in
set_option maxHeartbeats 800000 in
theorem rnum_any (A : Option Addr) (n c B : Nat) (xs : List Value) (m : Int) (w : World) (h : Rd w B 1 A n xs) (h1 : ∀ u ∈ xs, u.oneCell' = true) (hB : B ≤ w.heap.size) (hn : n ≤ 35184372088832) :
    Calls Tryz.prog 49 #[.slice A n c, .int .i64 m] w fun e w' => ∃ A' c', e = .returned (.slice A' (n + Q.size m) c') ∧
      w'.ownsRow w.heap.size 5 1 (.slice A' (n + Q.size m) c') (n + Q.size m) (xs ++ U (Q.ub m)) ∧ Below w.heap.size w w' := by
  have hlit : (w.alloc (.cells #[] 5)).ownsRow w.heap.size 5 1 (.slice (some ⟨w.heap.size, 0, none⟩) 0 0) 0 [] := World.ownsRow_lit w #[] 0 (Nat.le_refl _) (by omega) rfl
  by_cases h0 : Q.may m
  · have hb : mayB m = true := by simp [mayB, h0]
    have H0 := Lib.hid h0
    have hm0 : 0 ≤ m := h0.1
    have hm1 : m ≤ 4611686018427387904 := h0.2
    clear h0
    go_enter Tryz.func49, Tryz.ntmps49
    go_wp2_with (first
      | (at_builtin; refine app_law u8T rfl (.tmp 6) (.tmp 7) rfl w.heap.size rfl hlit rfl (h.alloc hB _) h1 (by omega) (by omega) (by simp) ?_; rintro A1 c1 w1 ⟨hown1, hg1, _, holdw1⟩; have hbel1 := below_app ((Below.refl w.heap.size w).alloc (Nat.le_refl _) _) hlit hg1 (Nat.le_refl _) (by simp))
      | (go_at_call 74; refine (may_any _ _).mono ?_; rintro e w' ⟨rfl, rfl⟩))
    have hb1 := hbel1.size
    go_loopw [5, 1] (fun s x wr => ∃ (A' : Option Addr) (c' : Nat) (l : List Nat) (y : Nat), Q.LayAt m.toNat l y ∧ x = .int .i64 y ∧ s = .slice A' (n + l.length) c' ∧
        wr.ownsRow w.heap.size 5 1 (.slice A' (n + l.length) c') (n + l.length) (xs ++ U (l.map UInt8.ofNat)) ∧ Below w.heap.size w wr) (fun _ x _ => (intOf x).toNat)
    case atStart => exact ⟨A1, c1, [], m.toNat, Q.layAt_start _ (by omega), by go_num, rfl, by simpa [U] using hown1, hbel1⟩
    case round =>
      obtain ⟨A2, c2, l, y, hl, rfl, rfl, hown2, hbel2⟩ := hrel
      clear hlit hown1 hg1 hbel1 hb h h1
      have hle := Q.layAt_le hl
      have hl1 := hle.1
      have hl2 := hle.2
      have hbs := hbel2.size
      have HL := Lib.hid hl
      clear hl hle
      by_cases hlt : 128 ≤ y
      · have hm1 : y % 128 ≤ 127 := by omega
        go_wp2_with (at_builtin; refine app_law u8T rfl (.tmp 15) (.tmp 20) rfl w.heap.size rfl (hown2.alloc _) rfl (Rd.one _ _ _) (one_int _ _) (by omega) (by omega) (by simp; omega) ?_; rintro A3 c3 w3 ⟨hown3, hg3, _, holdw3⟩)
        go_roundw
        case rel =>
          have hown3' : w3.ownsRow w.heap.size 5 1 (.slice A3 (n + l.length + 1) c3) (n + l.length + 1) (xs ++ U (l.map UInt8.ofNat) ++ [.int .u8 ((y % 128 + 128 : Nat) : Int)]) := hown3
          rw [U_nat (by omega), List.append_assoc, ← U_append] at hown3'
          have el : n + (l ++ [y % 128 + 128]).length = n + l.length + 1 := by simp; omega
          refine ⟨A3, c3, l ++ [y % 128 + 128], y / 128, Q.layAt_step HL.out hlt, by go_num, by rw [el], ?_, ?_⟩
          · rw [el, List.map_append]; exact hown3'
          · exact below_app (hbel2.alloc (by omega) _) (hown2.alloc _) hg3 (Nat.le_refl _) (by simp; omega)
        case measure => simp [intOf]; omega
      · go_wp2_with (at_builtin; refine app_law u8T rfl (.tmp 24) (.tmp 27) rfl w.heap.size rfl (hown2.alloc _) rfl (Rd.one _ _ _) (one_int _ _) (by omega) (by omega) (by simp; omega) ?_; rintro A3 c3 w3 ⟨hown3, hg3, _, holdw3⟩)
        go_ret
        have E := Q.ub_end H0.out HL.out (by omega)
        refine ⟨A3, c3, by rw [E.2]; rfl, ?_, below_app (hbel2.alloc (by omega) _) (hown2.alloc _) hg3 (Nat.le_refl _) (by simp; omega)⟩
        rw [E.1, E.2, U_append, ← List.append_assoc, ← U_nat (by omega)]
        exact hown3
  · have hb : mayB m = false := by simp [mayB, h0]
    have hs : Q.size m = 0 := by simp [Q.size, h0]
    have hub : Q.ub m = [] := by simp [Q.ub, Q.bytes, h0]
    have HS := Lib.hid hs
    have HU := Lib.hid hub
    clear h0 hs hub
    go_enter Tryz.func49, Tryz.ntmps49
    go_wp2_with (first
      | (at_builtin; refine app_law u8T rfl (.tmp 6) (.tmp 7) rfl w.heap.size rfl hlit rfl (h.alloc hB _) h1 (by omega) (by omega) (by simp) ?_; rintro A1 c1 w1 ⟨hown1, hg1, _, holdw1⟩; have hbel1 := below_app ((Below.refl w.heap.size w).alloc (Nat.le_refl _) _) hlit hg1 (Nat.le_refl _) (by simp))
      | (go_at_call 74; refine (may_any _ _).mono ?_; rintro e w' ⟨rfl, rfl⟩))
    go_ret
    exact ⟨A1, c1, by rw [HS.out]; rfl, by rw [HS.out, HU.out]; simpa [U] using hown1, hbel1⟩

theorem rtext_any (A : Option Addr) (n c B : Nat) (xs : List Value) (s : ByteArray) (w : World) (h : Rd w B 1 A n xs) (h1 : ∀ u ∈ xs, u.oneCell' = true) (hB : B ≤ w.heap.size) (hn : n ≤ 17592186044416) (hs : s.size ≤ 17592186044416) :
    Calls Tryz.prog 48 #[.slice A n c, .string s] w fun e w' => ∃ A' c', e = .returned (.slice A' (n + (Q.txt s).length) c') ∧
      w'.ownsRow w.heap.size 5 1 (.slice A' (n + (Q.txt s).length) c') (n + (Q.txt s).length) (xs ++ U (Q.txt s)) ∧ Below w.heap.size w w' := by
  have hz := Q.size_le s.size
  go_enter Tryz.func48, Tryz.ntmps48
  go_wp2_with (first
    | (go_at_call 49; refine (rnum_any _ _ _ _ _ _ _ h h1 hB (by omega)).mono ?_; rintro e w2 ⟨A3, c3, rfl, hown3, hbel3⟩; have hbs3 := hbel3.size)
    | (at_builtin; refine app_str_law u8T Tryz.underlying9 rfl (.tmp 8) (.tmp 9) rfl w.heap.size rfl hown3 rfl (by omega) (by omega) ?_; intro A4 c4 w4 hown4 hg4))
  go_ret
  have el : n + (Q.txt s).length = n + Q.size ↑s.size + s.size := by rw [Q.length_txt]; omega
  rw [el]
  refine ⟨A4, c4, rfl, ?_, below_app hbel3 hown3 hg4 (Nat.le_refl _) (by omega)⟩
  rw [Q.txt, U_append, ← List.append_assoc]
  exact hown4
end Go.Proofs.YtmbfldcmiabccaaGreatDoor

namespace Go.Proofs.YtmbfldcmiabccaaGreatDoor
open Go.RowKit

theorem shl_or {k acc x : Nat} (hk : k ≤ 8) (ha : acc < 128 ^ k) (hx : x < 256) :
    bits .or .i64 (acc : Int) (wrap64 (wrap64 (bits .and .u8 (x : Int) 127) * 2 ^ (7 * k))) = ((acc + x % 128 * 128 ^ k : Nat) : Int) := by
  have hu := Q.takeAt_unit hk
  have h1 : bits .and .u8 (x : Int) 127 = ((x % 128 : Nat) : Int) := by
    rw [show (127 : Int) = ((127 : Nat) : Int) from rfl, u8_and_nat x 127 hx (by omega), nat_mask7]
  have h2 : (2 : Int) ^ (7 * k) = ((128 ^ k : Nat) : Int) := by
    rw [Int.pow_mul]; simp
  have h3 : x % 128 * 128 ^ k ≤ 127 * 72057594037927936 := Nat.mul_le_mul (by omega) hu
  rw [h1, IntWalk.wrap64_in ((x % 128 : Nat) : Int) ⟨by omega, by omega⟩, h2, ← Int.natCast_mul, IntWalk.wrap64_in _ ⟨by omega, by omega⟩, i64_or _ _ (by omega) (by omega)]
  rw [Nat.or_comm, nat_join (7 * k) _ _ ?_ ?_, Nat.add_comm]
  · rw [Nat.pow_mul]; exact Nat.mul_mod_left _ _
  · rw [Nat.pow_mul]; exact ha

theorem behind_any (A : Option Addr) (n c k : Nat) (w : World) (hk : k ≤ n) (hc : n ≤ c) :
    Calls Tryz.prog 107 #[.slice A n c, .int .i64 k] w fun e w' => e = .returned (.slice (cutA A n k 1) (n - k) (n - k)) ∧ w' = w := by
  have hcut := run_cut_lhm u8T w A n c k n n k n n rfl rfl rfl hk (Nat.le_refl _) hc
  go_enter Tryz.func107, Tryz.ntmps107
  go_wp2
  go_ret
  exact ⟨rfl, rfl⟩

set_option maxRecDepth 20000 in
set_option maxHeartbeats 1000000 in
theorem take_any (A : Option Addr) (n c B : Nat) (l : List UInt8) (w : World) (h : Rd w B 1 A n (U l)) (hc : n ≤ c) (hm : c ≤ 9223372036854775807) :
    Calls Tryz.prog 102 #[.slice A n c] w fun e w' => (∃ A' c', e = .returned (.tuple #[.int .i64 (Q.take l).2.1, .slice A' (Q.rest l).length c', .int .i64 (Q.take l).1]) ∧
      Rd w B 1 A' (Q.rest l).length (U (Q.rest l)) ∧ (Q.rest l).length ≤ c' ∧ c' ≤ 9223372036854775807) ∧ w = w' := by
  have hln := h.len1
  rw [U_length] at hln
  have HLN := Lib.hid hln
  clear hln
  go_enter Tryz.func102, Tryz.ntmps102
  go_wp2
  go_loop [2, 6] (fun s i => ∃ (k acc : Nat), Q.TakeAt l k acc ∧ k ≤ 9 ∧ k ≤ n ∧ s = .int .i64 acc ∧ i = .int .i64 k) (fun _ i => 9 - (intOf i).toNat)
  case atStart => exact ⟨0, 0, Q.takeAt_start l, by omega, by omega, rfl, rfl⟩
  case round =>
    obtain ⟨k, acc, hta, hk, hkn0, rfl, rfl⟩ := hrel
    have hacc := Q.takeAt_acc hta
    have HT := Lib.hid hta
    clear hta
    by_cases hk9 : k < 9
    · by_cases hkn : k < n
      · obtain ⟨b, o, x, rfl, hb, hx, hcell⟩ := h.atU hkn
        have HX := Lib.hid hx
        have hx8 : x.toNat < 256 := UInt8.toNat_lt x
        clear hx
        have eor := shl_or (k := k) (acc := acc) (x := x.toNat) (by omega) (HT.out.2.1) hx8
        have hacc2 := Q.takeAt_next (x := x.toNat) HT.out.2.1
        have hu2 := Q.takeAt_unit (k := k) (by omega)
        have EOR := Lib.hid eor
        have HACC := Lib.hid hacc2
        clear eor hacc2 hu2
        by_cases hx7 : 128 ≤ x.toNat
        · go_wp2
          go_round
          case rel => exact ⟨k + 1, _, Q.takeAt_more HT.out hk9 HX.out hx7, by omega, by omega, by rw [EOR.out], by go_num⟩
          case measure => simp [intOf]; omega
        · have eT := Q.takeAt_end HT.out hk9 HX.out (by omega)
          obtain ⟨m, em⟩ : ∃ m, m = acc + x.toNat % 128 * 128 ^ k := ⟨_, rfl⟩
          rw [← em] at eT
          have EM := Lib.hid em
          clear em
          by_cases hsz : Q.size (m : Int) = k + 1
          · rw [if_pos hsz] at eT
            have eR : Q.rest l = l.drop (k + 1) := by simp [Q.rest, eT]
            have hb1 : ((Q.size (m : Int) : Int) != (k : Int) + 1) = false := by rw [hsz]; simp
            have ET := Lib.hid eT
            have ER := Lib.hid eR
            clear eT eR hsz
            go_wp2_with (first
              | (go_at_call 108; rw [EOR.out, ← EM.out]; refine (size_any _ _).mono ?_; rintro e w' ⟨rfl, rfl⟩)
              | (go_at_call 107; refine (behind_any _ _ _ (k + 1) _ (by omega) hc).mono ?_; rintro e w' ⟨rfl, rfl⟩))
            go_ret3
            have hlr : (Q.rest l).length = n - (k + 1) := by rw [ER.out, List.length_drop, HLN.out]
            refine ⟨⟨cutA (some ⟨b, o, none⟩) n (k + 1) 1, n - (k + 1), ?_, ?_, by omega, by omega⟩, rfl⟩
            · rw [ET.out, hlr]; rfl
            · rw [hlr, ER.out, ← U_drop]; exact h.cut1 (by omega) (Nat.le_refl _)
          · rw [if_neg hsz] at eT
            have eR : Q.rest l = [] := by simp [Q.rest, eT]
            have hb1 : ((Q.size (m : Int) : Int) != (k : Int) + 1) = true := by rw [bne_iff_ne]; omega
            have ET := Lib.hid eT
            have ER := Lib.hid eR
            clear eT eR hsz
            go_wp2_with (first
              | (go_at_call 108; rw [EOR.out, ← EM.out]; refine (size_any _ _).mono ?_; rintro e w' ⟨rfl, rfl⟩))
            go_ret3
            refine ⟨⟨none, 0, by rw [ET.out, ER.out]; rfl, by rw [ER.out]; exact Rd.zero _ _ _ _, by rw [ER.out]; simp, by omega⟩, rfl⟩
      · have eT := Q.takeAt_short HT.out hk9 (by rw [HLN.out]; omega)
        have eR : Q.rest l = [] := by simp [Q.rest, eT]
        have ET := Lib.hid eT
        have ER := Lib.hid eR
        have hb1 : ((k : Int) == (n : Int)) = true := beq_iff_eq.2 (by omega)
        clear eT eR
        go_wp2
        go_ret3
        refine ⟨⟨none, 0, by rw [ET.out, ER.out]; rfl, by rw [ER.out]; exact Rd.zero _ _ _ _, by rw [ER.out]; simp, by omega⟩, rfl⟩
    · obtain rfl : k = 9 := by omega
      have eT := Q.takeAt_long HT.out
      have eR : Q.rest l = [] := by simp [Q.rest, eT]
      have ET := Lib.hid eT
      have ER := Lib.hid eR
      clear eT eR
      go_wp2
      go_ret3
      refine ⟨⟨none, 0, by rw [ET.out, ER.out]; rfl, by rw [ER.out]; exact Rd.zero _ _ _ _, by rw [ER.out]; simp, by omega⟩, rfl⟩

/-! ### Texts -/
theorem taketext_any (A : Option Addr) (n c B : Nat) (l : List UInt8) (most : Int) (w : World) (h : Rd w B 1 A n (U l)) (hc : n ≤ c) (hm : c ≤ 9223372036854775807) :
    Calls Tryz.prog 101 #[.slice A n c, .int .i64 most] w fun e w' => (∃ A' c', e = .returned (.tuple #[.string (strB (Q.taketext l most).2.1), .slice A' (Q.taketext l most).2.2.length c', .int .i64 (Q.taketext l most).1]) ∧
      Rd w B 1 A' (Q.taketext l most).2.2.length (U (Q.taketext l most).2.2) ∧ (Q.taketext l most).2.2.length ≤ c' ∧ c' ≤ 9223372036854775807) ∧ ∃ q, w' = w.drewN q := by
  have hT := take_any A n c B l w h hc hm
  have e0 : Q.taketext l most = if (Q.take l).1 ≠ 0 then ((Q.take l).1, [], []) else if most < (Q.take l).2.1 then (4, [], []) else if (Q.rest l).length < (Q.take l).2.1 then (2, [], [])
    else (0, (Q.rest l).take (Q.take l).2.1, (Q.rest l).drop (Q.take l).2.1) := rfl
  generalize Q.taketext l most = R at *
  generalize Q.rest l = r at *
  generalize Q.take l = T at hT e0
  obtain ⟨er, N, k⟩ := T
  dsimp only at hT e0
  have HT := Lib.hid hT
  clear hT h
  by_cases he : er = 0
  · subst he
    rw [if_neg (by simp)] at e0
    by_cases h1 : most < (N : Int)
    · rw [if_pos h1] at e0
      have E1 := Lib.hid e0
      clear e0
      go_enter Tryz.func101, Tryz.ntmps101
      go_wp2_with (go_at_call 102; refine HT.out.mono ?_; rintro e w' ⟨⟨A', c', rfl, hr', hc', hm'⟩, rfl⟩)
      go_ret3
      exact ⟨⟨none, 0, by rw [E1.out]; rfl, by rw [E1.out]; exact Rd.zero _ _ _ _, by rw [E1.out]; simp, by omega⟩, 0, rfl⟩
    · rw [if_neg h1] at e0
      by_cases h2 : r.length < N
      · rw [if_pos h2] at e0
        have E1 := Lib.hid e0
        clear e0
        go_enter Tryz.func101, Tryz.ntmps101
        go_wp2_with (go_at_call 102; refine HT.out.mono ?_; rintro e w' ⟨⟨A', c', rfl, hr', hc', hm'⟩, rfl⟩)
        go_ret3
        exact ⟨⟨none, 0, by rw [E1.out]; rfl, by rw [E1.out]; exact Rd.zero _ _ _ _, by rw [E1.out]; simp, by omega⟩, 0, rfl⟩
      · rw [if_neg h2] at e0
        have E1 := Lib.hid e0
        clear e0
        go_enter Tryz.func101, Tryz.ntmps101
        go_wp2_with (go_at_call 102; refine HT.out.mono ?_; rintro e w' ⟨⟨A', c', rfl, hr', hc', hm'⟩, rfl⟩)
        have hcut := fun q => run_cut_h u8T (w.drewN q) A' r.length c' N N rfl (by omega)
        have hstr := fun q => run_str (P := Tryz.prog) (c := c') 58 9 5 Tryz.underlying58 Tryz.underlying5 Tryz.underlying9 (U_take r N ▸ (hr'.drewN q).take1 (k := N) (by omega))
        go_quiet ((go_at_call 107; exact Calls.quiet_of_same (behind_any _ _ _ _ _ (by omega) (by omega))))
        go_wp2
        go_ret3
        have el : R.2.2.length = r.length - N := by rw [E1.out, List.length_drop]
        refine ⟨⟨cutA A' r.length N 1, r.length - N, ?_, ?_, by omega, by omega⟩, nq, rfl⟩
        · rw [el, E1.out]; rfl
        · rw [el, E1.out, ← U_drop]; exact hr'.cut1 (by omega) (Nat.le_refl _)
  · have h1 : ((er : Int) != 0) = true := by rw [bne_iff_ne]; omega
    rw [if_pos he] at e0
    have E1 := Lib.hid e0
    clear e0 he
    go_enter Tryz.func101, Tryz.ntmps101
    go_wp2_with (go_at_call 102; refine HT.out.mono ?_; rintro e w' ⟨⟨A', c', rfl, hr', hc', hm'⟩, rfl⟩)
    go_ret3
    exact ⟨⟨none, 0, by rw [E1.out]; rfl, by rw [E1.out]; exact Rd.zero _ _ _ _, by rw [E1.out]; simp, by omega⟩, 0, rfl⟩

/-! ### The reference's -/
theorem uval {acc x u m : Nat} (e : m = acc + x % 128 * u) (hm : m < 9223372036854775808) : IntKind.u64.wrap ((acc : Int) + IntKind.u64.wrap ((x : Int) % 128 * (u : Int))) = (m : Int) := by
  have e1 : ((x : Int) % 128 * (u : Int)) = ((x % 128 * u : Nat) : Int) := by simp
  rw [e1, IntKind.wrap_u64, IntKind.wrap_u64, e]
  omega
theorem rval {k acc x : Nat} (hk : k ≤ 8) (ha : acc < 128 ^ k) : acc + x % 128 * 128 ^ k < 9223372036854775808 := by
  have h := Q.takeAt_next (x := x) ha
  have : 128 ^ (k + 1) ≤ 128 ^ 9 := Nat.pow_le_pow_right (by omega) (by omega)
  simp only [Nat.reducePow] at this
  omega

set_option maxRecDepth 20000 in
set_option maxHeartbeats 1000000 in
theorem rtake_any (A : Option Addr) (n c B : Nat) (l : List UInt8) (w : World) (h : Rd w B 1 A n (U l)) (hc : n ≤ c) (hm : c ≤ 9223372036854775807) :
    Calls Tryz.prog 95 #[.slice A n c] w fun e w' => (∃ A' c', e = .returned (.tuple #[.int .i64 (Q.take l).2.1, .slice A' (Q.rest l).length c', .int .i64 (Q.take l).1]) ∧
      Rd w B 1 A' (Q.rest l).length (U (Q.rest l)) ∧ (Q.rest l).length ≤ c' ∧ c' ≤ 9223372036854775807) ∧ ∃ q, w' = w.drewN q := by
  have hln := h.len1
  rw [U_length] at hln
  have HLN := Lib.hid hln
  clear hln
  go_enter Tryz.func95, Tryz.ntmps95
  go_wp2
  go_loop [5, 6, 7] (fun s u i => ∃ (k acc : Nat), Q.TakeAt l k acc ∧ k ≤ 9 ∧ k ≤ n ∧ s = .int .u64 acc ∧ u = .int .u64 (128 ^ k : Nat) ∧ i = .int .i64 k) (fun _ _ i => 9 - (intOf i).toNat)
  case atStart => exact ⟨0, 0, Q.takeAt_start l, by omega, by omega, rfl, rfl, rfl⟩
  case round =>
    obtain ⟨k, acc, hta, hk, hkn0, rfl, rfl, rfl⟩ := hrel
    have hacc := Q.takeAt_acc hta
    have HT := Lib.hid hta
    clear hta
    by_cases hk9 : k < 9
    · have hu2 := Q.takeAt_unit (k := k) (by omega)
      obtain ⟨u, eu⟩ : ∃ u, u = 128 ^ k := ⟨_, rfl⟩
      rw [← eu] at hu2 ⊢
      have EU := Lib.hid eu
      clear eu
      by_cases hkn : k < n
      · obtain ⟨b, o, x, rfl, hb, hx, hcell⟩ := h.atU hkn
        have HX := Lib.hid hx
        have hx8 : x.toNat < 256 := UInt8.toNat_lt x
        clear hx
        obtain ⟨m, em⟩ : ∃ m, m = acc + x.toNat % 128 * u := ⟨_, rfl⟩
        have hm63 : m < 9223372036854775808 := by rw [em, EU.out]; exact rval (by omega) HT.out.2.1
        have hp : x.toNat % 128 * u ≤ 9223372036854775807 := by omega
        have hval := uval em hm63
        have EM := Lib.hid em
        clear em hp
        by_cases hx7 : 128 ≤ x.toNat
        · go_wp2
          go_round
          case rel =>
            refine ⟨k + 1, m, ?_, by omega, by omega, rfl, ?_, by go_num⟩
            · rw [EM.out, EU.out]; exact Q.takeAt_more HT.out hk9 HX.out hx7
            · rw [Nat.pow_succ, EU.out]; simp
          case measure => simp [intOf]; omega
        · have eT := Q.takeAt_end HT.out hk9 HX.out (by omega)
          rw [← EU.out, ← EM.out] at eT
          by_cases hsz : Q.size (m : Int) = k + 1
          · rw [if_pos hsz] at eT
            have eR : Q.rest l = l.drop (k + 1) := by simp [Q.rest, eT]
            have hb1 : ((Q.size (m : Int) : Int) != (k : Int) + 1) = false := by rw [hsz]; simp
            have hm62 : m ≤ 4611686018427387904 := by
              have : Q.may (m : Int) := by
                by_cases h : Q.may (m : Int)
                · exact h
                · simp [Q.size, h] at hsz
              have := this.2; omega
            have ET := Lib.hid eT
            have ER := Lib.hid eR
            clear eT eR hsz
            have hlr : (Q.rest l).length = n - (k + 1) := by rw [ER.out, List.length_drop, HLN.out]
            have HLR := Lib.hid hlr
            clear hlr
            have hR := h
            clear h
            go_wp2_with (go_at_call 104; refine (rsize_any _ _).mono ?_; rintro e w' ⟨rfl, rfl⟩)
            go_quiet (fail)
            go_wp2
            all_goals
              go_ret3
              first
                | exact ⟨⟨some ⟨b, o + (k + 1), none⟩, c - (k + 1), by rw [ET.out, HLR.out]; rfl, by rw [HLR.out, ER.out, ← U_drop]; exact hR.drop1, by have := HLR.out; omega, by omega⟩, nq, rfl⟩
                | exact ⟨⟨some ⟨b, o, none⟩, 0, by rw [ET.out, HLR.out]; rfl, Rd.of_zero _ _ _ _ (by have := HLR.out; omega) (by rw [ER.out, List.drop_of_length_le (by rw [HLN.out]; omega)]; rfl), by have := HLR.out; omega, by omega⟩, nq, rfl⟩
          · rw [if_neg hsz] at eT
            have eR : Q.rest l = [] := by simp [Q.rest, eT]
            have ET := Lib.hid eT
            have ER := Lib.hid eR
            have hb1 : ((Q.size (m : Int) : Int) != (k : Int) + 1) = true := by rw [bne_iff_ne]; omega
            clear eT eR hsz
            by_cases hbig : m ≤ 4611686018427387904
            all_goals
              go_wp2_with (go_at_call 104; refine (rsize_any _ _).mono ?_; rintro e w' ⟨rfl, rfl⟩)
              go_ret3
              exact ⟨⟨none, 0, by rw [ET.out, ER.out]; rfl, by rw [ER.out]; exact Rd.zero _ _ _ _, by rw [ER.out]; simp, by omega⟩, 0, rfl⟩
      · have eT := Q.takeAt_short HT.out hk9 (by rw [HLN.out]; omega)
        have eR : Q.rest l = [] := by simp [Q.rest, eT]
        have ET := Lib.hid eT
        have ER := Lib.hid eR
        have hb1 : ((k : Int) == (n : Int)) = true := beq_iff_eq.2 (by omega)
        clear eT eR
        go_wp2
        go_ret3
        exact ⟨⟨none, 0, by rw [ET.out, ER.out]; rfl, by rw [ER.out]; exact Rd.zero _ _ _ _, by rw [ER.out]; simp, by omega⟩, 0, rfl⟩
    · obtain rfl : k = 9 := by omega
      have eT := Q.takeAt_long HT.out
      have eR : Q.rest l = [] := by simp [Q.rest, eT]
      have ET := Lib.hid eT
      have ER := Lib.hid eR
      clear eT eR
      go_wp2
      go_ret3
      exact ⟨⟨none, 0, by rw [ET.out, ER.out]; rfl, by rw [ER.out]; exact Rd.zero _ _ _ _, by rw [ER.out]; simp, by omega⟩, 0, rfl⟩

theorem rtaketext_any (A : Option Addr) (n c B : Nat) (l : List UInt8) (most : Int) (w : World) (h : Rd w B 1 A n (U l)) (hc : n ≤ c) (hm : c ≤ 9223372036854775807) :
    Calls Tryz.prog 94 #[.slice A n c, .int .i64 most] w fun e w' => (∃ A' c', e = .returned (.tuple #[.string (strB (Q.taketext l most).2.1), .slice A' (Q.taketext l most).2.2.length c', .int .i64 (Q.taketext l most).1]) ∧
      Rd w B 1 A' (Q.taketext l most).2.2.length (U (Q.taketext l most).2.2) ∧ (Q.taketext l most).2.2.length ≤ c' ∧ c' ≤ 9223372036854775807) ∧ ∃ q, w' = w.drewN q := by
  have hT := rtake_any A n c B l w h hc hm
  have e0 : Q.taketext l most = if (Q.take l).1 ≠ 0 then ((Q.take l).1, [], []) else if most < (Q.take l).2.1 then (4, [], []) else if (Q.rest l).length < (Q.take l).2.1 then (2, [], [])
    else (0, (Q.rest l).take (Q.take l).2.1, (Q.rest l).drop (Q.take l).2.1) := rfl
  generalize Q.taketext l most = R at *
  generalize Q.rest l = r at *
  generalize Q.take l = T at hT e0
  obtain ⟨er, N, k⟩ := T
  dsimp only at hT e0
  have HT := Lib.hid hT
  clear hT h
  by_cases he : er = 0
  · subst he
    rw [if_neg (by simp)] at e0
    by_cases h1 : most < (N : Int)
    · rw [if_pos h1] at e0
      have E1 := Lib.hid e0
      clear e0
      go_enter Tryz.func94, Tryz.ntmps94
      go_wp2_with (go_at_call 95; refine HT.out.mono ?_; rintro e w' ⟨⟨A', c', rfl, hr', hc', hm'⟩, q, rfl⟩)
      go_ret3
      exact ⟨⟨none, 0, by rw [E1.out]; rfl, by rw [E1.out]; exact Rd.zero _ _ _ _, by rw [E1.out]; simp, by omega⟩, q, rfl⟩
    · rw [if_neg h1] at e0
      by_cases h2 : r.length < N
      · rw [if_pos h2] at e0
        have E1 := Lib.hid e0
        clear e0
        go_enter Tryz.func94, Tryz.ntmps94
        go_wp2_with (go_at_call 95; refine HT.out.mono ?_; rintro e w' ⟨⟨A', c', rfl, hr', hc', hm'⟩, q, rfl⟩)
        go_ret3
        exact ⟨⟨none, 0, by rw [E1.out]; rfl, by rw [E1.out]; exact Rd.zero _ _ _ _, by rw [E1.out]; simp, by omega⟩, q, rfl⟩
      · rw [if_neg h2] at e0
        have E1 := Lib.hid e0
        clear e0
        go_enter Tryz.func94, Tryz.ntmps94
        go_wp2_with (go_at_call 95; refine HT.out.mono ?_; rintro e w' ⟨⟨A', c', rfl, hr', hc', hm'⟩, q, rfl⟩)
        have hstr := fun q => run_str (P := Tryz.prog) (c := c') 58 9 5 Tryz.underlying58 Tryz.underlying5 Tryz.underlying9 (U_take r N ▸ (hr'.drewN q).take1 (k := N) (by omega))
        have el : R.2.2.length = r.length - N := by rw [E1.out, List.length_drop]
        have EL := Lib.hid el
        clear el
        go_quiet (fail)
        go_wp2
        all_goals
          go_ret3
          refine ⟨⟨cutA A' c' N 1, c' - N, ?_, by rw [EL.out, E1.out, ← U_drop]; exact hr'.cut1 (by omega) hc', by rw [EL.out]; omega, by omega⟩, q + nq, ?_⟩
          · rw [EL.out, E1.out]
            simp [cutA, strB, *]
          · simp
  · have h1 : ((er : Int) != 0) = true := by rw [bne_iff_ne]; omega
    rw [if_pos he] at e0
    have E1 := Lib.hid e0
    clear e0 he
    go_enter Tryz.func94, Tryz.ntmps94
    go_wp2_with (go_at_call 95; refine HT.out.mono ?_; rintro e w' ⟨⟨A', c', rfl, hr', hc', hm'⟩, q, rfl⟩)
    go_ret3
    exact ⟨⟨none, 0, by rw [E1.out]; rfl, by rw [E1.out]; exact Rd.zero _ _ _ _, by rw [E1.out]; simp, by omega⟩, q, rfl⟩
end Go.Proofs.YtmbfldcmiabccaaGreatDoor

namespace Go.Proofs.YtmbfldcmiabccaaGreatDoor
set_option linter.unusedVariables false
set_option linter.unusedSimpArgs false
open Go.RowKit
def ysv (x : Svc) : Value := .agg #[.string (strB x.name), .string (strB x.proto), .int .i64 x.port, .int .i64 x.prio, .int .i64 x.wt, .bool x.well]
theorem ryword_at {l : List UInt8} {z : Bool} (e : decide (Y.word l) = z) (hm : l.length ≤ 4611686018427387904) (w : World) : Calls Tryz.prog 72 #[.string (strB l)] w (BoolY z w) := by subst e; exact ryword_any l _ rfl hm w
theorem ryshort_at {n : Int} {z : Bool} (e : decide (Y.short n) = z) (w : World) : Calls Tryz.prog 73 #[.int .i64 n] w (BoolY z w) := by
  have HE := Lib.hid e
  clear e
  by_cases h1 : 0 ≤ n
  · have f1 : decide (0 ≤ n) = true := decide_eq_true h1
    by_cases h2 : n ≤ 65535
    · have f2 : decide (n ≤ 65535) = true := decide_eq_true h2
      have Z : Hid (z = true) := Lib.hid (by rw [← HE.out]; exact decide_eq_true ⟨h1, h2⟩)
      go_enter Tryz.func73, Tryz.ntmps73
      go_wp2
      go_ret
      exact ⟨ret_bool Z.out.symm, rfl⟩
    · have f2 : decide (n ≤ 65535) = false := decide_eq_false h2
      have Z : Hid (z = false) := Lib.hid (by rw [← HE.out]; exact decide_eq_false (fun h => h2 h.2))
      go_enter Tryz.func73, Tryz.ntmps73
      go_wp2
      go_ret
      exact ⟨ret_bool Z.out.symm, rfl⟩
  · have f1 : decide (0 ≤ n) = false := decide_eq_false h1
    have Z : Hid (z = false) := Lib.hid (by rw [← HE.out]; exact decide_eq_false (fun h => h1 h.1))
    go_enter Tryz.func73, Tryz.ntmps73
    go_wp2
    go_ret
    exact ⟨ret_bool Z.out.symm, rfl⟩
/-- what an argument's texts may weigh -/
def YIn (x : Svc) : Prop := x.name.length ≤ 140737488351232 ∧ x.proto.length ≤ 140737488351232
theorem BoolY.below {b : Bool} {w w' : World} {e : Ending} (h : BoolY b w e w') : e = .returned (.bool b) ∧ Below w.heap.size w w' := ⟨h.1, by rw [h.2]; exact Below.refl _ _⟩
def BoolB (b : Bool) (w : World) (e : Ending) (w' : World) : Prop := e = .returned (.bool b) ∧ Below w.heap.size w w'
set_option maxHeartbeats 2000000 in
set_option maxRecDepth 20000 in
theorem ryright_any (x : Svc) (hx : YIn x) (w : World) : Calls Tryz.prog 47 #[ysv x] w (BoolB (decide (Y.right x)) w) := by
  obtain ⟨n, pr, po, pi, wt, we⟩ := x
  obtain ⟨hx1, hx2⟩ := hx
  simp only at hx1 hx2
  simp only [ysv]
  have X := Box.new w #[.string (strB n), .string (strB pr), .int .i64 po, .int .i64 pi, .int .i64 wt, .bool we] 46
  have b := (Below.refl w.heap.size w).alloc (Nat.le_refl _) (.cells #[.string (strB n), .string (strB pr), .int .i64 po, .int .i64 pi, .int .i64 wt, .bool we] 46)
  have x0 := X.at 0 rfl
  have x1 := X.at 1 rfl
  have x2 := X.at 2 rfl
  have x3 := X.at 3 rfl
  have x4 := X.at 4 rfl
  obtain ⟨z, hz⟩ : ∃ z, decide (Y.right ⟨n, pr, po, pi, wt, we⟩) = z := ⟨_, rfl⟩
  have HZ := Lib.hid hz
  rw [hz]
  obtain ⟨z1, hz1⟩ : ∃ z, decide (Y.word n) = z := ⟨_, rfl⟩
  obtain ⟨z2, hz2⟩ : ∃ z, decide (Y.word pr) = z := ⟨_, rfl⟩
  obtain ⟨z3, hz3⟩ : ∃ z, decide (1 ≤ po) = z := ⟨_, rfl⟩
  obtain ⟨z4, hz4⟩ : ∃ z, decide (Y.short po) = z := ⟨_, rfl⟩
  obtain ⟨z5, hz5⟩ : ∃ z, decide (Y.short pi) = z := ⟨_, rfl⟩
  obtain ⟨z6, hz6⟩ : ∃ z, decide (Y.short wt) = z := ⟨_, rfl⟩
  have ALL : Hid (z = (z1 && (z2 && (z3 && (z4 && (z5 && z6)))))) := Lib.hid (by
    rw [← hz, ← hz1, ← hz2, ← hz3, ← hz4, ← hz5, ← hz6]
    rw [Bool.eq_iff_iff]
    simp only [decide_eq_true_iff, Bool.and_eq_true]
    exact Iff.rfl)
  have H1 := Lib.hid hz1
  have H2 := Lib.hid hz2
  have H4 := Lib.hid hz4
  have H5 := Lib.hid hz5
  have H6 := Lib.hid hz6
  clear hz hz1 hz2 hz4 hz5 hz6 HZ
  go_enter Tryz.func47, Tryz.ntmps47
  go_wp2_with fail
  generalize w.alloc (.cells #[.string (strB n), .string (strB pr), .int .i64 po, .int .i64 pi, .int .i64 wt, .bool we] 46) = wa at *
  refine (ryword_at H1.out (by omega) _).mono ?_
  rintro _ wb ⟨rfl, rfl⟩
  cases z1
  · skip
    have Z : Hid (z = false) := Lib.hid (by rw [ALL.out]; rfl)
    go_wp2
    go_ret
    exact ⟨ret_bool Z.out.symm, b⟩
  · skip
    go_wp2_with fail
    refine (ryword_at H2.out (by omega) _).mono ?_
    rintro _ wb ⟨rfl, rfl⟩
    cases z2
    · skip
      have Z : Hid (z = false) := Lib.hid (by rw [ALL.out]; rfl)
      go_wp2
      go_ret
      exact ⟨ret_bool Z.out.symm, b⟩
    · skip
      cases z3
      · skip
        have Z : Hid (z = false) := Lib.hid (by rw [ALL.out]; rfl)
        go_wp2
        go_ret
        exact ⟨ret_bool Z.out.symm, b⟩
      · skip
        go_wp2_with fail
        refine (ryshort_at H4.out _).mono ?_
        rintro _ wb ⟨rfl, rfl⟩
        cases z4
        · skip
          have Z : Hid (z = false) := Lib.hid (by rw [ALL.out]; rfl)
          go_wp2
          go_ret
          exact ⟨ret_bool Z.out.symm, b⟩
        · skip
          go_wp2_with fail
          refine (ryshort_at H5.out _).mono ?_
          rintro _ wb ⟨rfl, rfl⟩
          cases z5
          · skip
            have Z : Hid (z = false) := Lib.hid (by rw [ALL.out]; rfl)
            go_wp2
            go_ret
            exact ⟨ret_bool Z.out.symm, b⟩
          · skip
            go_wp2_with fail
            refine (ryshort_at H6.out _).mono ?_
            rintro _ wb ⟨rfl, rfl⟩
            cases z6
            · skip
              have Z : Hid (z = false) := Lib.hid (by rw [ALL.out]; rfl)
              go_wp2
              go_ret
              exact ⟨ret_bool Z.out.symm, b⟩
            · skip
              have Z : Hid (z = true) := Lib.hid (by rw [ALL.out]; rfl)
              go_wp2
              go_ret
              exact ⟨ret_bool Z.out.symm, b⟩
/-- bytes that may be read -/
def ByY (l : List UInt8) (w : World) (e : Ending) (w' : World) : Prop := (∃ A n c, e = .returned (.slice A n c) ∧ Rd w' w'.heap.size 1 A n (U l) ∧ n ≤ c ∧ c ≤ 9223372036854775807) ∧ Below w.heap.size w w'
theorem rynum_by (A : Option Addr) (n c : Nat) (l : List UInt8) (m : Int) (w : World) (h : Rd w w.heap.size 1 A n (U l)) (hn : n ≤ 35184372088832) : Calls Tryz.prog 49 #[.slice A n c, .int .i64 m] w (ByY (l ++ Q.ub m) w) :=
  (rnum_any A n c w.heap.size (U l) m w h (U_one _) (Nat.le_refl _) hn).mono fun e w' ⟨A', c', he, ho, hb⟩ => ⟨⟨A', _, c', he, by rw [U_append]; exact Rd.of_own ho, (own_cap ho).1, (own_cap ho).2⟩, hb⟩
theorem rytext_by (A : Option Addr) (n c : Nat) (l : List UInt8) (s : ByteArray) (w : World) (h : Rd w w.heap.size 1 A n (U l)) (hn : n ≤ 17592186044416) (hs : s.size ≤ 17592186044416) : Calls Tryz.prog 48 #[.slice A n c, .string s] w (ByY (l ++ Q.txt s) w) :=
  (rtext_any A n c w.heap.size (U l) s w h (U_one _) (Nat.le_refl _) hn hs).mono fun e w' ⟨A', c', he, ho, hb⟩ => ⟨⟨A', _, c', he, by rw [U_append]; exact Rd.of_own ho, (own_cap ho).1, (own_cap ho).2⟩, hb⟩
theorem ulen {w : World} {B n : Nat} {A : Option Addr} {l : List UInt8} (h : Rd w B 1 A n (U l)) : l.length = n := by have := h.len1; rwa [U_length] at this
/-- a text and an error -/
def TxtR (s : List UInt8) (er : Int) (w : World) (e : Ending) (w' : World) : Prop := e = .returned (.tuple #[.string (strB s), .int .i64 er]) ∧ Below w.heap.size w w'
theorem val_parts (x : Svc) : Y.val x = (((((([] ++ Q.txt (strB x.name)) ++ Q.txt (strB x.proto)) ++ Q.ub x.port) ++ Q.ub x.prio) ++ Q.ub x.wt) ++ Q.ub (Y.bit x.well)) := by simp [Y.val]
set_option maxHeartbeats 4000000 in
set_option maxRecDepth 20000 in
theorem ryencode_any (x : Svc) (hx : YIn x) (w : World) : Calls Tryz.prog 19 #[ysv x] w (TxtR (Y.enc x).1 (Y.enc x).2 w) := by
  have hR := fun w => ryright_any x hx w
  obtain ⟨n, pr, po, pi, wt, we⟩ := x
  simp only [ysv] at hR ⊢
  have X := Box.new w #[.string (strB n), .string (strB pr), .int .i64 po, .int .i64 pi, .int .i64 wt, .bool we] 46
  have b := (Below.refl w.heap.size w).alloc (Nat.le_refl _) (.cells #[.string (strB n), .string (strB pr), .int .i64 po, .int .i64 pi, .int .i64 wt, .bool we] 46)
  have x0 := X.at 0 rfl
  have x1 := X.at 1 rfl
  have x2 := X.at 2 rfl
  have x3 := X.at 3 rfl
  have x4 := X.at 4 rfl
  have x5 := X.at 5 rfl
  go_enter Tryz.func19, Tryz.ntmps19
  go_wp2_with fail
  generalize w.alloc (.cells #[.string (strB n), .string (strB pr), .int .i64 po, .int .i64 pi, .int .i64 wt, .bool we] 46) = wa at *
  refine (hR _).mono ?_
  rintro _ wb ⟨rfl, hb⟩
  clear hR x0 x1 x2 x3 x4 x5
  replace X := X.belowH hb
  replace b := b.trans (hb.mono b.size)
  clear hb
  by_cases hr : Y.right ⟨n, pr, po, pi, wt, we⟩
  · have E : Hid (Y.enc ⟨n, pr, po, pi, wt, we⟩ = (Y.val ⟨n, pr, po, pi, wt, we⟩, 0)) := Lib.hid (Y.dec_enc hr)
    rw [decide_eq_true hr]
    have l1 := Y.word_len hr.1
    have l2 := Y.word_len hr.2.1
    simp only at l1 l2
    have s1 : (strB n).size ≤ 20 := by rw [strB_size]; omega
    have s2 : (strB pr).size ≤ 20 := by rw [strB_size]; omega
    have t1 := Q.length_txt (strB n)
    have t2 := Q.length_txt (strB pr)
    have q1 := Q.size_le ((strB n).size : Int)
    have q2 := Q.size_le ((strB pr).size : Int)
    have T1 : Hid ((Q.txt (strB n)).length ≤ 29) := Lib.hid (by omega)
    have T2 : Hid ((Q.txt (strB pr)).length ≤ 29) := Lib.hid (by omega)
    have S1 := Lib.hid s1
    have S2 := Lib.hid s2
    clear hr l1 l2 s1 s2 t1 t2 q1 q2
    have x0 := X.at 0 rfl
    have x1 := X.at 1 rfl
    have hxl := X.lt
    obtain ⟨tn, htn⟩ : ∃ t, [] ++ Q.txt (strB n) = t := ⟨_, rfl⟩
    obtain ⟨tp, htp⟩ : ∃ t, tn ++ Q.txt (strB pr) = t := ⟨_, rfl⟩
    obtain ⟨tq, hto⟩ : ∃ t, tp ++ Q.ub po = t := ⟨_, rfl⟩
    obtain ⟨ti, hti⟩ : ∃ t, tq ++ Q.ub pi = t := ⟨_, rfl⟩
    obtain ⟨tw, htw⟩ : ∃ t, ti ++ Q.ub wt = t := ⟨_, rfl⟩
    obtain ⟨tz, htz⟩ : ∃ t, tw ++ Q.ub (Y.bit we) = t := ⟨_, rfl⟩
    have EV : Hid (Y.val ⟨n, pr, po, pi, wt, we⟩ = tz) := Lib.hid (by rw [val_parts, ← htz, ← htw, ← hti, ← hto, ← htp, ← htn])
    have B1 : Hid (tn.length ≤ 29) := Lib.hid (by rw [← htn]; simpa using T1.out)
    have B2 : Hid (tp.length ≤ 58) := Lib.hid (by rw [← htp, List.length_append]; have := B1.out; have := T2.out; omega)
    have B3 : Hid (tq.length ≤ 67) := Lib.hid (by rw [← hto, List.length_append, Q.length_ub]; have := B2.out; have := Q.size_le po; omega)
    have B4 : Hid (ti.length ≤ 76) := Lib.hid (by rw [← hti, List.length_append, Q.length_ub]; have := B3.out; have := Q.size_le pi; omega)
    have B5 : Hid (tw.length ≤ 85) := Lib.hid (by rw [← htw, List.length_append, Q.length_ub]; have := B4.out; have := Q.size_le wt; omega)
    have B6 : Hid (tz.length ≤ 94) := Lib.hid (by rw [← htz, List.length_append, Q.length_ub]; have := B5.out; have := Q.size_le (Y.bit we); omega)
    have E1 := Lib.hid htn
    have E2 := Lib.hid htp
    have E3 := Lib.hid hto
    have E4 := Lib.hid hti
    have E5 := Lib.hid htw
    have E6 := Lib.hid htz
    clear htn htp hto hti htw htz
    go_upto_region 3 with fail
    refine wp_region_held_drew (S := (fun w' => w'.cell? ⟨w.heap.size, 0, none⟩ = some (.string (strB n)) ∧ w'.cell? ⟨w.heap.size, 1, none⟩ = some (.string (strB pr)))) (by kernel_rfl) (by first | exact ⟨x0, x1⟩ | exact ⟨X.at 0 rfl, X.at 1 rfl⟩) (fun hHeld0 => ?_)
    refine tk 0 8 rfl hHeld0 ?_
    refine tk 1 9 rfl hHeld0 ?_
    refine tk 3 11 rfl hHeld0 ?_
    refine tk 4 12 rfl hHeld0 ?_
    refine wpAnyH_ready (rs := [2]) (by kernel_rfl) (by simp) (AllReadyH.cons (o := ⟨some 10, _, _, _, _, _⟩) rfl (fun K hK => ?_) AllReadyH.nil)
    go_simp
    (replace X := X.drew; replace b := b.drew; refine (rytext_by none 0 0 [] (strB n) _ (Rd.zero _ _ _ _) (by omega) (by have := S1.out; omega)).mono ?_; rintro _ wc1 ⟨⟨Ab1, nb1, cb1, rfl, Rb, hcb⟩, hb⟩; rw [E1.out] at Rb; replace X := X.belowH hb; replace b := b.trans (hb.mono b.size); clear hb)
    go_simp
    refine hK.out _ _ (by first | exact ⟨x0, x1⟩ | exact ⟨X.at 0 rfl, X.at 1 rfl⟩) (fun hHeld1 => ?_)
    clear hK hHeld0 K
    try simp only [Act.put, sA, sB, sC]
    refine wpAnyH_ready (rs := [5]) (by kernel_rfl) (by simp) (AllReadyH.cons (o := ⟨some 13, _, _, _, _, _⟩) rfl (fun K hK => ?_) AllReadyH.nil)
    go_simp
    (have hq := ulen Rb; clear hcb; refine (rytext_by Ab1 nb1 cb1 tn (strB pr) _ Rb (by have h9 := ulen Rb; have := B1.out; omega) (by have := S2.out; omega)).mono ?_; rintro _ wc2 ⟨⟨Ab2, nb2, cb2, rfl, Rb, hcb⟩, hb⟩; rw [E2.out] at Rb; replace X := X.belowH hb; replace b := b.trans (hb.mono b.size); clear hb)
    go_simp
    refine hK.out _ _ (by first | exact ⟨x0, x1⟩ | exact ⟨X.at 0 rfl, X.at 1 rfl⟩) (fun hHeld2 => ?_)
    clear hK hHeld1 K
    try simp only [Act.put, sA, sB, sC]
    refine tk 6 4 rfl hHeld2 ?_
    refine wpAnyH_done (by kernel_rfl) ?_ _
    have y2 := X.at 2 rfl
    have y3 := X.at 3 rfl
    have y4 := X.at 4 rfl
    clear x0 x1
    go_upto_region 4 with fail
    refine wp_region_held_drew (S := (fun w' => w'.cell? ⟨w.heap.size, 2, none⟩ = some (.int .i64 po) ∧ w'.cell? ⟨w.heap.size, 3, none⟩ = some (.int .i64 pi) ∧ w'.cell? ⟨w.heap.size, 4, none⟩ = some (.int .i64 wt))) (by kernel_rfl) (by first | exact ⟨y2, y3, y4⟩ | exact ⟨X.at 2 rfl, X.at 3 rfl, X.at 4 rfl⟩) (fun hHeld0 => ?_)
    refine tk 0 14 rfl hHeld0 ?_
    refine tk 1 15 rfl hHeld0 ?_
    refine tk 2 16 rfl hHeld0 ?_
    refine tk 4 18 rfl hHeld0 ?_
    refine tk 5 19 rfl hHeld0 ?_
    refine tk 7 21 rfl hHeld0 ?_
    refine tk 8 22 rfl hHeld0 ?_
    refine wpAnyH_ready (rs := [3]) (by kernel_rfl) (by simp) (AllReadyH.cons (o := ⟨some 17, _, _, _, _, _⟩) rfl (fun K hK => ?_) AllReadyH.nil)
    go_simp
    (replace X := X.drew; replace b := b.drew; replace Rb := Rb.drew; clear hcb; refine (rynum_by Ab2 nb2 cb2 tp po _ Rb (by have h9 := ulen Rb; have := B2.out; omega)).mono ?_; rintro _ wc3 ⟨⟨Ab3, nb3, cb3, rfl, Rb, hcb⟩, hb⟩; rw [E3.out] at Rb; replace X := X.belowH hb; replace b := b.trans (hb.mono b.size); clear hb)
    go_simp
    refine hK.out _ _ (by first | exact ⟨y2, y3, y4⟩ | exact ⟨X.at 2 rfl, X.at 3 rfl, X.at 4 rfl⟩) (fun hHeld1 => ?_)
    clear hK hHeld0 K
    try simp only [Act.put, sA, sB, sC]
    refine wpAnyH_ready (rs := [6]) (by kernel_rfl) (by simp) (AllReadyH.cons (o := ⟨some 20, _, _, _, _, _⟩) rfl (fun K hK => ?_) AllReadyH.nil)
    go_simp
    (clear hcb; refine (rynum_by Ab3 nb3 cb3 tq pi _ Rb (by have h9 := ulen Rb; have := B3.out; omega)).mono ?_; rintro _ wc4 ⟨⟨Ab4, nb4, cb4, rfl, Rb, hcb⟩, hb⟩; rw [E4.out] at Rb; replace X := X.belowH hb; replace b := b.trans (hb.mono b.size); clear hb)
    go_simp
    refine hK.out _ _ (by first | exact ⟨y2, y3, y4⟩ | exact ⟨X.at 2 rfl, X.at 3 rfl, X.at 4 rfl⟩) (fun hHeld2 => ?_)
    clear hK hHeld1 K
    try simp only [Act.put, sA, sB, sC]
    refine wpAnyH_ready (rs := [9]) (by kernel_rfl) (by simp) (AllReadyH.cons (o := ⟨some 23, _, _, _, _, _⟩) rfl (fun K hK => ?_) AllReadyH.nil)
    go_simp
    (clear hcb; refine (rynum_by Ab4 nb4 cb4 ti wt _ Rb (by have h9 := ulen Rb; have := B4.out; omega)).mono ?_; rintro _ wc5 ⟨⟨Ab5, nb5, cb5, rfl, Rb, hcb⟩, hb⟩; rw [E5.out] at Rb; replace X := X.belowH hb; replace b := b.trans (hb.mono b.size); clear hb)
    go_simp
    refine hK.out _ _ (by first | exact ⟨y2, y3, y4⟩ | exact ⟨X.at 2 rfl, X.at 3 rfl, X.at 4 rfl⟩) (fun hHeld3 => ?_)
    clear hK hHeld2 K
    try simp only [Act.put, sA, sB, sC]
    refine tk 10 4 rfl hHeld3 ?_
    refine wpAnyH_done (by kernel_rfl) ?_ _
    have x5 := X.at 5 rfl
    clear y2 y3 y4
    cases we
    · go_wp2_with fail
      clear hcb
      refine (rynum_by Ab5 nb5 cb5 tw 0 _ Rb (by have h9 := ulen Rb; have := B5.out; omega)).mono ?_
      rintro _ wd ⟨⟨Ab6, nb6, cb6, rfl, Rz, hcz⟩, hb⟩
      rw [show tw ++ Q.ub 0 = tz from E6.out] at Rz
      replace b := b.trans (hb.mono b.size)
      clear hb X Rb x5
      have CV := run_str (P := Tryz.prog) 58 9 5 Tryz.underlying58 Tryz.underlying5 Tryz.underlying9 (c := cb6) Rz
      go_wp2
      go_ret2
      exact ⟨by rw [E.out, EV.out]; rfl, b⟩
    · go_wp2_with fail
      clear hcb
      refine (rynum_by Ab5 nb5 cb5 tw 1 _ Rb (by have h9 := ulen Rb; have := B5.out; omega)).mono ?_
      rintro _ wd ⟨⟨Ab6, nb6, cb6, rfl, Rz, hcz⟩, hb⟩
      rw [show tw ++ Q.ub 1 = tz from E6.out] at Rz
      replace b := b.trans (hb.mono b.size)
      clear hb X Rb x5
      have CV := run_str (P := Tryz.prog) 58 9 5 Tryz.underlying58 Tryz.underlying5 Tryz.underlying9 (c := cb6) Rz
      go_wp2
      go_ret2
      exact ⟨by rw [E.out, EV.out]; rfl, b⟩
  · have E : Hid (Y.enc ⟨n, pr, po, pi, wt, we⟩ = ([], 1)) := Lib.hid (if_neg hr)
    rw [decide_eq_false hr]
    clear hr
    go_wp2
    go_ret2
    exact ⟨by rw [E.out]; rfl, b⟩
end Go.Proofs.YtmbfldcmiabccaaGreatDoor

namespace Go.Proofs.YtmbfldcmiabccaaGreatDoor
set_option linter.unusedVariables false
set_option linter.unusedSimpArgs false
open Go.RowKit
/-- a text, what is left, an error -/
def TTR (t r : List UInt8) (er : Int) (w : World) (e : Ending) (w' : World) : Prop := (∃ A c, e = .returned (.tuple #[.string (strB t), .slice A r.length c, .int .i64 er]) ∧ Rd w' w'.heap.size 1 A r.length (U r) ∧ r.length ≤ c ∧ c ≤ 9223372036854775807) ∧ Below w.heap.size w w'
theorem kdrewY {B : Nat} {w w' : World} (h : Below B w w') (q : Nat) : Below B w (w'.drewN q) := ⟨h.os, h.tape, h.output, h.size, h.block⟩
theorem rytt_at {l t r : List UInt8} {e : Nat} {er most : Int} (hq : Q.taketext l most = (e, t, r)) (he : (e : Int) = er) (A : Option Addr) (n c : Nat) (w : World) (h : Rd w w.heap.size 1 A n (U l)) (hc : n ≤ c ∧ c ≤ 9223372036854775807) :
    Calls Tryz.prog 94 #[.slice A n c, .int .i64 most] w (TTR t r er w) := by
  have := rtaketext_any A n c w.heap.size l most w h hc.1 hc.2
  rw [hq] at this
  subst he
  exact this.mono fun _ _ ⟨⟨A', c', h1, h2, h3, h4⟩, q, h5⟩ => ⟨⟨A', c', h1, by subst h5; exact h2, h3, h4⟩, by subst h5; exact kdrewY (Below.refl _ _) q⟩
/-- a number, what is left, an error -/
def TNR (x : Int) (r : List UInt8) (er : Int) (w : World) (e : Ending) (w' : World) : Prop := (∃ A c, e = .returned (.tuple #[.int .i64 x, .slice A r.length c, .int .i64 er]) ∧ Rd w' w'.heap.size 1 A r.length (U r) ∧ r.length ≤ c ∧ c ≤ 9223372036854775807) ∧ Below w.heap.size w w'
theorem rytake_at {l r : List UInt8} {e N k : Nat} {x er : Int} (hq : Q.take l = (e, N, k)) (hr : Q.rest l = r) (hx : (N : Int) = x) (he : (e : Int) = er) (A : Option Addr) (n c : Nat) (w : World) (h : Rd w w.heap.size 1 A n (U l)) (hc : n ≤ c ∧ c ≤ 9223372036854775807) :
    Calls Tryz.prog 95 #[.slice A n c] w (TNR x r er w) := by
  have := rtake_any A n c w.heap.size l w h hc.1 hc.2
  rw [hq] at this
  subst he hr hx
  exact this.mono fun _ _ ⟨⟨A', c', h1, h2, h3, h4⟩, q, h5⟩ => ⟨⟨A', c', h1, by subst h5; exact h2, h3, h4⟩, by subst h5; exact kdrewY (Below.refl _ _) q⟩
/-- is it no byte -/
def noU8 : Value → Bool
  | .int .u8 _ => false
  | _ => true
/-- bytes' reading behind a store into a box that holds no bytes -/
theorem rd_box {w : World} {b : Nat} {T : TypeId} {n : Nat} {A : Option Addr} {l : List UInt8} {cs : Array Value} {o : Nat} (hB : Box w b T cs) (hh : cs.toList.all noU8 = true) (h : Rd w w.heap.size 1 A n (U l)) (v : Value) : Rd (w.setCell ⟨b, o, none⟩ v) (w.setCell ⟨b, o, none⟩ v).heap.size 1 A n (U l) := by
  by_cases hn : n = 0
  · exact ⟨h.1, fun h0 => absurd hn h0⟩
  · refine (h.other (fun bk ok hA e => ?_) v).more (by simp)
    subst e
    obtain ⟨b', o', e', _, hc⟩ := h.2 hn
    rw [hA] at e'
    obtain ⟨rfl, rfl⟩ : bk = b' ∧ ok = o' := by simpa using e'
    have hl := ulen h
    have h0 := hc 0 (by rw [U_length]; omega)
    rw [cell_of_row w bk (ok + 0) cs T (0, 0) hB] at h0
    obtain ⟨x, hx⟩ : ∃ x, l[0]? = some x := ⟨_, List.getElem?_eq_getElem (by omega)⟩
    rw [U_get, hx] at h0
    have hm : Value.int .u8 (x.toNat : Int) ∈ cs.toList := by
      rw [← Array.getElem?_toList] at h0
      exact List.mem_of_getElem? h0
    have := List.all_eq_true.1 hh _ hm
    simp [noU8] at this
/-- a service and an error -/
def SvR (x : Svc) (er : Int) (w : World) (e : Ending) (w' : World) : Prop := e = .returned (.tuple #[ysv x, .int .i64 er]) ∧ Below w.heap.size w w'
/-- how far the numbers are taken -/
def NumAt (l0 : List UInt8) (k : Nat) (x0 x1 x2 x3 : Int) (r : List UInt8) (er : Int) : Prop :=
  (er = 0 ∧ ∃ a : List Nat, a.length = k ∧ Y.nums 4 [] l0 = Y.nums (4 - k) a r ∧ (a.map fun n : Nat => (n : Int)) = [x0, x1, x2, x3].take k) ∨ (er ≠ 0 ∧ 1 ≤ k ∧ ∃ e : Nat, (e : Int) = er ∧ Y.nums 4 [] l0 = (e, [], []))
theorem nums_no {k : Nat} {a : List Nat} {l : List UInt8} (h : (Q.take l).1 ≠ 0) : Y.nums (k + 1) a l = ((Q.take l).1, [], []) := by unfold Y.nums; rw [if_pos h]
theorem nums_yes {k N j : Nat} {a : List Nat} {l : List UInt8} (h : Q.take l = (0, N, j)) : Y.nums (k + 1) a l = Y.nums k (a ++ [N]) (Q.rest l) := by
  show (if (Q.take l).1 ≠ 0 then _ else _) = _
  rw [h]
  simp
/-- what lies in the four places -/
def four (x0 x1 x2 x3 : Int) (k : Nat) (v : Int) : Int × Int × Int × Int := if k = 0 then (v, x1, x2, x3) else if k = 1 then (x0, v, x2, x3) else if k = 2 then (x0, x1, v, x3) else (x0, x1, x2, v)
theorem num_step {l0 r r' : List UInt8} {k e N j : Nat} {x0 x1 x2 x3 : Int} (hk : k < 4) (h : NumAt l0 k x0 x1 x2 x3 r 0) (hq : Q.take r = (e, N, j)) (hr : Q.rest r = r') :
    NumAt l0 (k + 1) (four x0 x1 x2 x3 k (N : Int)).1 (four x0 x1 x2 x3 k (N : Int)).2.1 (four x0 x1 x2 x3 k (N : Int)).2.2.1 (four x0 x1 x2 x3 k (N : Int)).2.2.2 r' (e : Int) := by
  rcases h with ⟨_, a, h1, h2, h3⟩ | ⟨h1, _⟩
  · obtain ⟨m, hm⟩ : ∃ m, 4 - k = m + 1 := ⟨3 - k, by omega⟩
    by_cases he : e = 0
    · subst he
      left
      refine ⟨rfl, a ++ [N], by simp [h1], ?_, ?_⟩
      · rw [h2, hm, nums_yes hq, hr, show 4 - (k + 1) = m by omega]
      · rw [List.map_append, h3]
        have : k = 0 ∨ k = 1 ∨ k = 2 ∨ k = 3 := by omega
        rcases this with rfl | rfl | rfl | rfl <;> rfl
    · right
      refine ⟨by omega, by omega, e, rfl, ?_⟩
      rw [h2, hm, nums_no (by rw [hq]; exact he), hq]
  · exact absurd rfl h1
theorem num_end {l0 r : List UInt8} {x0 x1 x2 x3 : Int} (h : NumAt l0 4 x0 x1 x2 x3 r 0) : ∃ n0 n1 n2 n3 : Nat, (n0 : Int) = x0 ∧ (n1 : Int) = x1 ∧ (n2 : Int) = x2 ∧ (n3 : Int) = x3 ∧ Y.nums 4 [] l0 = (0, [n0, n1, n2, n3], r) := by
  rcases h with ⟨_, a, h1, h2, h3⟩ | ⟨h1, _⟩
  · match a, h1, h2, h3 with
    | [n0, n1, n2, n3], _, h2, h3 =>
      simp only [List.map_cons, List.map_nil, List.take_succ_cons, List.take_zero, List.cons.injEq, and_true] at h3
      exact ⟨n0, n1, n2, n3, h3.1, h3.2.1, h3.2.2.1, h3.2.2.2, h2⟩
  · exact absurd rfl h1
/-- the two texts that were taken -/
def Got (v nm pr r2 : List UInt8) : Prop := ∃ r1, Q.taketext v 20 = (0, nm, r1) ∧ Q.taketext r1 20 = (0, pr, r2)
/-- how far a value is taken -/
def Stat (v nm pr : List UInt8) (k : Nat) (x0 x1 x2 x3 : Int) (r : List UInt8) (er : Int) : Prop := (er = 0 ∧ ∃ r2, Got v nm pr r2 ∧ NumAt r2 k x0 x1 x2 x3 r 0) ∨ (er ≠ 0 ∧ Y.dec v = (Y.none, er))
theorem stat_start {v nm pr r2 : List UInt8} (h : Got v nm pr r2) : Stat v nm pr 0 0 0 0 0 r2 0 := Or.inl ⟨rfl, r2, h, Or.inl ⟨rfl, [], rfl, rfl, rfl⟩⟩
theorem stat_bad1 {v nm pr nm' r1 r : List UInt8} {k e : Nat} {x0 x1 x2 x3 : Int} (h : Q.taketext v 20 = (e, nm', r1)) (he : e ≠ 0) : Stat v nm pr k x0 x1 x2 x3 r (e : Int) := Or.inr ⟨by omega, by rw [Y.dec_e1 (by rw [h]; exact he), h]⟩
theorem stat_bad2 {v nm pr nm' pr' r1 r2 r : List UInt8} {k e : Nat} {x0 x1 x2 x3 : Int} (h : Q.taketext v 20 = (0, nm', r1)) (h2 : Q.taketext r1 20 = (e, pr', r2)) (he : e ≠ 0) : Stat v nm pr k x0 x1 x2 x3 r (e : Int) := Or.inr ⟨by omega, by rw [Y.dec_e2 h (by rw [h2]; exact he), h2]⟩
theorem stat_step {v nm pr r r' : List UInt8} {k e N j : Nat} {x0 x1 x2 x3 : Int} (hk : k < 4) (h : Stat v nm pr k x0 x1 x2 x3 r 0) (hq : Q.take r = (e, N, j)) (hr : Q.rest r = r') :
    Stat v nm pr (k + 1) (four x0 x1 x2 x3 k (N : Int)).1 (four x0 x1 x2 x3 k (N : Int)).2.1 (four x0 x1 x2 x3 k (N : Int)).2.2.1 (four x0 x1 x2 x3 k (N : Int)).2.2.2 r' (e : Int) := by
  rcases h with ⟨_, r2, ⟨r1, g1, g2⟩, h⟩ | ⟨h, _⟩
  · have hs := num_step hk h hq hr
    by_cases he : e = 0
    · subst he
      exact Or.inl ⟨rfl, r2, ⟨r1, g1, g2⟩, hs⟩
    · right
      refine ⟨by omega, ?_⟩
      rcases hs with ⟨h1, _⟩ | ⟨_, _, e', h1, h2⟩
      · omega
      · obtain rfl : e' = e := by omega
        rw [Y.dec_e3 g1 g2 (by rw [h2]; exact he), h2]
  · exact absurd rfl h
theorem stat_end {v nm pr r : List UInt8} {x0 x1 x2 x3 : Int} (h : Stat v nm pr 4 x0 x1 x2 x3 r 0) : ∃ n0 n1 n2 n3 : Nat, (n0 : Int) = x0 ∧ (n1 : Int) = x1 ∧ (n2 : Int) = x2 ∧ (n3 : Int) = x3 ∧ Y.dec v = Y.made nm pr [n0, n1, n2, n3] r ∧ nm.length ≤ 20 ∧ pr.length ≤ 20 := by
  rcases h with ⟨_, r2, ⟨r1, g1, g2⟩, h⟩ | ⟨h, _⟩
  · obtain ⟨n0, n1, n2, n3, h0, h1, h2, h3, h4⟩ := num_end h
    have a1 := (Y.taketext_once g1).2
    have a2 := (Y.taketext_once g2).2
    exact ⟨n0, n1, n2, n3, h0, h1, h2, h3, Y.dec_is g1 g2 h4, by omega, by omega⟩
  · exact absurd rfl h
/-- the frame behind the texts -/
def Texts (W : World) (ob xb gb : Nat) (v : List UInt8) (s6 s7 : Value) (wx : World) : Prop := ∃ (nm pr r : List UInt8) (er : Int) (A : Option Addr) (c : Nat), s6 = .slice A r.length c ∧ s7 = .int .i64 er ∧ Stat v nm pr 0 0 0 0 0 r er ∧
  Box wx ob 46 #[.string ⟨#[]⟩, .string ⟨#[]⟩, .int .i64 0, .int .i64 0, .int .i64 0, .bool false] ∧ Box wx xb 46 #[.string (strB nm), .string (strB pr), .int .i64 0, .int .i64 0, .int .i64 0, .bool false] ∧ Box wx gb 125 #[.int .i64 0, .int .i64 0, .int .i64 0, .int .i64 0] ∧ Rd wx wx.heap.size 1 A r.length (U r) ∧ (r.length ≤ c ∧ c ≤ 9223372036854775807) ∧ Below W.heap.size W wx
/-- the frame in the loop -/
def Taken (W : World) (ob xb gb : Nat) (v : List UInt8) (s8 s6 s7 : Value) (wx : World) : Prop := ∃ (nm pr r : List UInt8) (k : Nat) (x0 x1 x2 x3 er : Int) (A : Option Addr) (c : Nat), k ≤ 4 ∧ s8 = .int .i64 (k : Int) ∧ s6 = .slice A r.length c ∧ s7 = .int .i64 er ∧ Stat v nm pr k x0 x1 x2 x3 r er ∧
  Box wx ob 46 #[.string ⟨#[]⟩, .string ⟨#[]⟩, .int .i64 0, .int .i64 0, .int .i64 0, .bool false] ∧ Box wx xb 46 #[.string (strB nm), .string (strB pr), .int .i64 0, .int .i64 0, .int .i64 0, .bool false] ∧ Box wx gb 125 #[.int .i64 x0, .int .i64 x1, .int .i64 x2, .int .i64 x3] ∧ Rd wx wx.heap.size 1 A r.length (U r) ∧ (r.length ≤ c ∧ c ≤ 9223372036854775807) ∧ Below W.heap.size W wx
theorem made_yes {n p l : List UInt8} {n0 n1 n2 n3 : Nat} (h1 : l = []) (h2 : n3 ≤ 1) (h3 : Y.right ⟨n, p, n0, n1, n2, decide (n3 = 1)⟩) : Y.made n p [n0, n1, n2, n3] l = (⟨n, p, n0, n1, n2, decide (n3 = 1)⟩, 0) := if_pos ⟨h1, h2, h3⟩
theorem made_no {n p l : List UInt8} {n0 n1 n2 n3 : Nat} (h : ¬ (l = [] ∧ n3 ≤ 1 ∧ Y.right ⟨n, p, n0, n1, n2, decide (n3 = 1)⟩)) : Y.made n p [n0, n1, n2, n3] l = (Y.none, 3) := if_neg h
set_option maxHeartbeats 8000000 in
set_option maxRecDepth 20000 in
theorem rydecode_any (v : List UInt8) (hv : v.length ≤ 140737488351232) (w : World) : Calls Tryz.prog 84 #[.string (strB v)] w (SvR (Y.dec v).1 (Y.dec v).2 w) := by
  have O := ((Box.new w #[.string ⟨#[]⟩, .string ⟨#[]⟩, .int .i64 0, .int .i64 0, .int .i64 0, .bool false] 46).alloc (.cells #[.string ⟨#[]⟩, .string ⟨#[]⟩, .int .i64 0, .int .i64 0, .int .i64 0, .bool false] 46)).alloc (.cells #[.int .i64 0, .int .i64 0, .int .i64 0, .int .i64 0] 125)
  have X := (Box.new (w.alloc (.cells #[.string ⟨#[]⟩, .string ⟨#[]⟩, .int .i64 0, .int .i64 0, .int .i64 0, .bool false] 46)) #[.string ⟨#[]⟩, .string ⟨#[]⟩, .int .i64 0, .int .i64 0, .int .i64 0, .bool false] 46).alloc (.cells #[.int .i64 0, .int .i64 0, .int .i64 0, .int .i64 0] 125)
  have G := Box.new ((w.alloc (.cells #[.string ⟨#[]⟩, .string ⟨#[]⟩, .int .i64 0, .int .i64 0, .int .i64 0, .bool false] 46)).alloc (.cells #[.string ⟨#[]⟩, .string ⟨#[]⟩, .int .i64 0, .int .i64 0, .int .i64 0, .bool false] 46)) #[.int .i64 0, .int .i64 0, .int .i64 0, .int .i64 0] 125
  have b := (((Below.refl w.heap.size w).alloc (Nat.le_refl _) (.cells #[.string ⟨#[]⟩, .string ⟨#[]⟩, .int .i64 0, .int .i64 0, .int .i64 0, .bool false] 46)).alloc (by simp) (.cells #[.string ⟨#[]⟩, .string ⟨#[]⟩, .int .i64 0, .int .i64 0, .int .i64 0, .bool false] 46)).alloc (by simp; omega) (.cells #[.int .i64 0, .int .i64 0, .int .i64 0, .int .i64 0] 125)
  rw [show (w.alloc (.cells #[.string ⟨#[]⟩, .string ⟨#[]⟩, .int .i64 0, .int .i64 0, .int .i64 0, .bool false] 46)).heap.size = w.heap.size + 1 by simp] at X
  rw [show ((w.alloc (.cells #[.string ⟨#[]⟩, .string ⟨#[]⟩, .int .i64 0, .int .i64 0, .int .i64 0, .bool false] 46)).alloc (.cells #[.string ⟨#[]⟩, .string ⟨#[]⟩, .int .i64 0, .int .i64 0, .int .i64 0, .bool false] 46)).heap.size = w.heap.size + 1 + 1 by simp] at G
  go_enter Tryz.func84, Tryz.ntmps84
  go_upto_region 3 with fail
  generalize ((w.alloc (.cells #[.string ⟨#[]⟩, .string ⟨#[]⟩, .int .i64 0, .int .i64 0, .int .i64 0, .bool false] 46)).alloc (.cells #[.string ⟨#[]⟩, .string ⟨#[]⟩, .int .i64 0, .int .i64 0, .int .i64 0, .bool false] 46)).alloc (.cells #[.int .i64 0, .int .i64 0, .int .i64 0, .int .i64 0] 125) = w3 at *
  have hby := run_bytes w3 (strB v)
  have hcg := strC_ge w3 (strB v)
  have hcl := strC_le w3 (strB v) (by rw [strB_size]; unfold maxLen; omega)
  unfold maxLen at hcl
  have R : Rd (w3.alloc (strO w3 (strB v))).drew (w3.alloc (strO w3 (strB v))).drew.heap.size 1 (some ⟨w3.heap.size, 0, none⟩) v.length (U v) := (Rd.bytes w3 v).more (show w3.heap.size + 1 ≤ (w3.drew.alloc (strO w3 (strB v))).heap.size by simp)
  rw [strB_size] at hby hcg
  generalize strC w3 (strB v) = cv at *
  replace O := (O.alloc (strO w3 (strB v))).drew
  replace X := (X.alloc (strO w3 (strB v))).drew
  replace G := (G.alloc (strO w3 (strB v))).drew
  replace b := (b.alloc b.size (strO w3 (strB v))).drew
  go_wp2_with fail
  clear hby
  generalize (w3.alloc (strO w3 (strB v))).drew = w4 at *
  generalize w3.heap.size = vb at *
  have HC : Hid (v.length ≤ cv ∧ cv ≤ 9223372036854775807) := Lib.hid ⟨hcg, hcl⟩
  clear hcg hcl
  rcases hT1 : Q.taketext v 20 with ⟨e1, nm, r1⟩
  obtain ⟨z1, hz1⟩ : ∃ z : Int, (e1 : Int) = z := ⟨_, rfl⟩
  refine (rytt_at hT1 hz1 _ _ _ _ R HC.out).mono ?_
  rintro _ w5 ⟨⟨A5, c5, rfl, R5, hc5⟩, hb⟩
  have HT1 := Lib.hid hT1
  have HZ1 := Lib.hid hz1
  clear R hT1 hz1
  replace O := O.belowH hb
  replace X := X.belowH hb
  replace G := G.belowH hb
  replace b := b.trans (hb.mono b.size)
  clear hb
  have x0 := X.at 0 rfl
  have x1 := X.at 1 rfl
  have x2 := X.at 2 rfl
  have x3 := X.at 3 rfl
  have x4 := X.at 4 rfl
  have x5 := X.at 5 rfl
  have o0 := O.at 0 rfl
  have o1 := O.at 1 rfl
  have o2 := O.at 2 rfl
  have o3 := O.at 3 rfl
  have o4 := O.at 4 rfl
  have o5 := O.at 5 rfl
  have xc := X.cold
  have oc := O.cold
  have xl := X.lt
  have ol := O.lt
  have hob : w.heap.size < w5.heap.size := O.lt
  go_upto_if 19 with fail
  have X2 := X.set 0 (.string (strB nm))
  have O2 := O.other (b' := w.heap.size + 1) (o := 0) (by omega) (.string (strB nm))
  have G2 := G.other (b' := w.heap.size + 1) (o := 0) (by omega) (.string (strB nm))
  have b2 := below_set (o := 0) b (show w.heap.size ≤ w.heap.size + 1 by omega) (.string (strB nm))
  have R2 : Rd (w5.setCell ⟨w.heap.size + 1, 0, none⟩ (.string (strB nm))) (w5.setCell ⟨w.heap.size + 1, 0, none⟩ (.string (strB nm))).heap.size 1 A5 r1.length (U r1) := rd_box X rfl R5 _
  clear O X G b R5 hob
  clear x0 x1 x2 x3 x4 x5 xc xl o0 o1 o2 o3 o4 o5 oc ol
  generalize w5.setCell ⟨w.heap.size + 1, 0, none⟩ (.string (strB nm)) = w6 at *
  go_cut [6, 7] (Texts w w.heap.size (w.heap.size + 1) (w.heap.size + 1 + 1) v)
  case first =>
    by_cases h1 : z1 = 0
    rotate_left
    · have t1 : (z1 == 0) = false := beq_eq_false_iff_ne.2 h1
      have ST : Stat v nm [] 0 0 0 0 0 r1 z1 := by rw [← HZ1.out]; exact stat_bad1 HT1.out (fun h => h1 (by rw [← HZ1.out, h]; rfl))
      have HST := Lib.hid ST
      clear ST h1
      go_wp2_with fail
      go_meet
      exact ⟨nm, [], r1, z1, A5, c5, rfl, rfl, HST.out, O2, X2, G2, R2, hc5, b2⟩
    · subst h1
      have e10 : e1 = 0 := by have := HZ1.out; omega
      subst e10
      rcases hT2 : Q.taketext r1 20 with ⟨e2, pr, r2⟩
      obtain ⟨z2, hz2⟩ : ∃ z : Int, (e2 : Int) = z := ⟨_, rfl⟩
      have HT2 := Lib.hid hT2
      have HZ2 := Lib.hid hz2
      clear hT2 hz2
      go_wp2_with fail
      refine (rytt_at HT2.out HZ2.out _ _ _ _ R2 hc5).mono ?_
      rintro _ w7 ⟨⟨A7, c7, rfl, R7, hc7⟩, hb⟩
      replace O2 := O2.belowH hb
      replace X2 := X2.belowH hb
      replace G2 := G2.belowH hb
      replace b2 := b2.trans (hb.mono b2.size)
      clear hb R2
      have y0 := X2.at 0 rfl
      have y1 := X2.at 1 rfl
      have yc := X2.cold
      have X3 := X2.set 1 (.string (strB pr))
      have O3 := O2.other (b' := w.heap.size + 1) (o := 1) (by omega) (.string (strB pr))
      have G3 := G2.other (b' := w.heap.size + 1) (o := 1) (by omega) (.string (strB pr))
      have b3 := below_set (o := 1) b2 (show w.heap.size ≤ w.heap.size + 1 by omega) (.string (strB pr))
      have R3 : Rd (w7.setCell ⟨w.heap.size + 1, 1, none⟩ (.string (strB pr))) (w7.setCell ⟨w.heap.size + 1, 1, none⟩ (.string (strB pr))).heap.size 1 A7 r2.length (U r2) := rd_box X2 rfl R7 _
      have ST : Stat v nm pr 0 0 0 0 0 r2 z2 := by
        rw [← HZ2.out]
        by_cases he : e2 = 0
        · subst he; exact stat_start ⟨r1, HT1.out, HT2.out⟩
        · exact stat_bad2 HT1.out HT2.out he
      have HST := Lib.hid ST
      clear ST
      go_wp2_with fail
      go_meet
      exact ⟨nm, pr, r2, z2, A7, c7, rfl, rfl, HST.out, O3, X3, G3, R3, hc7, b3⟩
  case rest =>
    clear O2 X2 G2 b2 R2 HT1 HZ1 hc5
    obtain ⟨nm', pr, r, er, A, c, rfl, rfl, hst, O, X, G, R, hc, b⟩ := hcut
    go_wp2_with fail
    go_loopw [8, 6, 7] (Taken w w.heap.size (w.heap.size + 1) (w.heap.size + 1 + 1) v) (fun i _ _ _ => 4 - (intOf i).toNat)
    case atStart => exact ⟨nm', pr, r, 0, 0, 0, 0, 0, er, A, c, by omega, rfl, rfl, rfl, hst, O, X, G, R, hc, b⟩
    case round =>
      clear O X G R hc b hst
      obtain ⟨nm', pr', r', k, x0, x1, x2, x3, er', A', c', hk, rfl, rfl, rfl, hst, O, X, G, R, hc, b⟩ := hrel
      have HST := Lib.hid hst
      clear hst
      have hk0 : (0 : Int) ≤ (k : Int) := by omega
      by_cases he : er' = 0
      · subst he
        by_cases hk4 : k < 4
        · have g1 : decide ((k : Int) < 4) = true := decide_eq_true (by omega)
          have g1' : decide (k < 4) = true := decide_eq_true (by omega)
          rcases hT : Q.take r' with ⟨e5, N5, j5⟩
          obtain ⟨z5, hz5⟩ : ∃ z : Int, (e5 : Int) = z := ⟨_, rfl⟩
          obtain ⟨x5, hx5⟩ : ∃ z : Int, (N5 : Int) = z := ⟨_, rfl⟩
          obtain ⟨r5, hr5⟩ : ∃ l, Q.rest r' = l := ⟨_, rfl⟩
          have NST := Lib.hid (stat_step hk4 HST.out hT hr5)
          rw [hz5, hx5] at NST
          have HA := Lib.hid (And.intro hT (And.intro hr5 (And.intro hx5 hz5)))
          clear hT hz5 hx5 hr5
          go_wp2_with fail
          refine (rytake_at HA.out.1 HA.out.2.1 HA.out.2.2.1 HA.out.2.2.2 _ _ _ _ R hc).mono ?_
          rintro _ wk ⟨⟨A6, c6, rfl, R6, hc6⟩, hb⟩
          replace O := O.belowH hb
          replace X := X.belowH hb
          replace G := G.belowH hb
          replace b := b.trans (hb.mono b.size)
          clear hb R hc HST HA
          have g0 := G.at 0 (v := .int .i64 x0) rfl
          have g1 := G.at 1 (v := .int .i64 x1) rfl
          have g2 := G.at 2 (v := .int .i64 x2) rfl
          have g3 := G.at 3 (v := .int .i64 x3) rfl
          have gc := G.cold
          have G2 := G.set k (.int .i64 x5)
          have O2 := O.other (b' := w.heap.size + 1 + 1) (o := k) (by omega) (.int .i64 x5)
          have X2 := X.other (b' := w.heap.size + 1 + 1) (o := k) (by omega) (.int .i64 x5)
          have b2 := below_set (o := k) b (show w.heap.size ≤ w.heap.size + 1 + 1 by omega) (.int .i64 x5)
          have R2 : Rd (wk.setCell ⟨w.heap.size + 1 + 1, k, none⟩ (.int .i64 x5)) (wk.setCell ⟨w.heap.size + 1 + 1, k, none⟩ (.int .i64 x5)).heap.size 1 A6 r5.length (U r5) := rd_box G rfl R6 _
          clear O X G b R6
          have hkk : k = 0 ∨ k = 1 ∨ k = 2 ∨ k = 3 := by omega
          rcases hkk with rfl | rfl | rfl | rfl
          all_goals go_wp2
          all_goals go_roundw
          case rel => exact ⟨nm', pr', r5, 1, x5, x1, x2, x3, z5, A6, c6, by omega, by go_num, rfl, rfl, NST.out, O2, X2, G2, R2, hc6, b2⟩
          case rel => exact ⟨nm', pr', r5, 2, x0, x5, x2, x3, z5, A6, c6, by omega, by go_num, rfl, rfl, NST.out, O2, X2, G2, R2, hc6, b2⟩
          case rel => exact ⟨nm', pr', r5, 3, x0, x1, x5, x3, z5, A6, c6, by omega, by go_num, rfl, rfl, NST.out, O2, X2, G2, R2, hc6, b2⟩
          case rel => exact ⟨nm', pr', r5, 4, x0, x1, x2, x5, z5, A6, c6, by omega, by go_num, rfl, rfl, NST.out, O2, X2, G2, R2, hc6, b2⟩
          all_goals (simp [intOf])
        · obtain rfl : k = 4 := by omega
          have g1 : decide ((4 : Int) < 4) = false := by decide
          obtain ⟨n0, n1, n2, n3, h0, h1, h2, h3, hd, hn1, hn2⟩ := stat_end HST.out
          have HD := Lib.hid hd
          have HN := Lib.hid (And.intro h0 (And.intro h1 (And.intro h2 h3)))
          clear hd h0 h1 h2 h3 HST
          obtain ⟨b3, hb3⟩ : ∃ z : Bool, (x3 == 1) = z := ⟨_, rfl⟩
          have HB3 := Lib.hid hb3
          have G0 := G.at 0 (v := .int .i64 x0) rfl
          have G1 := G.at 1 (v := .int .i64 x1) rfl
          have G2 := G.at 2 (v := .int .i64 x2) rfl
          have G3 := G.at 3 (v := .int .i64 x3) rfl
          have y2 := X.at 2 (v := .int .i64 0) rfl
          have y3 := X.at 3 (v := .int .i64 0) rfl
          have y4 := X.at 4 (v := .int .i64 0) rfl
          have y5 := X.at 5 (v := .bool false) rfl
          have yc := X.cold
          go_upto_region 14 with fail
          go_region
          have X9 : Box (((((wr.setCell ⟨w.heap.size + 1, 2, none⟩ (.int .i64 x0)).setCell ⟨w.heap.size + 1, 3, none⟩ (.int .i64 x1)).setCell ⟨w.heap.size + 1, 4, none⟩ (.int .i64 x2)).setCell ⟨w.heap.size + 1, 5, none⟩ (.bool b3))).drew (w.heap.size + 1) 46 #[.string (strB nm'), .string (strB pr'), .int .i64 x0, .int .i64 x1, .int .i64 x2, .bool b3] := ((((X.set 2 (.int .i64 x0)).set 3 (.int .i64 x1)).set 4 (.int .i64 x2)).set 5 (.bool b3)).drew
          have O9 := ((((O.other (b' := w.heap.size + 1) (o := 2) (by omega) (.int .i64 x0)).other (b' := w.heap.size + 1) (o := 3) (by omega) (.int .i64 x1)).other (b' := w.heap.size + 1) (o := 4) (by omega) (.int .i64 x2)).other (b' := w.heap.size + 1) (o := 5) (by omega) (.bool b3)).drew
          have G9 := ((((G.other (b' := w.heap.size + 1) (o := 2) (by omega) (.int .i64 x0)).other (b' := w.heap.size + 1) (o := 3) (by omega) (.int .i64 x1)).other (b' := w.heap.size + 1) (o := 4) (by omega) (.int .i64 x2)).other (b' := w.heap.size + 1) (o := 5) (by omega) (.bool b3)).drew
          have b9 := (below_set (o := 5) (below_set (o := 4) (below_set (o := 3) (below_set (o := 2) b (show w.heap.size ≤ w.heap.size + 1 by omega) (.int .i64 x0)) (show w.heap.size ≤ w.heap.size + 1 by omega) (.int .i64 x1)) (show w.heap.size ≤ w.heap.size + 1 by omega) (.int .i64 x2)) (show w.heap.size ≤ w.heap.size + 1 by omega) (.bool b3)).drew
          clear O X G b R y2 y3 y4 y5 yc G0 G1 G2 G3 hb3
          generalize (((((wr.setCell ⟨w.heap.size + 1, 2, none⟩ (.int .i64 x0)).setCell ⟨w.heap.size + 1, 3, none⟩ (.int .i64 x1)).setCell ⟨w.heap.size + 1, 4, none⟩ (.int .i64 x2)).setCell ⟨w.heap.size + 1, 5, none⟩ (.bool b3))).drew = w9 at *
          have G3 := G9.at 3 (v := .int .i64 x3) rfl
          have o0 := O9.at 0 (v := .string ⟨#[]⟩) rfl
          have o1 := O9.at 1 (v := .string ⟨#[]⟩) rfl
          have o2 := O9.at 2 (v := .int .i64 0) rfl
          have o3 := O9.at 3 (v := .int .i64 0) rfl
          have o4 := O9.at 4 (v := .int .i64 0) rfl
          have o5 := O9.at 5 (v := .bool false) rfl
          have oc := O9.cold
          have x0' := X9.at 0 (v := .string (strB nm')) rfl
          have x1' := X9.at 1 (v := .string (strB pr')) rfl
          have x2' := X9.at 2 (v := .int .i64 x0) rfl
          have x3' := X9.at 3 (v := .int .i64 x1) rfl
          have x4' := X9.at 4 (v := .int .i64 x2) rfl
          have x5' := X9.at 5 (v := .bool b3) rfl
          have HBB : Hid (b3 = decide (n3 = 1)) := Lib.hid (by rw [← HB3.out, ← HN.out.2.2.2]; rw [Bool.eq_iff_iff, beq_iff_eq, decide_eq_true_iff]; omega)
          have HX3 : Hid ((n3 : Int) = x3) := Lib.hid HN.out.2.2.2
          by_cases hr : r'.length = 0
          rotate_left
          · have f1 : decide ((0 : Int) < (r'.length : Int)) = true := decide_eq_true (by omega)
            have f1' : decide (0 < r'.length) = true := decide_eq_true (by omega)
            have E : Hid (Y.dec v = (Y.none, 3)) := Lib.hid (by rw [HD.out]; exact made_no (fun h => hr (by rw [h.1]; rfl)))
            clear hr x0' x1' x2' x3' x4' x5' G3 X9 G9
            go_wp2
            have Q0 := (((((O9.set 0 (.string ⟨#[]⟩)).set 1 (.string ⟨#[]⟩)).set 2 (.int .i64 0)).set 3 (.int .i64 0)).set 4 (.int .i64 0)).set 5 (.bool false)
            have q0 := Q0.at 0 (v := .string ⟨#[]⟩) rfl
            have q1 := Q0.at 1 (v := .string ⟨#[]⟩) rfl
            have q2 := Q0.at 2 (v := .int .i64 0) rfl
            have q3 := Q0.at 3 (v := .int .i64 0) rfl
            have q4 := Q0.at 4 (v := .int .i64 0) rfl
            have q5 := Q0.at 5 (v := .bool false) rfl
            refine bodyPost_ret (v := .tuple #[.agg #[.string ⟨#[]⟩, .string ⟨#[]⟩, .int .i64 0, .int .i64 0, .int .i64 0, .bool false], .int .i64 3]) (by simp [results, Tryz.results84, go_sem, q0, q1, q2, q3, q4, q5]; try rfl) rfl ⟨by rw [E.out]; rfl, ?_⟩
            repeat (first | (with_reducible exact b9) | (with_reducible refine below_set ?_ (by omega) _))
          have f1 : decide ((0 : Int) < (r'.length : Int)) = false := decide_eq_false (by omega)
          have f1' : decide (0 < r'.length) = false := decide_eq_false (by omega)
          have HR : Hid (r' = []) := Lib.hid (List.eq_nil_of_length_eq_zero hr)
          clear hr
          by_cases h3 : 1 < x3
          · have f2 : decide ((1 : Int) < x3) = true := decide_eq_true h3
            have E : Hid (Y.dec v = (Y.none, 3)) := Lib.hid (by rw [HD.out]; exact made_no (fun h => by have := h.2.1; have := HX3.out; omega))
            clear h3 x0' x1' x2' x3' x4' x5' X9
            go_wp2
            have Q0 := (((((O9.set 0 (.string ⟨#[]⟩)).set 1 (.string ⟨#[]⟩)).set 2 (.int .i64 0)).set 3 (.int .i64 0)).set 4 (.int .i64 0)).set 5 (.bool false)
            have q0 := Q0.at 0 (v := .string ⟨#[]⟩) rfl
            have q1 := Q0.at 1 (v := .string ⟨#[]⟩) rfl
            have q2 := Q0.at 2 (v := .int .i64 0) rfl
            have q3 := Q0.at 3 (v := .int .i64 0) rfl
            have q4 := Q0.at 4 (v := .int .i64 0) rfl
            have q5 := Q0.at 5 (v := .bool false) rfl
            refine bodyPost_ret (v := .tuple #[.agg #[.string ⟨#[]⟩, .string ⟨#[]⟩, .int .i64 0, .int .i64 0, .int .i64 0, .bool false], .int .i64 3]) (by simp [results, Tryz.results84, go_sem, q0, q1, q2, q3, q4, q5]; try rfl) rfl ⟨by rw [E.out]; rfl, ?_⟩
            repeat (first | (with_reducible exact b9) | (with_reducible refine below_set ?_ (by omega) _))
          have f2 : decide ((1 : Int) < x3) = false := decide_eq_false h3
          have H31 : Hid (n3 ≤ 1) := Lib.hid (by have := HX3.out; omega)
          have HS : Hid ((⟨nm', pr', (n0 : Int), (n1 : Int), (n2 : Int), decide (n3 = 1)⟩ : Svc) = ⟨nm', pr', x0, x1, x2, b3⟩) := Lib.hid (by rw [HN.out.1, HN.out.2.1, HN.out.2.2.1, ← HBB.out])
          clear h3
          go_wp2_with fail
          refine (ryright_any ⟨nm', pr', x0, x1, x2, b3⟩ ⟨by show nm'.length ≤ _; omega, by show pr'.length ≤ _; omega⟩ _).mono ?_
          rintro _ wz ⟨rfl, hb⟩
          clear x0' x1' x2' x3' x4' x5' o0 o1 o2 o3 o4 o5 oc G3
          replace X9 := X9.belowH hb
          replace O9 := O9.belowH hb
          replace b9 := b9.trans (hb.mono b9.size)
          clear hb G9
          have o0 := O9.at 0 (v := .string ⟨#[]⟩) rfl
          have o1 := O9.at 1 (v := .string ⟨#[]⟩) rfl
          have o2 := O9.at 2 (v := .int .i64 0) rfl
          have o3 := O9.at 3 (v := .int .i64 0) rfl
          have o4 := O9.at 4 (v := .int .i64 0) rfl
          have o5 := O9.at 5 (v := .bool false) rfl
          have oc := O9.cold
          have x0' := X9.at 0 (v := .string (strB nm')) rfl
          have x1' := X9.at 1 (v := .string (strB pr')) rfl
          have x2' := X9.at 2 (v := .int .i64 x0) rfl
          have x3' := X9.at 3 (v := .int .i64 x1) rfl
          have x4' := X9.at 4 (v := .int .i64 x2) rfl
          have x5' := X9.at 5 (v := .bool b3) rfl
          by_cases hy : Y.right ⟨nm', pr', x0, x1, x2, b3⟩
          rotate_left
          · have E : Hid (Y.dec v = (Y.none, 3)) := Lib.hid (by rw [HD.out]; exact made_no (fun h => hy (by rw [← HS.out]; exact h.2.2)))
            rw [decide_eq_false hy]
            clear hy x0' x1' x2' x3' x4' x5' X9
            go_wp2
            have Q0 := (((((O9.set 0 (.string ⟨#[]⟩)).set 1 (.string ⟨#[]⟩)).set 2 (.int .i64 0)).set 3 (.int .i64 0)).set 4 (.int .i64 0)).set 5 (.bool false)
            have q0 := Q0.at 0 (v := .string ⟨#[]⟩) rfl
            have q1 := Q0.at 1 (v := .string ⟨#[]⟩) rfl
            have q2 := Q0.at 2 (v := .int .i64 0) rfl
            have q3 := Q0.at 3 (v := .int .i64 0) rfl
            have q4 := Q0.at 4 (v := .int .i64 0) rfl
            have q5 := Q0.at 5 (v := .bool false) rfl
            refine bodyPost_ret (v := .tuple #[.agg #[.string ⟨#[]⟩, .string ⟨#[]⟩, .int .i64 0, .int .i64 0, .int .i64 0, .bool false], .int .i64 3]) (by simp [results, Tryz.results84, go_sem, q0, q1, q2, q3, q4, q5]; try rfl) rfl ⟨by rw [E.out]; rfl, ?_⟩
            repeat (first | (with_reducible exact b9) | (with_reducible refine below_set ?_ (by omega) _))
          have E : Hid (Y.dec v = (⟨nm', pr', x0, x1, x2, b3⟩, 0)) := Lib.hid (by rw [HD.out, made_yes HR.out H31.out (by rw [HS.out]; exact hy), HS.out])
          rw [decide_eq_true hy]
          clear hy
          go_wp2
          have Q0 := (((((O9.set 0 (.string (strB nm'))).set 1 (.string (strB pr'))).set 2 (.int .i64 x0)).set 3 (.int .i64 x1)).set 4 (.int .i64 x2)).set 5 (.bool b3)
          have q0 := Q0.at 0 (v := .string (strB nm')) rfl
          have q1 := Q0.at 1 (v := .string (strB pr')) rfl
          have q2 := Q0.at 2 (v := .int .i64 x0) rfl
          have q3 := Q0.at 3 (v := .int .i64 x1) rfl
          have q4 := Q0.at 4 (v := .int .i64 x2) rfl
          have q5 := Q0.at 5 (v := .bool b3) rfl
          refine bodyPost_ret (v := .tuple #[.agg #[.string (strB nm'), .string (strB pr'), .int .i64 x0, .int .i64 x1, .int .i64 x2, .bool b3], .int .i64 0]) (by simp [results, Tryz.results84, go_sem, q0, q1, q2, q3, q4, q5]; try rfl) rfl ⟨by rw [E.out]; rfl, ?_⟩
          repeat (first | (with_reducible exact b9) | (with_reducible refine below_set ?_ (by omega) _))
      · have E : Hid (Y.dec v = (Y.none, er')) := Lib.hid (by rcases HST.out with ⟨h, _⟩ | ⟨_, h⟩; exact absurd h he; exact h)
        have t1 : (er' == 0) = false := beq_eq_false_iff_ne.2 he
        have t2 : (er' != 0) = true := bne_iff_ne.2 he
        have O9 := O
        have b9 := b
        have o0 := O9.at 0 (v := .string ⟨#[]⟩) rfl
        have o1 := O9.at 1 (v := .string ⟨#[]⟩) rfl
        have o2 := O9.at 2 (v := .int .i64 0) rfl
        have o3 := O9.at 3 (v := .int .i64 0) rfl
        have o4 := O9.at 4 (v := .int .i64 0) rfl
        have o5 := O9.at 5 (v := .bool false) rfl
        have oc := O9.cold
        clear he HST
        by_cases hk4 : k < 4
        · have g1 : decide ((k : Int) < 4) = true := decide_eq_true (by omega)
          have g1' : decide (k < 4) = true := decide_eq_true (by omega)
          go_wp2
          have Q0 := (((((O9.set 0 (.string ⟨#[]⟩)).set 1 (.string ⟨#[]⟩)).set 2 (.int .i64 0)).set 3 (.int .i64 0)).set 4 (.int .i64 0)).set 5 (.bool false)
          have q0 := Q0.at 0 (v := .string ⟨#[]⟩) rfl
          have q1 := Q0.at 1 (v := .string ⟨#[]⟩) rfl
          have q2 := Q0.at 2 (v := .int .i64 0) rfl
          have q3 := Q0.at 3 (v := .int .i64 0) rfl
          have q4 := Q0.at 4 (v := .int .i64 0) rfl
          have q5 := Q0.at 5 (v := .bool false) rfl
          refine bodyPost_ret (v := .tuple #[.agg #[.string ⟨#[]⟩, .string ⟨#[]⟩, .int .i64 0, .int .i64 0, .int .i64 0, .bool false], .int .i64 er']) (by simp [results, Tryz.results84, go_sem, q0, q1, q2, q3, q4, q5]; try rfl) rfl ⟨by rw [E.out]; rfl, ?_⟩
          repeat (first | (with_reducible exact b9) | (with_reducible refine below_set ?_ (by omega) _))
        · have g1 : decide ((k : Int) < 4) = false := decide_eq_false (by omega)
          have g1' : decide (k < 4) = false := decide_eq_false (by omega)
          go_wp2
          have Q0 := (((((O9.set 0 (.string ⟨#[]⟩)).set 1 (.string ⟨#[]⟩)).set 2 (.int .i64 0)).set 3 (.int .i64 0)).set 4 (.int .i64 0)).set 5 (.bool false)
          have q0 := Q0.at 0 (v := .string ⟨#[]⟩) rfl
          have q1 := Q0.at 1 (v := .string ⟨#[]⟩) rfl
          have q2 := Q0.at 2 (v := .int .i64 0) rfl
          have q3 := Q0.at 3 (v := .int .i64 0) rfl
          have q4 := Q0.at 4 (v := .int .i64 0) rfl
          have q5 := Q0.at 5 (v := .bool false) rfl
          refine bodyPost_ret (v := .tuple #[.agg #[.string ⟨#[]⟩, .string ⟨#[]⟩, .int .i64 0, .int .i64 0, .int .i64 0, .bool false], .int .i64 er']) (by simp [results, Tryz.results84, go_sem, q0, q1, q2, q3, q4, q5]; try rfl) rfl ⟨by rw [E.out]; rfl, ?_⟩
          repeat (first | (with_reducible exact b9) | (with_reducible refine below_set ?_ (by omega) _))
end Go.Proofs.YtmbfldcmiabccaaGreatDoor

namespace Go.Proofs.YtmbfldcmiabccaaGreatDoor
set_option linter.unusedVariables false
set_option linter.unusedSimpArgs false
namespace Y
/-- does an entry tell of a service -/
def tells (x : Ent) : Prop := 3 ≤ x.key ∧ (dec x.val).2 = 0
instance (x : Ent) : Decidable (tells x) := by unfold tells; infer_instance
def all : List Ent → List Svc
  | [] => []
  | x :: r => if tells x then (dec x.val).1 :: all r else all r
def isIt (n p : List UInt8) (x : Ent) : Prop := tells x ∧ (dec x.val).1.name = n ∧ (dec x.val).1.proto = p
instance (n p : List UInt8) (x : Ent) : Decidable (isIt n p x) := by unfold isIt; infer_instance
def key (n p : List UInt8) : List Ent → Int × Bool
  | [] => (0, false)
  | x :: r => if isIt n p x then (x.key, true) else key n p r
/-- the value of a key, nothing where there is none -/
def valOf (l : List Ent) (k : Int) : List UInt8 := match E.get l k with | some x => x.val | Option.none => []
def there (l : List Ent) (k : Int) : Bool := (E.get l k).isSome
def gap (l : List Ent) : Nat → Int → Int × Bool
  | 0, _ => (0, false)
  | f + 1, k => if there l k = false then (k, true) else gap l f (k + 1)
def blank (l : List Ent) : Nat → Int → Int × Bool
  | 0, _ => (0, false)
  | f + 1, k => if valOf l k = [] then (k, true) else blank l f (k + 1)
def place (l : List Ent) : Int × Bool := if (gap l 9 3).2 = true then gap l 9 3 else blank l 9 3
def up (l : List Ent) : Bool := there l 0 && decide (valOf l 0 = [117, 112])
theorem many {l : List Ent} : ∀ (f : Nat) (a : Int), E.rising l → (∀ j, a ≤ j → j < a + f → there l j = true) → f ≤ l.length := by
  induction l with
  | nil =>
    intro f a _ h
    rcases Nat.eq_zero_or_pos f with rfl | hf
    · exact Nat.le_refl _
    · have := h a (Int.le_refl _) (by omega)
      cases this
  | cons x r ih =>
    intro f a hr h
    rcases Nat.eq_zero_or_pos f with rfl | hf
    · exact Nat.zero_le _
    have far : ∀ j, j ≠ x.key → there (x :: r) j = there r j := fun j hj => by
      unfold there
      rw [E.get_cons, if_neg (fun e => hj e.symm)]
    by_cases h1 : x.key < a
    · have := ih f a hr.2 fun j h2 h3 => by rw [← far j (by omega)]; exact h j h2 h3
      simp only [List.length_cons]; omega
    · by_cases h2 : x.key = a
      · have := ih (f - 1) (a + 1) hr.2 fun j h3 h4 => by rw [← far j (by omega)]; exact h j (by omega) (by omega)
        simp only [List.length_cons]; omega
      · have h3 := h a (Int.le_refl _) (by omega)
        rw [far a (fun e => h2 e.symm)] at h3
        unfold there at h3
        rw [E.get_low (fun y hy => by have := hr.1 y hy; omega)] at h3
        cases h3
end Y
end Go.Proofs.YtmbfldcmiabccaaGreatDoor

