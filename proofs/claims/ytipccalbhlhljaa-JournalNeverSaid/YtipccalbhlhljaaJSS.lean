/- SSum SSeal SOpen (merged). -/
import Derived.Laws.BitsAllLaws
import Derived.Deep.RegionHeld3
import Derived.Laws.NewBlocks
import Derived.Handy
import Derived.Stop.BytesEq
import Derived.Laws.Cover3
import Derived.Test.YtipccalbhlhljaaJMem
import Derived.Test.YtipccalbhlhljaaJPlain
namespace Go.Proofs.Ytipccalbhlhljaa
open Go.RowKit

set_option maxHeartbeats 400000 in
theorem down_any (s : Nat) (hs : s < 4294967296) (w : World) :
    Calls Try.prog 61 #[.int .u32 s] w fun e w' => e = .returned (.int .u32 (S.T s)) ∧ w = w' := by
  go_enter Try.func61, Try.ntmps61
  go_wp2
  go_ret
  refine ⟨ret_int ?_, rfl⟩
  have e1 : bits BinOp.and IntKind.u32 (s : Int) 1 = ((s &&& 1 : Nat) : Int) := u32_and_nat s 1 hs (by omega)
  have e2 : s &&& 1 = s % 2 := Nat.and_one_is_mod s
  have e3 : ((s : Int) / 2) = ((s / 2 : Nat) : Int) := by omega
  rw [e1, e2, e3]
  unfold S.T
  rcases Nat.mod_two_eq_zero_or_one s with h | h
  · rw [h, if_neg (by omega)]
    exact u32_xor_nat (s / 2) 0 (by omega) (by omega)
  · rw [h, if_pos rfl]
    exact u32_xor_nat (s / 2) 2197175160 (by omega) (by omega)

theorem sum_not (l : List UInt8) : bits BinOp.xor IntKind.u32 IntKind.u32.max (S.crc 4294967295 l : Int) = (S.sum l : Int) := by
  rw [S.sum_xor]; exact u32_xor_nat 4294967295 _ (by omega) (S.crc_lt l (by omega))

set_option maxHeartbeats 800000 in
theorem sum_any (A : Option Addr) (n c B : Nat) (l : List UInt8) (w : World) (h : Rd w B 1 A n (U l)) (hn : n ≤ 70368744177664) :
    Calls Try.prog 47 #[.slice A n c] w fun e w' => e = .returned (.int .u32 (S.sum l)) ∧ w = w' := by
  have hl : l.length = n := by have := h.len1; rwa [U_length] at this
  have HL := Lib.hid hl
  have HR := Lib.hid h
  clear hl h
  go_enter Try.func47, Try.ntmps47
  go_wp2
  go_loop [3, 8] (fun s i => ∃ k : Nat, k ≤ n ∧ i = .int .i64 k ∧ s = .int .u32 (S.crc 4294967295 (l.take k))) (fun _ i => n - (intOf i).toNat)
  case atStart => exact ⟨0, by omega, rfl, rfl⟩
  case round =>
    obtain ⟨k, hk, rfl, rfl⟩ := hrel
    by_cases hlt : k < n
    · obtain ⟨b, o, x, rfl, hb, hx, hcell⟩ := HR.out.atU hlt
      have hc0 := S.crc_lt (s := 4294967295) (l.take k) (by omega)
      have hx1 := x.toNat_lt
      have hxx := @Nat.xor_lt_two_pow _ _ 32 hc0 (Nat.lt_trans x.toNat_lt (by omega))
      have ex : bits .xor .u32 (S.crc 4294967295 (l.take k) : Int) (x.toNat : Int) = ((S.crc 4294967295 (l.take k) ^^^ x.toNat : Nat) : Int) := u32_xor_nat _ _ hc0 (by omega)
      have ec : S.crc 4294967295 (l.take (k + 1)) = S.Tn 8 (S.crc 4294967295 (l.take k) ^^^ x.toNat) := by rw [take_more hx, S.crc_append]; rfl
      have EC := Lib.hid ec
      have EX := Lib.hid hx
      clear ec hx
      go_wp2
      go_loop [3, 16] (fun s i => ∃ j y : Nat, j ≤ 8 ∧ y < 4294967296 ∧ S.Tn (8 - j) y = S.crc 4294967295 (l.take (k + 1)) ∧ i = .int .i64 j ∧ s = .int .u32 y) (fun _ i => 8 - (intOf i).toNat)
      case atStart => exact ⟨0, _, by omega, hxx, EC.out.symm, rfl, rfl⟩
      case round =>
        obtain ⟨j, y, hj, hy, hT, rfl, rfl⟩ := hrel
        have HT := Lib.hid hT
        clear hT
        by_cases hj8 : j < 8
        · go_wp2_with (go_at_call 61; refine (down_any _ hy _).mono ?_; rintro e w' ⟨rfl, rfl⟩)
          go_round
          case rel =>
            refine ⟨j + 1, S.T y, by omega, S.T_lt hy, ?_, by go_num, rfl⟩
            have := HT.out
            rw [show 8 - j = (8 - (j + 1)) + 1 by omega] at this
            exact this
          case measure => simp [intOf]; omega
        · go_wp2
          go_round
          case rel =>
            refine ⟨k + 1, by omega, by go_num, ?_⟩
            have := HT.out
            rw [show 8 - j = 0 by omega] at this
            rw [← this]; rfl
          case measure => simp [intOf]; omega
    · go_wp2
      go_ret
      have e1 : l.take k = l := List.take_of_length_le (by have := HL.out; omega)
      rw [e1]
      exact ⟨ret_int (sum_not l), rfl⟩

set_option maxHeartbeats 800000 in
set_option maxRecDepth 20000 in
theorem rsum_any (A : Option Addr) (n c B : Nat) (l : List UInt8) (w : World) (h : Rd w B 1 A n (U l)) (hn : n ≤ 70368744177664) :
    Calls Try.prog 51 #[.slice A n c] w fun e w' => e = .returned (.int .u32 (S.sum l)) ∧ w = w' := by
  have hl : l.length = n := by have := h.len1; rwa [U_length] at this
  have HL := Lib.hid hl
  have HR := Lib.hid h
  clear hl h
  go_enter Try.func51, Try.ntmps51
  go_wp2
  go_loop [3, 4] (fun s i => ∃ k : Nat, k ≤ n ∧ i = .int .i64 k ∧ s = .int .u32 (S.crc 4294967295 (l.take k))) (fun _ i => n - (intOf i).toNat)
  case atStart => exact ⟨0, by omega, rfl, rfl⟩
  case round =>
    obtain ⟨k, hk, rfl, rfl⟩ := hrel
    by_cases hlt : k < n
    · obtain ⟨b, o, x, rfl, hb, hx, hcell⟩ := HR.out.atU hlt
      have hc0 := S.crc_lt (s := 4294967295) (l.take k) (by omega)
      have hx1 := x.toNat_lt
      have hxx := @Nat.xor_lt_two_pow _ _ 32 hc0 (Nat.lt_trans x.toNat_lt (by omega))
      have ex : bits .xor .u32 (S.crc 4294967295 (l.take k) : Int) (x.toNat : Int) = ((S.crc 4294967295 (l.take k) ^^^ x.toNat : Nat) : Int) := u32_xor_nat _ _ hc0 (by omega)
      have ec : S.crc 4294967295 (l.take (k + 1)) = S.Tn 8 (S.crc 4294967295 (l.take k) ^^^ x.toNat) := by rw [take_more hx, S.crc_append]; rfl
      have EC := Lib.hid ec
      have EX := Lib.hid hx
      clear ec hx
      go_wp2
      go_loop [3, 5] (fun s i => ∃ j y : Nat, j ≤ 8 ∧ y < 4294967296 ∧ S.Tn (8 - j) y = S.crc 4294967295 (l.take (k + 1)) ∧ i = .int .i64 j ∧ s = .int .u32 y) (fun _ i => 8 - (intOf i).toNat)
      case atStart => exact ⟨0, _, by omega, hxx, EC.out.symm, rfl, rfl⟩
      case round =>
        obtain ⟨j, y, hj, hy, hT, rfl, rfl⟩ := hrel
        have HT := Lib.hid hT
        clear hT
        by_cases hj8 : j < 8
        · rcases Nat.mod_two_eq_zero_or_one y with hy2 | hy2
          · have hi2 : (((y : Int) % 2) == 1) = false := beq_eq_false_iff_ne.2 (by omega)
            have eT : S.T y = y / 2 := by unfold S.T; rw [hy2, if_neg (by omega), Nat.xor_zero]
            have ET := Lib.hid eT
            clear eT hy2
            go_wp2
            go_round
            case rel =>
              refine ⟨j + 1, S.T y, by omega, S.T_lt hy, ?_, by go_num, by rw [ET.out]; go_num⟩
              have := HT.out
              rw [show 8 - j = (8 - (j + 1)) + 1 by omega] at this
              exact this
            case measure => simp [intOf]; omega
          · have hi2 : (((y : Int) % 2) == 1) = true := beq_iff_eq.2 (by omega)
            have eT : (S.T y : Int) = bits .xor .u32 ((y : Int) / 2) 2197175160 := by
              unfold S.T; rw [hy2, if_pos rfl, show ((y : Int) / 2) = ((y / 2 : Nat) : Int) by omega]; exact (u32_xor_nat (y / 2) 2197175160 (by omega) (by omega)).symm
            have ET := Lib.hid eT
            clear eT hy2
            go_wp2
            go_round
            case rel =>
              refine ⟨j + 1, S.T y, by omega, S.T_lt hy, ?_, by go_num, by rw [ET.out]⟩
              have := HT.out
              rw [show 8 - j = (8 - (j + 1)) + 1 by omega] at this
              exact this
            case measure => simp [intOf]; omega
        · go_wp2
          go_round
          case rel =>
            refine ⟨k + 1, by omega, by go_num, ?_⟩
            have := HT.out
            rw [show 8 - j = 0 by omega] at this
            rw [← this]; rfl
          case measure => simp [intOf]; omega
    · go_wp2
      go_ret
      have e1 : l.take k = l := List.take_of_length_le (by have := HL.out; omega)
      rw [e1]
      exact ⟨ret_int (sum_not l), rfl⟩
end Go.Proofs.Ytipccalbhlhljaa

namespace Go.Proofs.Ytipccalbhlhljaa
open Go.RowKit

/-- the object of four bytes -/
def o4 (a b c d : Int) : Obj := .cells #[.int .u8 a, .int .u8 b, .int .u8 c, .int .u8 d] 70
set_option maxHeartbeats 800000 in
theorem laid_any (s : Nat) (hs : s < 4294967296) (w : World) :
    Calls Try.prog 46 #[.int .u32 s] w fun e w' => e = .returned (.agg #[.int .u8 (s % 256), .int .u8 (s / 256 % 256), .int .u8 (s / 65536 % 256), .int .u8 (s / 16777216)]) ∧ Below w.heap.size w w' := by
  go_enter Try.func46, Try.ntmps46
  go_wp2
  go_loopw [5] (fun i wr => i = .int .i64 0 ∧ wr = (w.alloc (o4 0 0 0 0)).alloc (o4 0 0 0 0) ∨ i = .int .i64 1 ∧ wr = (w.alloc (o4 0 0 0 0)).alloc (o4 (s % 256) 0 0 0)
    ∨ i = .int .i64 2 ∧ wr = (w.alloc (o4 0 0 0 0)).alloc (o4 (s % 256) (s / 256 % 256) 0 0) ∨ i = .int .i64 3 ∧ wr = (w.alloc (o4 0 0 0 0)).alloc (o4 (s % 256) (s / 256 % 256) (s / 65536 % 256) 0)
    ∨ i = .int .i64 4 ∧ wr = (w.alloc (o4 0 0 0 0)).alloc (o4 (s % 256) (s / 256 % 256) (s / 65536 % 256) (s / 16777216))) (fun i _ => 4 - (intOf i).toNat)
  case atStart => exact Or.inl ⟨rfl, rfl⟩
  case round =>
    rcases hrel with ⟨rfl, rfl⟩ | ⟨rfl, rfl⟩ | ⟨rfl, rfl⟩ | ⟨rfl, rfl⟩ | ⟨rfl, rfl⟩
    · simp only [o4]; go_wp2; go_roundw
      case rel => exact Or.inr (Or.inl ⟨rfl, trivial⟩)
      case measure => simp [intOf]
    · simp only [o4]; go_wp2; go_roundw
      case rel => exact Or.inr (Or.inr (Or.inl ⟨rfl, trivial⟩))
      case measure => simp [intOf]
    · simp only [o4]; go_wp2; go_roundw
      case rel => exact Or.inr (Or.inr (Or.inr (Or.inl ⟨rfl, trivial⟩)))
      case measure => simp [intOf]
    · simp only [o4]; go_wp2; go_roundw
      case rel => exact Or.inr (Or.inr (Or.inr (Or.inr ⟨rfl, trivial⟩)))
      case measure => simp [intOf]
    · simp only [o4]; go_wp2
      go_returns
      exact ⟨rfl, ((Below.refl _ _).alloc (Nat.le_refl _) _).alloc (by simp) _⟩

theorem lit0 (w : World) : (w.alloc (.cells #[] 5)).ownsRow w.heap.size 5 1 (.slice (some ⟨w.heap.size, 0, none⟩) 0 0) 0 [] := by
  have := World.ownsRow_lit (base := w.heap.size) (e := 5) (size := 1) w #[] 0 (Nat.le_refl _) (by decide) rfl
  simpa using this

theorem four_cells {s : Nat} (hs : s < 4294967296) : [Value.int .u8 (s % 256 : Int), .int .u8 (s / 256 % 256 : Int), .int .u8 (s / 65536 % 256 : Int), .int .u8 (s / 16777216 : Int)] = U (S.four s) := by
  simp only [S.four, U, List.map_cons, List.map_nil, UInt8.toNat_ofNat']
  have e : s / 16777216 % 2 ^ 8 = s / 16777216 := Nat.mod_eq_of_lt (by omega)
  rw [e]; rfl

set_option maxHeartbeats 800000 in
theorem seal_any (A : Option Addr) (n c B : Nat) (l : List UInt8) (w : World) (h : Rd w B 1 A n (U l)) (hB : B ≤ w.heap.size) (hn : n ≤ 35184372088832) :
    Calls Try.prog 27 #[.slice A n c] w fun e w' => ∃ A' c', e = .returned (.slice A' (n + 4) c') ∧ w'.ownsRow w.heap.size 5 1 (.slice A' (n + 4) c') (n + 4) (U (S.sealed l)) ∧ Below w.heap.size w w' := by
  have hsum := S.sum_lt l
  go_enter Try.func27, Try.ntmps27
  go_wp2_with (first
    | (go_at_call 47; refine (sum_any A n c B l _ h (by omega)).mono ?_; rintro e w' ⟨rfl, rfl⟩)
    | (go_at_call 46; refine (laid_any _ hsum _).mono ?_; rintro e w1 ⟨rfl, hbel1⟩)
    | (at_make; refine make0_law u8T rfl _ _ rfl (w1.heap.size + 1) rfl rfl (by omega) (by omega) (by omega) (by simp) ?_; intro A1 c1 w2 hown1 hg1))
  have hs1 := hbel1.size
  have hs2 := hg1.size
  have hs2 : w1.heap.size + 1 ≤ w2.heap.size := by simpa using hs2
  have hr2 : Rd w2 (w1.heap.size + 1) 1 A n (U l) := (((h.more hB).below hbel1)|>.alloc hs1 _ |>.more (by omega)).grown hg1 (by simp) (by simp)
  have hr3 : Rd w2 (w1.heap.size + 1) 1 (some ⟨w1.heap.size, 0, none⟩) 4 [.int .u8 (S.sum l % 256), .int .u8 (S.sum l / 256 % 256), .int .u8 (S.sum l / 65536 % 256), .int .u8 (S.sum l / 16777216)] := (Rd.lit w1 _ _ 1 4 rfl).grown hg1 (by simp) (by simp)
  have hb2 : Below w.heap.size w w2 := (hbel1.alloc hs1 _).grown hg1 (by simp; omega) (by simp)
  go_region_held3 (fun _ => True) (trivial)
    (first
    | (refine step_app_law u8T (by rfl) (.tmp 12) (.tmp 13) (by rfl) (w1.heap.size + 1) rfl hown1 rfl hr2 (U_one _) (by omega) (by omega) (by show _ ≤ w2.heap.size; omega) ?_; rintro A3 c3 w3 ⟨hown3, hg3, _, hold3⟩)
    | (refine step_app_law u8T (by rfl) (.tmp 14) (.tmp 15) (by rfl) (w1.heap.size + 1) rfl hown3 rfl (hr3.drew.grown hg3 hs2 (by intro k hk; have := (hown1.lt k hk).1; omega)) (by simp [Value.oneCell']) (by omega) (by omega) (by have h7 : w2.heap.size ≤ w3.heap.size := hg3.size; show _ ≤ w3.heap.size; omega) ?_; rintro A4 c4 w4 ⟨hown4, hg4, _, hold4⟩))
  go_wp2
  go_ret
  have e4 := four_cells hsum
  refine ⟨A4, c4, rfl, ?_, ?_⟩
  · have h9 := own_mono hown4 (base' := w.heap.size) (by omega)
    rw [Nat.zero_add, List.nil_append, e4, ← U_append] at h9
    exact h9
  · refine below_app (below_app hb2.drew hown1 hg3 (by omega) hs2) hown3 hg4 (by omega) ?_
    have h7 : w2.heap.size ≤ w3.heap.size := hg3.size
    omega
end Go.Proofs.Ytipccalbhlhljaa

namespace Go.Proofs.Ytipccalbhlhljaa
open Go.RowKit

theorem four_at (s : Nat) {k : Nat} (hk : k < 4) : (S.four s)[k]? = some (UInt8.ofNat (s / 256 ^ k)) := by
  rcases k with _ | _ | _ | _ | k
  · simp [S.four]
  · simp [S.four]
  · simp [S.four]
  · simp [S.four]
  · omega

theorem U_mod (y : Nat) : U [UInt8.ofNat y] = [.int .u8 ((y : Int) % 256)] := by
  simp [U, UInt8.toNat_ofNat']

set_option maxHeartbeats 800000 in
set_option maxRecDepth 20000 in
theorem rseal_any (A : Option Addr) (n c B : Nat) (l : List UInt8) (w : World) (h : Rd w B 1 A n (U l)) (hB : B ≤ w.heap.size) (hn : n ≤ 35184372088832) :
    Calls Try.prog 31 #[.slice A n c] w fun e w' => ∃ A' c', e = .returned (.slice A' (n + 4) c') ∧ w'.ownsRow w.heap.size 5 1 (.slice A' (n + 4) c') (n + 4) (U (S.sealed l)) ∧ Below w.heap.size w w' := by
  have hsum := S.sum_lt l
  go_enter Try.func31, Try.ntmps31
  go_wp2_with (first
    | (at_builtin; refine app_law0 u8T rfl (.tmp 6) (.tmp 7) rfl w.heap.size rfl (lit0 w) rfl (h.alloc hB _) (U_one _) (by omega) (by omega) (by simp) ?_; rintro A1 c1 w1 ⟨hown1, hg1, _, _⟩; have hb1 := below_app ((Below.refl w.heap.size w).alloc (Nat.le_refl _) _) (lit0 w) hg1 (Nat.le_refl _) (by simp))
    | (go_at_call 51; refine (rsum_any A n c B l _ (h.below (hb1.mono hB)) (by omega)).mono ?_; rintro e w' ⟨rfl, rfl⟩))
  go_loopw [3, 4, 5] (fun o s i wr => ∃ (k : Nat) (A' : Option Addr) (c' : Nat), k ≤ 4 ∧ i = .int .i64 k ∧ s = .int .u32 (S.sum l / 256 ^ k : Nat) ∧ o = .slice A' (n + k) c' ∧
      wr.ownsRow w.heap.size 5 1 (.slice A' (n + k) c') (n + k) (U (l ++ (S.four (S.sum l)).take k)) ∧ Below w.heap.size w wr) (fun _ _ i _ => 4 - (intOf i).toNat)
  case atStart => exact ⟨0, A1, c1, by omega, rfl, by simp, rfl, by simpa using hown1, hb1⟩
  case round =>
    obtain ⟨k, A2, c2, hk, rfl, rfl, rfl, hown2, hb2⟩ := hrel
    have hbs := hb2.size
    by_cases hlt : k < 4
    · generalize hy : S.sum l / 256 ^ k = y
      have hy2 : y < 4294967296 := by rw [← hy]; exact Nat.lt_of_le_of_lt (Nat.div_le_self _ _) hsum
      have HY := Lib.hid hy
      clear hy
      go_wp2_with (at_builtin; refine app_law u8T rfl (.tmp 15) (.tmp 19) rfl w.heap.size rfl (hown2.alloc _) rfl (Rd.one _ _ _) (one_int _ _) (by omega) (by omega) (by simp; omega) ?_; rintro A3 c3 w3 ⟨hown3, hg3, _, _⟩)
      go_roundw
      case rel =>
        refine ⟨k + 1, A3, c3, by omega, by go_num, ?_, rfl, ?_, below_app (hb2.alloc hbs _) (hown2.alloc _) hg3 (Nat.le_refl _) (by simp; omega)⟩
        · rw [Nat.pow_succ, ← Nat.div_div_eq_div_mul, HY.out]; go_num
        · rw [take_more (four_at _ hlt), HY.out, ← List.append_assoc, U_append]
          rw [U_mod y]; exact hown3
      case measure => simp [intOf]; omega
    · have hk4 : k = 4 := by omega
      subst hk4
      go_wp2
      go_ret
      exact ⟨A2, c2, rfl, hown2, hb2⟩

end Go.Proofs.Ytipccalbhlhljaa

