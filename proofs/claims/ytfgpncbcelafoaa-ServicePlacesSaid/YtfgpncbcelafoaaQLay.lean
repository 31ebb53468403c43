/- quill.lay and the reference's Num lay a number's bytes. -/
import Derived.Test.YtfgpncbcelafoaaQSize
import Derived.Test.YtfgpncbcelafoaaBase
namespace Go.Proofs.Ytfgpncbcelafoaa
open Go.RowKit

theorem lay_any (A : Option Addr) (n c base : Nat) (xs : List Value) (m : Int) (w : World) (hown : w.ownsRow base 5 1 (.slice A n c) n xs) (hbase : base ≤ w.heap.size) (hn : n ≤ 70368744177664) :
    Calls Try.prog 37 #[.slice A n c, .int .i64 m] w fun e w' => ∃ A' c', e = .returned (.slice A' (n + Q.size m) c') ∧
      w'.ownsRow base 5 1 (.slice A' (n + Q.size m) c') (n + Q.size m) (xs ++ U (Q.ub m)) ∧ Below base w w' := by
  by_cases h0 : Q.may m
  · have hs : ((Q.size m : Int) == 0) = false := beq_eq_false_iff_ne.2 (by have := Q.size_pos h0; omega)
    have H0 := Lib.hid h0
    have hm0 : 0 ≤ m := h0.1
    have hm1 : m ≤ 4611686018427387904 := h0.2
    clear h0
    go_enter Try.func37, Try.ntmps37
    go_wp2_with (go_at_call 36; refine (size_any _ _).mono ?_; rintro e w' ⟨rfl, rfl⟩)
    go_loopw [0, 1] (fun s x wr => ∃ (A' : Option Addr) (c' : Nat) (l : List Nat) (y : Nat), Q.LayAt m.toNat l y ∧ x = .int .i64 y ∧ s = .slice A' (n + l.length) c' ∧
        wr.ownsRow base 5 1 (.slice A' (n + l.length) c') (n + l.length) (xs ++ U (l.map UInt8.ofNat)) ∧ Below base w wr) (fun _ x _ => (intOf x).toNat)
    case atStart => exact ⟨A, c, [], m.toNat, Q.layAt_start _ (by omega), by go_num, rfl, by simpa [U] using hown, Below.refl _ _⟩
    case round =>
      obtain ⟨A1, c1, l, y, hl, rfl, rfl, hown1, hbel⟩ := hrel
      have hle := Q.layAt_le hl
      have hl1 := hle.1
      have hl2 := hle.2
      have hbs := hbel.size
      have HL := Lib.hid hl
      clear hl hle
      by_cases hlt : 127 < y
      · have hm1 : y % 128 ≤ 127 := by omega
        go_wp2_with (at_builtin; refine app_law u8T rfl (.tmp 11) (.tmp 16) rfl base rfl (hown1.alloc _) rfl (Rd.one _ _ _) (one_int _ _) (by omega) (by omega) (by simp; omega) ?_; rintro A2 c2 w2 ⟨hown2, hg2, _, holdw2⟩)
        go_roundw
        case rel =>
          have eb : bits BinOp.or IntKind.u8 (bits BinOp.and IntKind.i64 (↑y) 127 % 256) 128 = ((y % 128 + 128 : Nat) : Int) := by
            rw [i64_and127, show (y : Int) % 128 % 256 = ((y % 128 : Nat) : Int) by omega, u8_or128 _ (by omega)]
          rw [eb, U_nat (by omega), List.append_assoc, ← U_append] at hown2
          have el : n + (l ++ [y % 128 + 128]).length = n + l.length + 1 := by simp; omega
          refine ⟨A2, c2, l ++ [y % 128 + 128], y / 128, Q.layAt_step HL.out hlt, by go_num, by rw [el], ?_, ?_⟩
          · rw [el, List.map_append]; exact hown2
          · exact below_app (hbel.alloc (by omega) _) (hown1.alloc _) hg2 (Nat.le_refl _) (by simp; omega)
        case measure => simp [intOf]; omega
      · go_wp2_with (at_builtin; refine app_law u8T rfl (.tmp 20) (.tmp 23) rfl base rfl (hown1.alloc _) rfl (Rd.one _ _ _) (one_int _ _) (by omega) (by omega) (by simp; omega) ?_; rintro A2 c2 w2 ⟨hown2, hg2, _, holdw2⟩)
        go_ret
        have E := Q.ub_end H0.out HL.out (by omega)
        refine ⟨A2, c2, by rw [E.2]; rfl, ?_, below_app (hbel.alloc (by omega) _) (hown1.alloc _) hg2 (Nat.le_refl _) (by simp; omega)⟩
        rw [E.1, E.2, U_append, ← List.append_assoc, ← U_nat (by omega)]
        exact hown2
  · have hs : Q.size m = 0 := by simp [Q.size, h0]
    have hb : Q.ub m = [] := by simp [Q.ub, Q.bytes, h0]
    clear h0
    have HS := Lib.hid hs
    clear hs
    go_enter Try.func37, Try.ntmps37
    go_wp2_with (go_at_call 36; refine (size_any _ _).mono ?_; rintro e w' ⟨rfl, rfl⟩; rw [HS.out])
    go_ret
    exact ⟨A, c, by rw [HS.out]; rfl, by rw [HS.out, hb]; simpa [U] using hown, Below.refl _ _⟩

theorem room_any (A : Option Addr) (n c B : Nat) (xs : List Value) (r : Int) (w : World) (h : Rd w B 1 A n xs) (h1 : ∀ u ∈ xs, u.oneCell' = true) (hB : B ≤ w.heap.size) (hr : 0 ≤ r) (hr2 : r ≤ 70368744177664) (hn : n ≤ 70368744177664) :
    Calls Try.prog 35 #[.slice A n c, .int .i64 r] w fun e w' => ∃ A' c', e = .returned (.slice A' n c') ∧ w'.ownsRow w.heap.size 5 1 (.slice A' n c') n xs ∧ Below w.heap.size w w' := by
  go_enter Try.func35, Try.ntmps35
  go_wp2_with (first
    | (at_make; refine make0_law u8T rfl _ _ rfl w.heap.size rfl rfl (by omega) (by omega) (by omega) (Nat.le_refl _) ?_; intro A1 c1 w1 hown1 hg1)
    | (at_builtin; refine app_law u8T rfl (.tmp 9) (.tmp 10) rfl w.heap.size rfl hown1 rfl (h.grown hg1 hB (by simp)) h1 (by omega) (by omega) hg1.size ?_; rintro A2 c2 w2 ⟨hown2, hg2, _, holdw2⟩))
  go_ret
  exact ⟨A2, c2, rfl, by simpa using hown2, below_app ((Below.refl _ _).grown hg1 (Nat.le_refl _) (by simp)) hown1 hg2 (Nat.le_refl _) hg1.size⟩

set_option maxHeartbeats 800000 in
theorem num_any (A A1 : Option Addr) (n c k c1 B : Nat) (xs : List Value) (l : List Int) (w : World) (h : Rd w B 1 A n xs) (h1 : ∀ u ∈ xs, u.oneCell' = true) (hl : Rd w B 1 A1 k (I l)) (hB : B ≤ w.heap.size) (hn : n ≤ 35184372088832) (hk : k ≤ 1099511627776) :
    Calls Try.prog 23 #[.slice A n c, .slice A1 k c1] w fun e w' => ∃ A' c', e = .returned (.slice A' (n + Q.sizes l) c') ∧
      w'.ownsRow w.heap.size 5 1 (.slice A' (n + Q.sizes l) c') (n + Q.sizes l) (xs ++ U (Q.ubs l)) ∧ Below w.heap.size w w' := by
  have hkl : l.length = k := by have := hl.len1; rwa [I_length] at this
  have HKL := Lib.hid hkl
  clear hkl
  go_enter Try.func23, Try.ntmps23
  go_wp2
  go_loop [5, 13] (fun r i => ∃ j : Nat, j ≤ k ∧ i = .int .i64 j ∧ r = .int .i64 (Q.sizes (l.take j))) (fun _ i => k - (intOf i).toNat)
  case atStart => exact ⟨0, by omega, rfl, rfl⟩
  case round =>
    obtain ⟨j, hj, rfl, rfl⟩ := hrel
    have hs := Q.sizes_le (l.take j)
    have hs2 : (l.take j).length ≤ j := List.length_take_le _ _
    by_cases hjk : j < k
    · obtain ⟨b, o, x, rfl, hb, hx, hc⟩ := hl.atI hjk
      have hsx := Q.size_le x
      have HX := Lib.hid hx
      clear hx
      go_wp2_with (go_at_call 36; refine (size_any _ _).mono ?_; rintro e w' ⟨rfl, rfl⟩)
      go_round
      case rel => exact ⟨j + 1, by omega, by go_num, by rw [take_more HX.out, Q.sizes_snoc]; go_num⟩
      case measure => simp [intOf]; omega
    · have hjk' : l.take j = l := List.take_of_length_le (by have := HKL.out; omega)
      rw [hjk'] at hs ⊢
      clear hs2 hjk'
      have hlk := HKL.out
      have hs3 : Q.sizes l ≤ 9 * k := by omega
      clear hs hlk
      go_wp2_with (go_at_call 35; refine (room_any _ _ _ _ _ _ _ h h1 hB (by omega) (by omega) (by omega)).mono ?_; rintro e w1 ⟨A2, c2, rfl, hown, hbel⟩)
      go_loopw [8, 27] (fun s i wr => ∃ (j : Nat) (A' : Option Addr) (c' : Nat), j ≤ k ∧ i = .int .i64 j ∧ s = .slice A' (n + Q.sizes (l.take j)) c' ∧
          wr.ownsRow w.heap.size 5 1 (.slice A' (n + Q.sizes (l.take j)) c') (n + Q.sizes (l.take j)) (xs ++ U (Q.ubs (l.take j))) ∧ Below w.heap.size w wr) (fun _ i _ => k - (intOf i).toNat)
      case atStart => exact ⟨0, A2, c2, by omega, rfl, rfl, by simpa [Q.ubs, Q.sizes, U] using hown, hbel⟩
      case round =>
        obtain ⟨j2, A3, c3, hj2, rfl, rfl, hown3, hbel3⟩ := hrel
        have hs := Q.sizes_le (l.take j2)
        have hs2 : (l.take j2).length ≤ j2 := List.length_take_le _ _
        have hbs := hbel3.size
        by_cases hjk2 : j2 < k
        · obtain ⟨b, o, x, rfl, hb, hx, hc⟩ := (hl.below (hbel3.mono hB)).atI hjk2
          have HX := Lib.hid hx
          clear hx
          go_wp2_with (go_at_call 37; refine (lay_any _ _ _ w.heap.size _ _ _ hown3 hbs (by omega)).mono ?_; rintro e w4 ⟨A4, c4, rfl, hown4, hbel4⟩)
          go_roundw
          case rel =>
            refine ⟨j2 + 1, A4, c4, by omega, by go_num, ?_, ?_, hbel3.trans hbel4⟩
            · rw [take_more HX.out, Q.sizes_snoc, Nat.add_assoc]
            · rw [take_more HX.out, Q.sizes_snoc, Q.ubs_snoc, U_append, ← Nat.add_assoc, ← List.append_assoc]; exact hown4
          case measure => simp [intOf]; omega
        · have hjk' : l.take j2 = l := List.take_of_length_le (by have := HKL.out; omega)
          rw [hjk'] at hown3 hs ⊢
          clear hs hs2 hjk'
          go_wp2
          go_ret
          exact ⟨A3, c3, rfl, hown3, hbel3⟩

theorem text_any (A : Option Addr) (n c B : Nat) (xs : List Value) (s : ByteArray) (w : World) (h : Rd w B 1 A n xs) (h1 : ∀ u ∈ xs, u.oneCell' = true) (hB : B ≤ w.heap.size) (hn : n ≤ 17592186044416) (hs : s.size ≤ 17592186044416) :
    Calls Try.prog 22 #[.slice A n c, .string s] w fun e w' => ∃ A' c', e = .returned (.slice A' (n + (Q.txt s).length) c') ∧
      w'.ownsRow w.heap.size 5 1 (.slice A' (n + (Q.txt s).length) c') (n + (Q.txt s).length) (xs ++ U (Q.txt s)) ∧ Below w.heap.size w w' := by
  have hz := Q.size_le s.size
  go_enter Try.func22, Try.ntmps22
  go_wp2_with (first
    | (go_at_call 36; refine (size_any _ _).mono ?_; rintro e w' ⟨rfl, rfl⟩)
    | (go_at_call 35; refine (room_any _ _ _ _ _ _ _ h h1 hB (by omega) (by omega) (by omega)).mono ?_; rintro e w1 ⟨A2, c2, rfl, hown, hbel⟩; have hbs := hbel.size)
    | (go_at_call 37; refine (lay_any _ _ _ w.heap.size _ _ _ hown hbs (by omega)).mono ?_; rintro e w2 ⟨A3, c3, rfl, hown3, hbel3⟩; have hbs3 := hbel3.size)
    | (at_builtin; refine app_str_law u8T Try.underlying9 rfl (.tmp 17) (.tmp 18) rfl w.heap.size rfl hown3 rfl (by omega) (by omega) ?_; intro A4 c4 w4 hown4 hg4))
  go_ret
  have el : n + (Q.txt s).length = n + Q.size ↑s.size + s.size := by rw [Q.length_txt]; omega
  rw [el]
  refine ⟨A4, c4, rfl, ?_, below_app (hbel.trans (hbel3.mono (Nat.le_refl _))) hown3 hg4 (Nat.le_refl _) (by omega)⟩
  rw [Q.txt, U_append, ← List.append_assoc]
  exact hown4

/-! ### The reference's -/
set_option maxRecDepth 10000 in
set_option maxHeartbeats 800000 in
theorem rnum_any (A : Option Addr) (n c B : Nat) (xs : List Value) (m : Int) (w : World) (h : Rd w B 1 A n xs) (h1 : ∀ u ∈ xs, u.oneCell' = true) (hB : B ≤ w.heap.size) (hn : n ≤ 35184372088832) :
    Calls Try.prog 25 #[.slice A n c, .int .i64 m] w fun e w' => ∃ A' c', e = .returned (.slice A' (n + Q.size m) c') ∧
      w'.ownsRow w.heap.size 5 1 (.slice A' (n + Q.size m) c') (n + Q.size m) (xs ++ U (Q.ub m)) ∧ Below w.heap.size w w' := by
  have hlit : (w.alloc (.cells #[] 5)).ownsRow w.heap.size 5 1 (.slice (some ⟨w.heap.size, 0, none⟩) 0 0) 0 [] := World.ownsRow_lit w #[] 0 (Nat.le_refl _) (by omega) rfl
  by_cases h0 : Q.may m
  · have hb : mayB m = true := by simp [mayB, h0]
    have H0 := Lib.hid h0
    have hm0 : 0 ≤ m := h0.1
    have hm1 : m ≤ 4611686018427387904 := h0.2
    clear h0
    go_enter Try.func25, Try.ntmps25
    go_wp2_with (first
      | (at_builtin; refine app_law u8T rfl (.tmp 6) (.tmp 7) rfl w.heap.size rfl hlit rfl (h.alloc hB _) h1 (by omega) (by omega) (by simp) ?_; rintro A1 c1 w1 ⟨hown1, hg1, _, holdw1⟩; have hbel1 := below_app ((Below.refl w.heap.size w).alloc (Nat.le_refl _) _) hlit hg1 (Nat.le_refl _) (by simp))
      | (go_at_call 38; refine (may_any _ _).mono ?_; rintro e w' ⟨rfl, rfl⟩))
    have hb1 := hbel1.size
    go_loopw [5, 1] (fun s x wr => ∃ (A' : Option Addr) (c' : Nat) (l : List Nat) (y : Nat), Q.LayAt m.toNat l y ∧ x = .int .i64 y ∧ s = .slice A' (n + l.length) c' ∧
        wr.ownsRow w.heap.size 5 1 (.slice A' (n + l.length) c') (n + l.length) (xs ++ U (l.map UInt8.ofNat)) ∧ Below w.heap.size w wr) (fun _ x _ => (intOf x).toNat)
    case atStart => exact ⟨A1, c1, [], m.toNat, Q.layAt_start _ (by omega), by go_num, rfl, by simpa [U] using hown1, hbel1⟩
    case round =>
      obtain ⟨A2, c2, l, y, hl, rfl, rfl, hown2, hbel2⟩ := hrel
      clear hlit hown1 hg1 hbel1 hb h h1
      have hle := Q.layAt_le hl
      have hl1 := hle.1
      have hl2 := hle.2
      have hbs := hbel2.size
      have HL := Lib.hid hl
      clear hl hle
      by_cases hlt : 128 ≤ y
      · have hm1 : y % 128 ≤ 127 := by omega
        go_wp2_with (at_builtin; refine app_law u8T rfl (.tmp 15) (.tmp 20) rfl w.heap.size rfl (hown2.alloc _) rfl (Rd.one _ _ _) (one_int _ _) (by omega) (by omega) (by simp; omega) ?_; rintro A3 c3 w3 ⟨hown3, hg3, _, holdw3⟩)
        go_roundw
        case rel =>
          have hown3' : w3.ownsRow w.heap.size 5 1 (.slice A3 (n + l.length + 1) c3) (n + l.length + 1) (xs ++ U (l.map UInt8.ofNat) ++ [.int .u8 ((y % 128 + 128 : Nat) : Int)]) := hown3
          rw [U_nat (by omega), List.append_assoc, ← U_append] at hown3'
          have el : n + (l ++ [y % 128 + 128]).length = n + l.length + 1 := by simp; omega
          refine ⟨A3, c3, l ++ [y % 128 + 128], y / 128, Q.layAt_step HL.out hlt, by go_num, by rw [el], ?_, ?_⟩
          · rw [el, List.map_append]; exact hown3'
          · exact below_app (hbel2.alloc (by omega) _) (hown2.alloc _) hg3 (Nat.le_refl _) (by simp; omega)
        case measure => simp [intOf]; omega
      · go_wp2_with (at_builtin; refine app_law u8T rfl (.tmp 24) (.tmp 27) rfl w.heap.size rfl (hown2.alloc _) rfl (Rd.one _ _ _) (one_int _ _) (by omega) (by omega) (by simp; omega) ?_; rintro A3 c3 w3 ⟨hown3, hg3, _, holdw3⟩)
        go_ret
        have E := Q.ub_end H0.out HL.out (by omega)
        refine ⟨A3, c3, by rw [E.2]; rfl, ?_, below_app (hbel2.alloc (by omega) _) (hown2.alloc _) hg3 (Nat.le_refl _) (by simp; omega)⟩
        rw [E.1, E.2, U_append, ← List.append_assoc, ← U_nat (by omega)]
        exact hown3
  · have hb : mayB m = false := by simp [mayB, h0]
    have hs : Q.size m = 0 := by simp [Q.size, h0]
    have hub : Q.ub m = [] := by simp [Q.ub, Q.bytes, h0]
    have HS := Lib.hid hs
    have HU := Lib.hid hub
    clear h0 hs hub
    go_enter Try.func25, Try.ntmps25
    go_wp2_with (first
      | (at_builtin; refine app_law u8T rfl (.tmp 6) (.tmp 7) rfl w.heap.size rfl hlit rfl (h.alloc hB _) h1 (by omega) (by omega) (by simp) ?_; rintro A1 c1 w1 ⟨hown1, hg1, _, holdw1⟩; have hbel1 := below_app ((Below.refl w.heap.size w).alloc (Nat.le_refl _) _) hlit hg1 (Nat.le_refl _) (by simp))
      | (go_at_call 38; refine (may_any _ _).mono ?_; rintro e w' ⟨rfl, rfl⟩))
    go_ret
    exact ⟨A1, c1, by rw [HS.out]; rfl, by rw [HS.out, HU.out]; simpa [U] using hown1, hbel1⟩

theorem rtext_any (A : Option Addr) (n c B : Nat) (xs : List Value) (s : ByteArray) (w : World) (h : Rd w B 1 A n xs) (h1 : ∀ u ∈ xs, u.oneCell' = true) (hB : B ≤ w.heap.size) (hn : n ≤ 17592186044416) (hs : s.size ≤ 17592186044416) :
    Calls Try.prog 24 #[.slice A n c, .string s] w fun e w' => ∃ A' c', e = .returned (.slice A' (n + (Q.txt s).length) c') ∧
      w'.ownsRow w.heap.size 5 1 (.slice A' (n + (Q.txt s).length) c') (n + (Q.txt s).length) (xs ++ U (Q.txt s)) ∧ Below w.heap.size w w' := by
  have hz := Q.size_le s.size
  go_enter Try.func24, Try.ntmps24
  go_wp2_with (first
    | (go_at_call 25; refine (rnum_any _ _ _ _ _ _ _ h h1 hB (by omega)).mono ?_; rintro e w2 ⟨A3, c3, rfl, hown3, hbel3⟩; have hbs3 := hbel3.size)
    | (at_builtin; refine app_str_law u8T Try.underlying9 rfl (.tmp 8) (.tmp 9) rfl w.heap.size rfl hown3 rfl (by omega) (by omega) ?_; intro A4 c4 w4 hown4 hg4))
  go_ret
  have el : n + (Q.txt s).length = n + Q.size ↑s.size + s.size := by rw [Q.length_txt]; omega
  rw [el]
  refine ⟨A4, c4, rfl, ?_, below_app hbel3 hown3 hg4 (Nat.le_refl _) (by omega)⟩
  rw [Q.txt, U_append, ← List.append_assoc]
  exact hown4
end Go.Proofs.Ytfgpncbcelafoaa
