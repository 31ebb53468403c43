/- The walks of quill's laws: what is laid is taken as it was; the bytes are the document's. -/
import Derived.Test.YtgbkbpgcdoenoaaQLaws
namespace Go.Proofs.Ytgbkbpgcdoenoaa
open Go.RowKit

theorem lit0 (w : World) : (w.alloc (.cells #[] 5)).ownsRow w.heap.size 5 1 (.slice (some ⟨w.heap.size, 0, none⟩) 0 0) 0 [] := World.ownsRow_lit w #[] 0 (Nat.le_refl _) (by omega) rfl
theorem text0 (s : ByteArray) (w : World) (hs : s.size ≤ 17592186044416) : Calls Try.prog 15 #[.slice none 0 0, .string s] w fun e w' =>
    ∃ A' c', e = .returned (.slice A' (Q.txt s).length c') ∧ w'.ownsRow w.heap.size 5 1 (.slice A' (Q.txt s).length c') (Q.txt s).length (U (Q.txt s)) ∧ Below w.heap.size w w' := by
  refine (text_any none 0 0 0 [] s w (Rd.zero _ _ _ _) (by simp) (by omega) (by omega) hs).mono ?_
  rintro e w1 ⟨A1, c1, rfl, hown1, hbel1⟩
  rw [Nat.zero_add, List.nil_append] at hown1
  rw [Nat.zero_add]
  exact ⟨A1, c1, rfl, hown1, hbel1⟩

set_option maxRecDepth 20000 in
set_option maxHeartbeats 1000000 in
theorem law_QuillBack (a0 : Int) (a1 : ByteArray) (a2 : Option Addr) (len2 cap2 : Nat) (z2 : List Int) (w : World) (_w0 : (Lit.int .i64 a0).wf = true) (_w1 : a1.size ≤ maxLen) (w2 : Row .u8 w a2 len2 cap2 z2) :
    Calls Try.prog 5 #[.int .i64 a0, .string a1, .slice a2 len2 cap2] w fun e w' => e = .returned (.bool true) ∧ Below w.heap.size w w' := by
  obtain ⟨more, hmore, hr⟩ := w2.bytes
  have hc := w2.cap_
  clear w2 _w0 _w1
  by_cases hbig1 : 2000 < a1.size
  · go_enter Try.func5, Try.ntmps5
    go_wp2_with (go_at_call 9; refine (alive_any _).mono ?_; rintro e w1 ⟨rfl, hb1⟩)
    go_ret
    exact ⟨rfl, hb1⟩
  by_cases hbig2 : 2000 < len2
  · go_enter Try.func5, Try.ntmps5
    go_wp2_with (go_at_call 9; refine (alive_any _).mono ?_; rintro e w1 ⟨rfl, hb1⟩)
    go_ret
    exact ⟨rfl, hb1⟩
  have HM := Lib.hid hmore
  clear hmore
  have et := Q.taketext_txt a1 2000 (by omega) (by omega) more
  have ET := Lib.hid et
  clear et
  have hltxt : (Q.txt a1).length ≤ 2009 := by rw [Q.length_txt]; have := Q.size_le a1.size; omega
  have hne : (a1.data.toList == a1.toList) = true := by rw [ByteArray.toList_eq]; simp
  go_enter Try.func5, Try.ntmps5
  go_wp2_with (first
    | (go_at_call 9; refine (alive_any _).mono ?_; rintro e w1 ⟨rfl, hb1⟩)
    | (go_at_call 15; refine (text0 _ _ (by omega)).mono ?_; rintro e w2 ⟨A2, c2, rfl, hown2, hbel2⟩; have hb2 := hb1.trans (hbel2.mono hb1.size))
    | (at_builtin; refine app_law u8T rfl (.tmp 25) (.tmp 26) rfl w.heap.size rfl (own_mono hown2 hb1.size) rfl (hr.below hb2) (U_one _) (by omega) (by omega) hb2.size ?_; rintro A3 c3 w3 ⟨hown3, hg3, _, hold3⟩; have hb3 := below_app hb2 (own_mono hown2 hb1.size) hg3 (Nat.le_refl _) hb2.size))
  have hcap3 := own_cap hown3
  have hr3 := Rd.of_own hown3
  rw [← U_append] at hr3
  clear hown3 hg3 hold3 hown2 hbel2
  go_wp2_with (go_at_call 19; refine (taketext_any A3 _ c3 _ (Q.txt a1 ++ more) 2000 _ hr3 hcap3.1 hcap3.2).mono ?_; rintro e w' ⟨⟨A4, c4, rfl, hr4, hc4, _⟩, q4, rfl⟩; rw [ET.out] at hr4; rw [ET.out])
  refine (same_any A4 a2 _ _ c4 cap2 w3.heap.size w3.heap.size more more _ (by exact hr4) (by rw [← HM.out] at hr ⊢; exact (hr.below hb3).more hb3.size)).mono ?_
  rintro e w' ⟨rfl, rfl⟩
  have hb4 : Below w.heap.size w (w3.drewN q4) := below_drewN hb3 q4
  generalize w3.drewN q4 = w4 at *
  clear hr3 hr4 hb1 hb2 hb3 ET hc4 hcap3
  by_cases hm : Q.may a0
  · have h0 := hm.1
    have h1 := hm.2
    have hsz := Q.size_le a0
    have et := Q.take_ub hm more
    have er := Q.rest_ub hm more
    have ET := Lib.hid et
    have ER := Lib.hid er
    have hx0 : ((a0.toNat : Nat) : Int) = a0 := Int.toNat_of_nonneg h0
    have HX0 := Lib.hid hx0
    clear et er hx0 hm
    go_wp2_with (first
      | (go_at_call 14; refine (num1 _ _).mono ?_; rintro e w5 ⟨A5, c5, rfl, hown5, hbel5⟩; have hb5 := hb4.trans (hbel5.mono hb4.size); have hcap5 := own_cap hown5; have hr5 := Rd.of_own hown5)
      | (at_builtin; refine app_law0 u8T rfl (.tmp 67) (.tmp 68) rfl w5.heap.size rfl (lit0 w5) rfl (hr5.alloc (Nat.le_refl _) _) (U_one _) (by omega) (by omega) (by simp) ?_; rintro A6 c6 w6 ⟨hown6, hg6, _, hold6⟩; have hb6 := below_app ((Below.refl w5.heap.size w5).alloc (Nat.le_refl _) _) (lit0 w5) hg6 (Nat.le_refl _) (by simp))
      | (at_builtin; refine app_law u8T rfl (.tmp 69) (.tmp 70) rfl w5.heap.size rfl hown6 rfl (hr.below (hb5.trans (hb6.mono hb5.size))) (U_one _) (by omega) (by omega) hb6.size ?_; rintro A7 c7 w7 ⟨hown7, hg7, _, hold7⟩; have hb7 := below_app hb6 hown6 hg7 (Nat.le_refl _) hb6.size; have hcap7 := own_cap hown7; have hr7 := Rd.of_own hown7)
      | (go_at_call 17; refine (take_any A7 _ c7 _ (Q.ub a0 ++ more) _ (by rw [U_append]; exact hr7) hcap7.1 hcap7.2).mono ?_; rintro e w' ⟨⟨A8, c8, rfl, hr8, hc8, _⟩, rfl⟩; rw [ET.out, HX0.out]; rw [ER.out] at hr8 ⊢)
      | (go_at_call 13; refine (same_any A8 a2 _ _ c8 cap2 w7.heap.size w7.heap.size more more _ hr8 (by rw [← HM.out] at hr ⊢; exact (hr.below (hb5.trans (hb7.mono hb5.size))).more (Nat.le_trans hb5.size hb7.size))).mono ?_; rintro e w' ⟨rfl, rfl⟩)
      | (go_at_call 11; refine (size_any _ _).mono ?_; rintro e w' ⟨rfl, rfl⟩))
    go_ret
    exact ⟨rfl, hb5.trans (hb7.mono hb5.size)⟩
  · have hs : Q.size a0 = 0 := by simp [Q.size, hm]
    have hor : a0 < 0 ∨ (0 ≤ a0 ∧ 4611686018427387904 < a0) := by unfold Q.may at hm; omega
    clear hm
    rcases hor with h0 | ⟨h0, h1⟩
    all_goals
      go_wp2_with (first
        | (go_at_call 14; refine (num1 _ _).mono ?_; rintro e w5 ⟨A5, c5, rfl, hown5, hbel5⟩; rw [hs]; clear hown5)
        | (go_at_call 11; refine (size_any _ _).mono ?_; rintro e w' ⟨rfl, rfl⟩))
      go_ret
      exact ⟨rfl, hb4.trans (hbel5.mono hb4.size)⟩

set_option maxRecDepth 20000 in
set_option maxHeartbeats 1000000 in
theorem law_QuillLays (a0 : Option Addr) (len0 cap0 : Nat) (z0 : List Int) (a1 : Option Addr) (len1 cap1 : Nat) (z1 : List Int) (a2 : ByteArray) (w : World) (w0 : Row .u8 w a0 len0 cap0 z0) (w1 : Row .i64 w a1 len1 cap1 z1) (_w2 : a2.size ≤ maxLen) :
    Calls Try.prog 3 #[.slice a0 len0 cap0, .slice a1 len1 cap1, .string a2] w fun e w' => e = .returned (.bool true) ∧ Below w.heap.size w w' := by
  obtain ⟨b, hlb, hrb⟩ := w0.bytes
  obtain ⟨l, hll, hrl⟩ := w1.ints
  clear w0 w1 _w2
  have hor : 2000 < len0 ∨ (len0 ≤ 2000 ∧ 200 < len1) ∨ (len0 ≤ 2000 ∧ len1 ≤ 200 ∧ 2000 < a2.size) ∨ (len0 ≤ 2000 ∧ len1 ≤ 200 ∧ a2.size ≤ 2000) := by omega
  have HLB := Lib.hid hlb
  have HLL := Lib.hid hll
  clear hlb hll
  rcases hor with h0 | ⟨h0, h1⟩ | ⟨h0, h1, h2⟩ | ⟨h0, h1, h2⟩
  any_goals
    go_enter Try.func3, Try.ntmps3
    go_wp2_with (go_at_call 9; refine (alive_any _).mono ?_; rintro e w1 ⟨rfl, hb1⟩)
    go_ret
    exact ⟨rfl, hb1⟩
  go_enter Try.func3, Try.ntmps3
  go_wp2_with (go_at_call 9; refine (alive_any _).mono ?_; rintro e w1 ⟨rfl, hb1⟩)
  have hrb1 := hrb.belowH hb1
  have hrl1 := hrl.belowH hb1
  clear hrb hrl
  go_loopw [7, 8] (fun x i wr => ∃ (k : Nat) (A : Option Addr) (c : Nat), k ≤ len1 ∧ i = .int .i64 k ∧ x = .slice A (len0 + Q.sizes (l.take k)) c ∧
      Rd wr wr.heap.size 1 A (len0 + Q.sizes (l.take k)) (U (b ++ Q.ubs (l.take k))) ∧ Below w1.heap.size w1 wr) (fun _ i _ => len1 - (intOf i).toNat)
  case atStart => exact ⟨0, a0, cap0, by omega, rfl, rfl, by simpa [Q.ubs, Q.sizes] using hrb1, Below.refl _ _⟩
  case round =>
    obtain ⟨k, A, c, hk, rfl, rfl, hrx, hbr⟩ := hrel
    have hsz := Q.sizes_le (l.take k)
    have hs2 : (l.take k).length ≤ k := List.length_take_le _ _
    by_cases hkn : k < len1
    · obtain ⟨bb, o, x, rfl, hbl, hx, hcell⟩ := (hrl1.below hbr).atI hkn
      have HX := Lib.hid hx
      have hnn : (((Q.size x : Nat) : Int) != ((Q.size x : Nat) : Int)) = false := by simp
      clear hx
      go_wp2_with (go_at_call 10; refine (rnum_any _ _ _ _ _ _ _ hrx (U_one _) (Nat.le_refl _) (by omega)).mono ?_; rintro e w3 ⟨A3, c3, rfl, hown3, hb3⟩; have hcell3 := (hb3.cell (p := ⟨bb, o + k, none⟩) (by have := hbr.size; show bb < _; omega)).trans hcell)
      go_quiet (first
        | (go_at_call 11; exact Calls.quiet_of_same ((size_any _ _).mono fun _ _ h => ⟨h.1, h.2.symm⟩))
        | (go_at_call 12; exact Calls.quiet_of_same ((rsize_any _ _).mono fun _ _ h => ⟨h.1, h.2.symm⟩)))
      go_wp2
      go_roundw
      case rel =>
        have hr3 := Rd.of_own hown3
        refine ⟨k + 1, A3, c3, by omega, by go_num, ?_, ?_, below_drewN (hbr.trans (hb3.mono hbr.size)) _⟩
        · rw [take_more HX.out, Q.sizes_snoc, Nat.add_assoc]
        · rw [take_more HX.out, Q.sizes_snoc, Q.ubs_snoc, ← List.append_assoc, U_append, ← Nat.add_assoc]; exact hr3
      case measure => simp [intOf]; omega
    · have e0 : l.take k = l := List.take_of_length_le (by have := HLL.out; omega)
      rw [e0] at hrx hsz ⊢
      clear e0 hs2
      have hll := HLL.out
      have hsz2 : Q.sizes l ≤ 1800 := by omega
      clear hll hsz
      have hb2 := hb1.trans (hbr.mono hb1.size)
      have hrb2 := hrb1.below hbr
      have hrl2 := hrl1.below hbr
      have hwz := hbr.size
      go_wp2_with (first
        | (at_builtin; refine app_law0 u8T rfl (.tmp 49) (.tmp 50) rfl wr.heap.size rfl (lit0 wr) rfl (hrb2.alloc hwz _) (U_one _) (by omega) (by omega) (by simp) ?_; rintro A4 c4 w4 ⟨hown4, hg4, _, hold4⟩; have hb4 := below_app ((Below.refl wr.heap.size wr).alloc (Nat.le_refl _) _) (lit0 wr) hg4 (Nat.le_refl _) (by simp); have hr4 := Rd.of_own hown4)
        | (go_at_call 14; refine (num_any A4 a1 len0 _ _ _ w4.heap.size (U b) l _ hr4 (U_one _) ((hrl2.below (hb4.mono hwz)).more (Nat.le_trans hwz hb4.size)) (Nat.le_refl _) (by omega) (by omega)).mono ?_; rintro e w5 ⟨A5, c5, rfl, hown5, hb5⟩; have hr5 := Rd.of_own hown5))
      have hwz4 := hb4.size
      have hwz5 := hb5.size
      clear hown4 hg4 hold4 hown5
      refine (same_any A5 A _ _ c5 c w5.heap.size w5.heap.size (b ++ Q.ubs l) (b ++ Q.ubs l) _ (by rw [U_append]; exact hr5) (((hrx.below hb4).below (hb5.mono hwz4)).more (Nat.le_trans hwz4 hwz5))).mono ?_
      rintro e w' ⟨rfl, rfl⟩
      go_wp2_with (first
        | (go_at_call 15; refine (text_any A4 len0 c4 w5.heap.size (U b) a2 _ (hr4.belowH hb5) (U_one _) (Nat.le_refl _) (by omega) (by omega)).mono ?_; rintro e w6 ⟨A6, c6, rfl, hown6, hb6⟩; have hr6 := Rd.of_own hown6; have hwz6 := hb6.size)
        | (go_at_call 16; refine (rtext_any a0 len0 cap0 w6.heap.size (U b) a2 _ (((hrb2.below (hb4.mono hwz)).below (hb5.mono (by omega))).below (hb6.mono (by omega)) |>.more (by omega)) (U_one _) (Nat.le_refl _) (by omega) (by omega)).mono ?_; rintro e w7 ⟨A7, c7, rfl, hown7, hb7⟩; have hr7 := Rd.of_own hown7; have hwz7 := hb7.size))
      refine (same_any A6 A7 _ _ c6 c7 w7.heap.size w7.heap.size (b ++ Q.txt a2) (b ++ Q.txt a2) _ (by rw [U_append]; exact hr6.belowH hb7) (by rw [U_append]; exact hr7)).mono ?_
      rintro e w' ⟨rfl, rfl⟩
      go_wp2_with fail
      refine (same_any A4 a0 _ _ c4 cap0 w7.heap.size w7.heap.size b b _ (((hr4.belowH hb5).belowH hb6).belowH hb7) ((((hrb2.below (hb4.mono hwz)).below (hb5.mono (by omega))).below (hb6.mono (by omega))).below (hb7.mono (by omega)) |>.more (by omega))).mono ?_
      rintro e w' ⟨rfl, rfl⟩
      go_wp2
      go_ret
      exact ⟨rfl, ((((hb2.trans (hb4.mono hb2.size)).trans (hb5.mono (by have := hb2.size; omega))).trans (hb6.mono (by have := hb2.size; omega))).trans (hb7.mono (by have := hb2.size; omega)))⟩
end Go.Proofs.Ytgbkbpgcdoenoaa
