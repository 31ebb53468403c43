/- Label's contracts with the answer at hand; the fixed fact. -/
import Derived.Test.YtillnjhmdgmgeaaDoorBCode
import Derived.Test.YtillnjhmdgmgeaaDoorBKal
namespace Go.Proofs.YtillnjhmdgmgeaaDoor
set_option linter.unusedVariables false
set_option linter.unusedSimpArgs false
open Go.RowKit
theorem labels_few (s : List UInt8) : (Lab.labels s).length ≤ 254 := by
  cases hc : Lab.cut s with
  | none => unfold Lab.labels; rw [hc]; simp
  | some l => unfold Lab.labels; rw [hc]; exact Lab.ok_few (Lab.cut_some hc).1
theorem own_belowB {w w' : World} {base e size n : Nat} {v : Value} {xs : List Value} (h : w.ownsRow base e size v n xs) (hb : Below w.heap.size w w') : w'.ownsRow base e size v n xs := by
  refine ⟨h.1, ?_⟩
  rcases h.2 with h0 | ⟨g, cap, cur, hv, hbg, hg, rest⟩
  · exact .inl h0
  · exact .inr ⟨g, cap, cur, hv, hbg, (hb.block g (lt_of_block hg)).trans hg, rest⟩
theorem blright_at {s : List UInt8} {z : Bool} (e : Lab.right s = z) (hs : s.length ≤ 100000) (w : World) : Calls Tryd.prog 13 #[.string (strB s)] w (BoB z w) := by have h := blright_any s hs w; rw [e] at h; exact h
theorem bllabels_at {s : List UInt8} {l : List (List UInt8)} (e : Lab.labels s = l) (hs : s.length ≤ 100000) (w : World) : Calls Tryd.prog 16 #[.string (strB s)] w (LabR l w) := by have h := bllabels_any s hs w; rw [e] at h; exact h
theorem rlabels_at {s : List UInt8} {l : List (List UInt8)} (e : Lab.labels s = l) (hs : s.length ≤ 100000) (w : World) : Calls Tryd.prog 17 #[.string (strB s)] w (LabR l w) := by have h := rlabels_any s hs w; rw [e] at h; exact h
theorem blof_at {s t : List UInt8} {er : Int} (e : Lab.of s = (t, er)) (hs : s.length ≤ 100000) (w : World) : Calls Tryd.prog 9 #[.string (strB s)] w (TxE t er w) := by have h := blof_any s hs w; rw [e] at h; exact h
theorem rof_at {s t : List UInt8} {er : Int} (e : Lab.of s = (t, er)) (hs : s.length ≤ 100000) (w : World) : Calls Tryd.prog 10 #[.string (strB s)] w (TxE t er w) := by have h := rof_any s hs w; rw [e] at h; exact h
theorem bltext_at {s t : List UInt8} {er : Int} (e : Lab.text s = (t, er)) (hs : s.length ≤ 100000) (w : World) : Calls Tryd.prog 11 #[.string (strB s)] w (TxE t er w) := by have h := bltext_any s hs w; rw [e] at h; exact h
theorem rltext_at {s t : List UInt8} {er : Int} (e : Lab.text s = (t, er)) (hs : s.length ≤ 100000) (w : World) : Calls Tryd.prog 12 #[.string (strB s)] w (TxE t er w) := by have h := rltext_any s hs w; rw [e] at h; exact h
theorem bllower_at {s t : List UInt8} (e : Lab.lower s = t) (hs : s.length ≤ 100000) (w : World) : Calls Tryd.prog 18 #[.string (strB s)] w (TxO t w) := by have h := bllower_any s hs w; rw [e] at h; exact h
theorem blsame_at {a b : List UInt8} {z : Bool} (e : Lab.same a b = z) (ha : a.length ≤ 100000) (hb : b.length ≤ 100000) (w : World) : Calls Tryd.prog 20 #[.string (strB a), .string (strB b)] w (BoB z w) := by have h := blsame_any a b ha hb w; rw [e] at h; exact h
theorem blunder_at {a b : List UInt8} {z : Bool} (e : Lab.under a b = z) (ha : a.length ≤ 100000) (hb : b.length ≤ 100000) (w : World) : Calls Tryd.prog 22 #[.string (strB a), .string (strB b)] w (BoB z w) := by have h := blunder_any a b ha hb w; rw [e] at h; exact h
theorem runder_at {a b : List UInt8} {z : Bool} (e : Lab.under a b = z) (ha : a.length ≤ 100000) (hb : b.length ≤ 100000) (w : World) : Calls Tryd.prog 23 #[.string (strB a), .string (strB b)] w (BoB z w) := by have h := runder_any a b ha hb w; rw [e] at h; exact h
theorem bljoin_at {l : List (List UInt8)} {t : List UInt8} {er : Int} (e : Lab.join l = (t, er)) (A : Option Addr) (n c : Nat) (w : World) (h : Rd w w.heap.size 1 A n (Tt l)) (hn : n ≤ 100000) (hl : ∀ x ∈ l, x.length ≤ 100000) : Calls Tryd.prog 24 #[.slice A n c] w (TxE t er w) := by have h1 := bljoin_any l A n c w h hn hl; rw [e] at h1; exact h1
theorem rtexts_at {l l' : List (List UInt8)} {z : Bool} (e : decide (l = l') = z) (A A' : Option Addr) (n n' c c' B B' : Nat) (w : World) (h : Rd w B 1 A n (Tt l)) (h' : Rd w B' 1 A' n' (Tt l')) (hn : n ≤ 1000000) : Calls Tryd.prog 15 #[.slice A n c, .slice A' n' c'] w (BoB z w) := by have h1 := rtexts_any l l' A A' n n' c c' B B' w h h' hn; rw [e] at h1; exact h1
set_option maxHeartbeats 2000000 in
set_option maxRecDepth 20000 in
theorem blalive_any (w : World) : Calls Tryd.prog 8 #[] w fun e w' => e = .returned (.bool true) ∧ Below w.heap.size w w' := by
  have E1 := Lib.hid Lab.kal1
  have E2 := Lib.hid Lab.kal2
  have E3 := Lib.hid Lab.kal3
  have E4 := Lib.hid Lab.kal4
  have E5 := Lib.hid Lab.kal5
  have E6 := Lib.hid Lab.kal6
  have E7 := Lib.hid Lab.kal7
  have q1 : (strB [1, 97, 2, 98, 99, 0] == (⟨#[1, 97, 2, 98, 99, 0]⟩ : ByteArray)) = true := by decide
  have q2 : (strB [97, 46, 98, 99, 46] == (⟨#[97, 46, 98, 99, 46]⟩ : ByteArray)) = true := by decide
  have b := Below.refl w.heap.size w
  go_enter Tryd.func8, Tryd.ntmps8
  go_wp2_with fail
  refine (blof_at E1.out (by decide) w).mono ?_
  rintro e w1 ⟨rfl, hb⟩
  replace b := b.trans (hb.mono b.size)
  clear hb
  go_wp2_with fail
  refine (bltext_at E2.out (by decide) w1).mono ?_
  rintro e w2 ⟨rfl, hb⟩
  replace b := b.trans (hb.mono b.size)
  clear hb
  go_wp2_with fail
  refine (blof_at E3.out (by decide) w2).mono ?_
  rintro e w3 ⟨rfl, hb⟩
  replace b := b.trans (hb.mono b.size)
  clear hb
  go_wp2_with fail
  refine (blsame_at E4.out (by decide) (by decide) w3).mono ?_
  rintro e w4 ⟨rfl, hb⟩
  replace b := b.trans (hb.mono b.size)
  clear hb
  go_wp2_with fail
  refine (blunder_at E5.out (by decide) (by decide) w4).mono ?_
  rintro e w5 ⟨rfl, hb⟩
  replace b := b.trans (hb.mono b.size)
  clear hb
  go_wp2_with fail
  refine (bllabels_at E6.out (by decide) w5).mono ?_
  rintro e w6 ⟨⟨A, n, c, rfl, rfl, R, hc⟩, hb⟩
  replace b := b.trans (hb.mono b.size)
  clear hb
  go_wp2_with fail
  refine (blright_at E7.out (by decide) w6).mono ?_
  rintro e w7 ⟨rfl, hb⟩
  replace b := b.trans (hb.mono b.size)
  clear hb
  go_wp2
  go_ret
  exact ⟨rfl, b⟩
end Go.Proofs.YtillnjhmdgmgeaaDoor
