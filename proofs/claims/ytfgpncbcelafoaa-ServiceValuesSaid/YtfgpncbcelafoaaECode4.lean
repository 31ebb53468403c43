/- The code's Get, add, Above, Clone, Equal, Same. -/
import Derived.Test.YtfgpncbcelafoaaECode3
namespace Go.Proofs.Ytfgpncbcelafoaa
set_option linter.unusedVariables false
set_option linter.unusedSimpArgs false
open Go.RowKit

theorem found_key {l : List Ent} {key i : Int} (h : Found (fun y => y.key == key) l i) : (i = -1 ∧ E.get l key = none) ∨ ∃ (k : Nat) (x : Ent), i = k ∧ l[k]? = some x ∧ E.get l key = some x := by
  rcases h with ⟨rfl, h⟩ | ⟨k, x, rfl, hx, he, hno⟩
  · exact Or.inl ⟨rfl, E.get_rising_none fun y hy => by simpa using h y hy⟩
  · exact Or.inr ⟨k, x, rfl, hx, E.get_at hx (by simpa using he) fun y hy => by simpa using hno y hy⟩

set_option maxHeartbeats 1000000 in
theorem get_any (l : List Ent) (key : Int) (A : Option Addr) (n c B : Nat) (w : World) (h : Rd w B 3 A n (EC l)) (hB : B ≤ w.heap.size) (hn : n * 32 ≤ 140737488351232) :
    Calls Try.prog 34 #[.slice A n c, .int .i64 key] w fun e w' => e = .returned (getV (E.get l key)) ∧ Below w.heap.size w w' := by
  have hl := h.lenE
  have HL := Lib.hid hl
  clear hl
  have b1 : Below w.heap.size w (w.alloc (.cells #[.int .i64 key] 3)) := (Below.refl _ _).alloc (Nat.le_refl _) _
  have x1 := Box.new w #[.int .i64 key] 3
  have hs1 : w.heap.size < (w.alloc (.cells #[.int .i64 key] 3)).heap.size := by simp
  have hse : (w.alloc (.cells #[.int .i64 key] 3)).heap.size = w.heap.size + 1 := by simp
  have b2 := b1.alloc b1.size (.cells #[.int .i64 0, .int .i64 0, .string ⟨#[]⟩] 40)
  have x2 := Box.new (w.alloc (.cells #[.int .i64 key] 3)) #[.int .i64 0, .int .i64 0, .string ⟨#[]⟩] 40
  rw [hse] at x2
  have hs2 : w.heap.size + 1 < ((w.alloc (.cells #[.int .i64 key] 3)).alloc (.cells #[.int .i64 0, .int .i64 0, .string ⟨#[]⟩] 40)).heap.size := by simp
  have k1 := (x1.alloc (.cells #[.int .i64 0, .int .i64 0, .string ⟨#[]⟩] 40)).at 0 rfl
  have h2 := (h.alloc hB (.cells #[.int .i64 key] 3)).alloc (by omega) (.cells #[.int .i64 0, .int .i64 0, .string ⟨#[]⟩] 40)
  have HB2 := Lib.hid b2
  have HX2 := Lib.hid x2
  have HK1 := Lib.hid k1
  clear b1 x1 hs1 hse b2 x2 k1 h
  go_enter Try.func34, Try.ntmps34
  go_wp2_with fail
  generalize (w.alloc (.cells #[.int .i64 key] 3)).alloc (.cells #[.int .i64 0, .int .i64 0, .string ⟨#[]⟩] 40) = w2 at *
  refine (idx_any l _ _ _ egKey A n c B w2 h2 (by omega) hn (meant_key (b := w.heap.size) (by omega) (Nat.le_refl _) HK1.out)).mono ?_
  rintro e w3 ⟨⟨i, rfl, hf⟩, hb3⟩
  have X3 := HX2.out.below hb3 hs2
  have b3 : Below w.heap.size w w3 := HB2.out.trans (hb3.mono (by omega))
  have h3 := h2.below (hb3.mono (by omega))
  have y0 := X3.at 0 rfl
  have y1 := X3.at 1 rfl
  have y2 := X3.at 2 rfl
  have yf := X3.cold
  have z := X3.lt
  clear hb3 h2 HB2 HX2 HK1
  rcases found_key hf with ⟨rfl, hg⟩ | ⟨k, x, rfl, hx, hg⟩
  · have HG := Lib.hid hg
    clear hg hf
    go_wp2
    refine bodyPost_ret (v := getV none) (by simp [results, Try.results34, go_sem, y0, y1, y2, z, getV]; try rfl) rfl ⟨by rw [HG.out], ?_⟩
    repeat (first | (with_reducible exact b3) | (with_reducible refine below_set ?_ (by omega) _))
  · have hkn : k < n := by have := (List.getElem?_eq_some_iff.1 hx).1; have := HL.out; omega
    obtain ⟨b, o, x', e1, hb, hx', c0, c1, c2⟩ := h3.atE hkn
    obtain rfl : x' = x := by rw [hx] at hx'; simpa using hx'.symm
    subst e1
    have HG := Lib.hid hg
    clear hg hf hx hx'
    have hk0 : (0 : Int) ≤ (k : Int) := by omega
    go_wp2
    refine bodyPost_ret (v := getV (some x')) (by simp [results, Try.results34, go_sem, y0, y1, y2, z, getV]; try rfl) rfl ⟨by rw [HG.out], ?_⟩
    repeat (first | (with_reducible exact b3) | (with_reducible refine below_set ?_ (by omega) _))
end Go.Proofs.Ytfgpncbcelafoaa
