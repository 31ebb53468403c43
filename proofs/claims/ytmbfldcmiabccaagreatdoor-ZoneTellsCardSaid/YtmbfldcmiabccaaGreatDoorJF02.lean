/- ECode2 ECode3 ECode4 ECode5 ECode6 ECode7 (merged). -/
import Derived.Shelf.Abstract
import Derived.Lib.LazyBuf
import Derived.Test.YtmbfldcmiabccaaGreatDoorJF01
namespace Go.Proofs.YtmbfldcmiabccaaGreatDoor
set_option linter.unusedVariables false
set_option linter.unusedSimpArgs false
open Go.RowKit

end Go.Proofs.YtmbfldcmiabccaaGreatDoor

namespace Go.Proofs.YtmbfldcmiabccaaGreatDoor
set_option linter.unusedVariables false
set_option linter.unusedSimpArgs false
open Go.RowKit

/-- a predicate that captures one variable, in whatever later world -/
def Meant (base g : Nat) (bp : Value) (p : Ent → Bool) (w : World) : Prop :=
  ∀ (x : Ent) (W : World), Below base w W → Calls Tryz.prog g #[ev x, bp] W fun e w' => e = .returned (.bool (p x)) ∧ Below W.heap.size W w'
theorem egKey : ∀ args w, (callFunc 86 args).run Tryz.prog w = .ok (.enter 86 args) w := enters_of Tryz.func86 (by kernel_rfl) rfl
theorem meant_key {base b : Nat} {key : Int} {w : World} (hb : b < base) (hw : base ≤ w.heap.size) (hc : w.cell? ⟨b, 0, none⟩ = some (.int .i64 key)) : Meant base 86 (.pointer (some ⟨b, 0, none⟩)) (fun y => y.key == key) w := fun x W hbel => by
  have h1 := (hbel.cell (p := ⟨b, 0, none⟩) hb).trans hc
  have h2 := (World.cell?_alloc_lt W (.cells #[.int .i64 x.key, .int .i64 x.ver, .string (strB x.val)] 48) ⟨b, 0, none⟩ (by have := hbel.size; show b < _; omega)).trans h1
  clear h1 hc
  simp only [ev]
  go_enter Tryz.func86, Tryz.ntmps86
  go_wp2
  go_ret
  exact ⟨rfl, (Below.refl _ _).alloc (Nat.le_refl _) _⟩
/-- where the first one is of which p holds -/
def Found (p : Ent → Bool) (l : List Ent) (i : Int) : Prop :=
  (i = -1 ∧ ∀ y ∈ l, p y = false) ∨ ∃ (k : Nat) (x : Ent), i = k ∧ l[k]? = some x ∧ p x = true ∧ ∀ y ∈ l.take k, p y = false

theorem idx_any (l : List Ent) (p : Ent → Bool) (g : Nat) (bp : Value) (eg : ∀ args w, (callFunc g args).run Tryz.prog w = .ok (.enter g args) w) (A : Option Addr) (n c B : Nat) (w : World) (h : Rd w B 3 A n (EC l)) (hB : B ≤ w.heap.size) (hn : n * 32 ≤ 140737488351232) (hp : Meant w.heap.size g bp p w) :
    Calls Tryz.prog 85 #[.slice A n c, .func (.func g) #[] #[bp]] w fun e w' => (∃ i, e = .returned (.int .i64 i) ∧ Found p l i) ∧ Below w.heap.size w w' := by
  have hl := h.lenE
  have HL := Lib.hid hl
  have HP := Lib.hid hp
  clear hl hp
  go_enter Tryz.func85, Tryz.ntmps85
  go_wp2
  go_loopw [8] (fun i wr => ∃ k : Nat, k ≤ n ∧ i = .int .i64 k ∧ (∀ y ∈ l.take k, p y = false) ∧ Below w.heap.size w wr) (fun i _ => n - (intOf i).toNat)
  case atStart => exact ⟨0, by omega, rfl, by simp, Below.refl _ _⟩
  case round =>
    obtain ⟨k, hk, rfl, hno, hbel⟩ := hrel
    have HN := Lib.hid hno
    have hbs := hbel.size
    clear hno
    by_cases hlt : k < n
    · obtain ⟨b, o, x, e1, hb, hx, c0, c1, c2⟩ := (h.below (hbel.mono hB)).atE hlt
      subst e1
      have HX := Lib.hid hx
      clear hx
      go_wp2_with fail
      refine (HP.out x _ hbel).mono ?_
      rintro e w2 ⟨rfl, hb2⟩
      have HB2 := Lib.hid hb2
      clear hb2
      rcases hpx : p x
      · have HPX := Lib.hid hpx
        clear hpx
        go_wp2
        go_roundw
        case rel =>
          refine ⟨k + 1, by omega, by go_num, fun y hy => ?_, hbel.trans (HB2.out.mono hbs)⟩
          rw [take_more HX.out] at hy
          rcases List.mem_append.1 hy with hy | hy
          · exact HN.out y hy
          · obtain rfl : y = x := by simpa using hy
            exact HPX.out
        case measure => simp [intOf]; omega
      · have HPX := Lib.hid hpx
        clear hpx
        go_wp2
        go_ret
        exact ⟨⟨_, rfl, Or.inr ⟨k, x, rfl, HX.out, HPX.out, HN.out⟩⟩, hbel.trans (HB2.out.mono hbs)⟩
    · go_wp2
      go_ret
      exact ⟨⟨_, rfl, Or.inl ⟨rfl, by have := HN.out; rwa [List.take_of_length_le (by have := HL.out; omega)] at this⟩⟩, hbel⟩
end Go.Proofs.YtmbfldcmiabccaaGreatDoor

namespace Go.Proofs.YtmbfldcmiabccaaGreatDoor
set_option linter.unusedVariables false
set_option linter.unusedSimpArgs false
open Go.RowKit

theorem found_key {l : List Ent} {key i : Int} (h : Found (fun y => y.key == key) l i) : (i = -1 ∧ E.get l key = none) ∨ ∃ (k : Nat) (x : Ent), i = k ∧ l[k]? = some x ∧ E.get l key = some x := by
  rcases h with ⟨rfl, h⟩ | ⟨k, x, rfl, hx, he, hno⟩
  · exact Or.inl ⟨rfl, E.get_rising_none fun y hy => by simpa using h y hy⟩
  · exact Or.inr ⟨k, x, rfl, hx, E.get_at hx (by simpa using he) fun y hy => by simpa using hno y hy⟩

set_option maxHeartbeats 1000000 in
theorem get_any (l : List Ent) (key : Int) (A : Option Addr) (n c B : Nat) (w : World) (h : Rd w B 3 A n (EC l)) (hB : B ≤ w.heap.size) (hn : n * 32 ≤ 140737488351232) :
    Calls Tryz.prog 69 #[.slice A n c, .int .i64 key] w fun e w' => e = .returned (getV (E.get l key)) ∧ Below w.heap.size w w' := by
  have hl := h.lenE
  have HL := Lib.hid hl
  clear hl
  have b1 : Below w.heap.size w (w.alloc (.cells #[.int .i64 key] 3)) := (Below.refl _ _).alloc (Nat.le_refl _) _
  have x1 := Box.new w #[.int .i64 key] 3
  have hs1 : w.heap.size < (w.alloc (.cells #[.int .i64 key] 3)).heap.size := by simp
  have hse : (w.alloc (.cells #[.int .i64 key] 3)).heap.size = w.heap.size + 1 := by simp
  have b2 := b1.alloc b1.size (.cells #[.int .i64 0, .int .i64 0, .string ⟨#[]⟩] 48)
  have x2 := Box.new (w.alloc (.cells #[.int .i64 key] 3)) #[.int .i64 0, .int .i64 0, .string ⟨#[]⟩] 48
  rw [hse] at x2
  have hs2 : w.heap.size + 1 < ((w.alloc (.cells #[.int .i64 key] 3)).alloc (.cells #[.int .i64 0, .int .i64 0, .string ⟨#[]⟩] 48)).heap.size := by simp
  have k1 := (x1.alloc (.cells #[.int .i64 0, .int .i64 0, .string ⟨#[]⟩] 48)).at 0 rfl
  have h2 := (h.alloc hB (.cells #[.int .i64 key] 3)).alloc (by omega) (.cells #[.int .i64 0, .int .i64 0, .string ⟨#[]⟩] 48)
  have HB2 := Lib.hid b2
  have HX2 := Lib.hid x2
  have HK1 := Lib.hid k1
  clear b1 x1 hs1 hse b2 x2 k1 h
  go_enter Tryz.func69, Tryz.ntmps69
  go_wp2_with fail
  generalize (w.alloc (.cells #[.int .i64 key] 3)).alloc (.cells #[.int .i64 0, .int .i64 0, .string ⟨#[]⟩] 48) = w2 at *
  refine (idx_any l _ _ _ egKey A n c B w2 h2 (by omega) hn (meant_key (b := w.heap.size) (by omega) (Nat.le_refl _) HK1.out)).mono ?_
  rintro e w3 ⟨⟨i, rfl, hf⟩, hb3⟩
  have X3 := HX2.out.below hb3 hs2
  have b3 : Below w.heap.size w w3 := HB2.out.trans (hb3.mono (by omega))
  have h3 := h2.below (hb3.mono (by omega))
  have y0 := X3.at 0 rfl
  have y1 := X3.at 1 rfl
  have y2 := X3.at 2 rfl
  have yf := X3.cold
  have z := X3.lt
  clear hb3 h2 HB2 HX2 HK1
  rcases found_key hf with ⟨rfl, hg⟩ | ⟨k, x, rfl, hx, hg⟩
  · have HG := Lib.hid hg
    clear hg hf
    go_wp2
    refine bodyPost_ret (v := getV none) (by simp [results, Tryz.results69, go_sem, y0, y1, y2, z, getV]; try rfl) rfl ⟨by rw [HG.out], ?_⟩
    repeat (first | (with_reducible exact b3) | (with_reducible refine below_set ?_ (by omega) _))
  · have hkn : k < n := by have := (List.getElem?_eq_some_iff.1 hx).1; have := HL.out; omega
    obtain ⟨b, o, x', e1, hb, hx', c0, c1, c2⟩ := h3.atE hkn
    obtain rfl : x' = x := by rw [hx] at hx'; simpa using hx'.symm
    subst e1
    have HG := Lib.hid hg
    clear hg hf hx hx'
    have hk0 : (0 : Int) ≤ (k : Int) := by omega
    go_wp2
    refine bodyPost_ret (v := getV (some x')) (by simp [results, Tryz.results69, go_sem, y0, y1, y2, z, getV]; try rfl) rfl ⟨by rw [HG.out], ?_⟩
    repeat (first | (with_reducible exact b3) | (with_reducible refine below_set ?_ (by omega) _))
end Go.Proofs.YtmbfldcmiabccaaGreatDoor

namespace Go.Proofs.YtmbfldcmiabccaaGreatDoor
set_option linter.unusedVariables false
set_option linter.unusedSimpArgs false
open Go.RowKit

end Go.Proofs.YtmbfldcmiabccaaGreatDoor

namespace Go.Proofs.YtmbfldcmiabccaaGreatDoor
set_option linter.unusedVariables false
set_option linter.unusedSimpArgs false
open Go.RowKit

end Go.Proofs.YtmbfldcmiabccaaGreatDoor

namespace Go.Proofs.YtmbfldcmiabccaaGreatDoor
set_option linter.unusedVariables false
set_option linter.unusedSimpArgs false
open Go.RowKit

end Go.Proofs.YtmbfldcmiabccaaGreatDoor

