/- The code's add, Above, Clone, Equal, Same. -/
import Derived.Test.YtpfkgddcoancnaaECode4
namespace Go.Proofs.Ytpfkgddcoancnaa
set_option linter.unusedVariables false
set_option linter.unusedSimpArgs false
open Go.RowKit

/-- a table that was made behind what lay there already -/
def MadeB (base : Nat) (W : World) (l : List Ent) (e : Ending) (w' : World) : Prop :=
  ∃ A' n' c', e = .returned (.slice A' n' c') ∧ n' = l.length ∧ w'.ownsRow base 59 3 (.slice A' n' c') n' (EC l) ∧ Below base W w'
theorem filter_more {p : Ent → Bool} {l : List Ent} {k : Nat} {x : Ent} (h : l[k]? = some x) : (l.take (k + 1)).filter p = (l.take k).filter p ++ if p x then [x] else [] := by
  rw [take_more h, List.filter_append]
  cases hp : p x <;> simp [hp]

set_option maxHeartbeats 1000000 in
theorem add_any (base : Nat) (O l : List Ent) (p : Ent → Bool) (g : Nat) (bp : Value) (eg : ∀ args w, (callFunc g args).run Try.prog w = .ok (.enter g args) w) (A0 A : Option Addr) (m0 c0 n c B : Nat) (w : World) (h : Rd w B 3 A n (EC l)) (hB : B ≤ base) (hbase : base ≤ w.heap.size)
    (hown : w.ownsRow base 59 3 (.slice A0 m0 c0) m0 (EC O)) (hn : n ≤ 1000000) (hm0 : m0 ≤ 1000000) (hp : Meant base g bp p w) :
    Calls Try.prog 68 #[.slice A0 m0 c0, .slice A n c, .func (.func g) #[] #[bp]] w (MadeB base w (O ++ l.filter p)) := by
  have hl := h.lenE
  have HL := Lib.hid hl
  have HP := Lib.hid hp
  have hO := (Rd.of_own hown).lenE
  have HO := Lib.hid hO
  clear hl hp hO
  go_enter Try.func68, Try.ntmps68
  go_wp2
  go_loopw [0, 11] (fun s i wr => ∃ (k m : Nat) (A1 : Option Addr) (c1 : Nat), k ≤ n ∧ i = .int .i64 k ∧ s = .slice A1 m c1 ∧ m ≤ m0 + k ∧ m = (O ++ (l.take k).filter p).length ∧
      wr.ownsRow base 59 3 (.slice A1 m c1) m (EC (O ++ (l.take k).filter p)) ∧ Below base w wr) (fun _ i _ => n - (intOf i).toNat)
  case atStart => exact ⟨0, m0, A0, c0, by omega, rfl, rfl, by omega, by simp [HO.out], by simpa using hown, Below.refl _ _⟩
  case round =>
    obtain ⟨k, m, A1, c1, hk, rfl, rfl, hmk, hm, hown, hbel⟩ := hrel
    have HM := Lib.hid hm
    have hbs : base ≤ wr.heap.size := Nat.le_trans hbase hbel.size
    clear hm
    by_cases hlt : k < n
    · obtain ⟨b, o, x, e1, hb, hx, d0, d1, d2⟩ := (h.below (hbel.mono hB)).atE hlt
      subst e1
      have hf := filter_more (p := p) hx
      have HF := Lib.hid hf
      have hbel3 := hbel.alloc hbs (.cells #[.int .i64 x.key, .int .i64 x.ver, .string (strB x.val)] 59)
      have hown3 := hown.alloc (.cells #[.int .i64 x.key, .int .i64 x.ver, .string (strB x.val)] 59)
      have X3 := Box.new wr #[.int .i64 x.key, .int .i64 x.ver, .string (strB x.val)] 59
      have hs3 : wr.heap.size < (wr.alloc (.cells #[.int .i64 x.key, .int .i64 x.ver, .string (strB x.val)] 59)).heap.size := by simp
      clear hx hf hown
      go_wp2_with fail
      generalize wr.alloc (.cells #[.int .i64 x.key, .int .i64 x.ver, .string (strB x.val)] 59) = w3 at *
      refine (HP.out x _ hbel3).mono ?_
      rintro e w4 ⟨rfl, hb4⟩
      have hbel4 := hbel3.trans (hb4.mono (by omega))
      have hown4 := own_below hown3 hb4
      have X4 := X3.below hb4 hs3
      have y0 := X4.at 0 rfl
      have y1 := X4.at 1 rfl
      have y2 := X4.at 2 rfl
      have hbs4 : base ≤ w4.heap.size := Nat.le_trans hbase hbel4.size
      clear hb4 hown3 X3 hbel3
      rcases hpx : p x
      · have HPX := Lib.hid hpx
        clear hpx
        go_wp2
        go_roundw
        case rel => exact ⟨k + 1, m, A1, c1, by omega, by go_num, rfl, by omega, by rw [HF.out, HPX.out]; simpa using HM.out, by rw [HF.out, HPX.out]; simpa using hown4, hbel4⟩
        case measure => simp [intOf]; omega
      · have HPX := Lib.hid hpx
        clear hpx
        go_wp2_with (refine push_law rfl (.tmp 18) (.tmp 20) rfl base rfl rfl hown4 (by omega) hbs4 ?_; rintro A2 c2 w5 hown5 hb5)
        go_roundw
        case rel =>
          refine ⟨k + 1, m + 1, A2, c2, by omega, by go_num, rfl, by omega, ?_, ?_, hbel4.trans hb5⟩
          · rw [HF.out, HPX.out]; have := HM.out; simp only [List.length_append] at this ⊢; simp; omega
          · rw [HF.out, HPX.out, if_pos rfl, ← List.append_assoc]; exact hown5
        case measure => simp [intOf]; omega
    · have he : l.take k = l := List.take_of_length_le (by have := HL.out; omega)
      have HE := Lib.hid he
      clear he
      go_wp2
      go_ret
      have hm := HM.out
      rw [HE.out] at hm hown
      exact ⟨A1, m, c1, rfl, hm, hown, hbel⟩

end Go.Proofs.Ytpfkgddcoancnaa
