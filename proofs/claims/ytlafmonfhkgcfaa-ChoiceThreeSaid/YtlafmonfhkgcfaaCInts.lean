/- Slices of ints: are two the same; Clone, Equal, IndexFunc, ContainsFunc, Grow of none (for the stages from choice on). -/
import Derived.Test.YtlafmonfhkgcfaaBase
import Derived.Test.YtlafmonfhkgcfaaGen2
import Derived.Deep.QuietTactic
import Derived.BigQuiet
import Derived.Deep.AppendLies
import Derived.Deep.DeepCutAuto
import Derived.Lib.AppendZeros
import Derived.Lib.LazyBuf
import Derived.Shelf.Abstract
import Derived.LoopN
namespace Go.Proofs.Ytlafmonfhkgcfaa
set_option linter.unusedVariables false
set_option linter.unusedSimpArgs false
open Go.RowKit
theorem kdrewC {B : Nat} {w w' : World} (h : Below B w w') (q : Nat) : Below B w (w'.drewN q) := ⟨h.os, h.tape, h.output, h.size, h.block⟩
theorem i64C : SlT Try.prog 22 3 (.int .i64 0) 1 8 := ⟨Try.underlying22, by kernel_rfl, rfl, by omega⟩
set_option maxHeartbeats 1000000 in
theorem cints_any (l l' : List Int) (A A' : Option Addr) (n n' c c' B B' : Nat) (w : World) (h : Rd w B 1 A n (I l)) (h' : Rd w B' 1 A' n' (I l')) (hn : n ≤ 1000) :
    Calls Try.prog 11 #[.slice A n c, .slice A' n' c'] w fun e w' => e = .returned (.bool (decide (l = l'))) ∧ ∃ q, w' = w.drewN q := by
  have hl : l.length = n := by have := h.len1; rwa [I_length] at this
  have hl' : l'.length = n' := by have := h'.len1; rwa [I_length] at this
  have HL := Lib.hid hl
  have HL' := Lib.hid hl'
  clear hl hl'
  by_cases hnn : n = n'
  · subst hnn
    go_enter Try.func11, Try.ntmps11
    go_wp2
    go_loopw [5] (fun i wr => ∃ k q : Nat, k ≤ n ∧ i = .int .i64 k ∧ l.take k = l'.take k ∧ wr = w.drewN q) (fun i _ => n - (intOf i).toNat)
    case atStart => exact ⟨0, 0, by omega, rfl, rfl, rfl⟩
    case round =>
      obtain ⟨k, q, hk, rfl, hno, rfl⟩ := hrel
      have HN := Lib.hid hno
      clear hno
      by_cases hlt : k < n
      · obtain ⟨b, o, x, e1, hb, hx, c0⟩ := h.atI hlt
        obtain ⟨b', o', y, e2, hb', hy, d0⟩ := h'.atI hlt
        subst e1 e2
        have HX := Lib.hid hx
        have HY := Lib.hid hy
        clear hx hy
        have hk0 : (0 : Int) ≤ (k : Int) := by omega
        by_cases hxy : x = y
        · subst hxy
          go_wp2
          go_quiet (fail)
          go_wp2
          go_roundw
          case rel => exact ⟨k + 1, q + nq, by omega, by go_num, by rw [take_more HX.out, take_more HY.out, HN.out], by simp⟩
          case measure => simp [intOf]; omega
        · have hne : l ≠ l' := fun e => by
            have h1 := HX.out
            rw [e, HY.out] at h1
            injection h1 with h1
            exact hxy h1.symm
          have HNE := Lib.hid hne
          have t1 : (x != y) = true := bne_iff_ne.2 hxy
          clear hne hxy
          go_wp2
          go_quiet (fail)
          go_wp2
          go_ret
          exact ⟨ret_bool (decide_eq_false HNE.out).symm, q + nq, by simp⟩
      · have he : l = l' := by
          have h1 := HN.out
          rwa [List.take_of_length_le (by have := HL.out; omega), List.take_of_length_le (by have := HL'.out; omega)] at h1
        have HE := Lib.hid he
        clear he
        go_wp2
        go_ret
        exact ⟨ret_bool (decide_eq_true HE.out).symm, q, rfl⟩
  · have t1 : ((n : Int) != (n' : Int)) = true := by rw [bne_iff_ne]; omega
    have hne : l ≠ l' := fun e => by
      have h1 := HL.out
      rw [e, HL'.out] at h1
      exact hnn h1.symm
    have HNE := Lib.hid hne
    clear hne hnn
    go_enter Try.func11, Try.ntmps11
    go_wp2
    go_ret
    exact ⟨ret_bool (decide_eq_false HNE.out).symm, 0, rfl⟩

theorem litC (w : World) : (w.alloc (.cells #[] 3)).ownsRow w.heap.size 3 1 (.slice (some ⟨w.heap.size, 0, none⟩) 0 0) 0 [] := by
  have := World.ownsRow_lit (base := w.heap.size) (e := 3) (size := 1) w #[] 0 (Nat.le_refl _) (by decide) rfl
  simpa using this
theorem I_oneC (l : List Int) : ∀ u ∈ I l, u.oneCell' = true := by
  intro u hu
  obtain ⟨x, _, rfl⟩ := List.mem_map.1 hu
  rfl
theorem I_appC (l m : List Int) : I (l ++ m) = I l ++ I m := by simp [I]
theorem own_blockC {w : World} {base e size n c : Nat} {A : Option Addr} {xs : List Value} (h : w.ownsRow base e size (.slice A n c) n xs) {ad : Addr} (hA : A = some ad) : base ≤ ad.block := by
  rcases h.2 with ⟨e1, _⟩ | ⟨g, cap, cur, hv, hb, _⟩
  · subst hA; simp at e1
  · subst hA
    obtain ⟨rfl, rfl⟩ : ad = ⟨g, 0, none⟩ ∧ c = cap := by simpa using hv
    exact hb

/-- ints that were made -/
def MadeIC (l : List Int) (w : World) (e : Ending) (w' : World) : Prop :=
  ∃ (A : Option Addr) (n c : Nat), e = .returned (.slice A n c) ∧ l.length = n ∧ w'.ownsRow w.heap.size 3 1 (.slice A n c) n (I l) ∧ Below w.heap.size w w'

theorem ciclone_any (l : List Int) (A : Option Addr) (n c B : Nat) (w : World) (h : Rd w B 1 A n (I l)) (hB : B ≤ w.heap.size) (hn : n ≤ 1000000) :
    Calls Try.prog 24 #[.slice A n c] w (MadeIC l w) := by
  have hl : l.length = n := by have := h.len1; rwa [I_length] at this
  have HL := Lib.hid hl
  clear hl
  rcases A with _ | a
  · have hnil := Lib.run_eql_slice_nil (P := Try.prog) w 22 3 none n c 0 0 Try.underlying22
    have h0 : n = 0 ∧ l = [] := by
      rcases h.shape with ⟨h1, h2⟩ | ⟨_, b, o, e⟩
      · refine ⟨h1, List.eq_nil_of_length_eq_zero (by have := HL.out; omega)⟩
      · cases e
    obtain ⟨rfl, rfl⟩ := h0
    go_enter Try.func24, Try.ntmps24
    go_wp2
    go_ret
    exact ⟨none, 0, 0, rfl, rfl, World.ownsRow_nil _ _ _ _, Below.refl _ _⟩
  · have hnil := Lib.run_eql_slice_nil (P := Try.prog) w 22 3 (some a) n c 0 0 Try.underlying22
    go_enter Try.func24, Try.ntmps24
    go_wp2_with (at_builtin; refine app_law0 i64C rfl (.tmp 5) (.tmp 6) rfl w.heap.size rfl (litC w) rfl (h.alloc hB _) (I_oneC l) (by omega) (by omega) (by simp) ?_; rintro A1 c1 w1 ⟨hown1, hg1, _, _⟩)
    go_ret
    exact ⟨A1, n, c1, rfl, HL.out, hown1, below_app ((Below.refl _ _).alloc (Nat.le_refl _) _) (litC w) hg1 (Nat.le_refl _) (by simp)⟩

/-- a predicate on ints that captures nothing, and leaves the world as it is -/
def MeantIC (g : Nat) (p : Int → Bool) : Prop := ∀ (x : Int) (W : World), Calls Try.prog g #[.int .i64 x] W fun e w' => e = .returned (.bool (p x)) ∧ W = w'
theorem cicontains_any (l : List Int) (p : Int → Bool) (g : Nat) (eg : ∀ args w, (callFunc g args).run Try.prog w = .ok (.enter g args) w) (A : Option Addr) (n c B : Nat) (w : World) (h : Rd w B 1 A n (I l)) (hn : n ≤ 140737488355328) (hp : MeantIC g p) :
    Calls Try.prog 30 #[.slice A n c, .func (.func g) #[] #[]] w fun e w' => (∃ i : Int, e = .returned (.int .i64 i) ∧ (decide (0 ≤ i) = l.any p) ∧ -1 ≤ i) ∧ w = w' := by
  have hl : l.length = n := by have := h.len1; rwa [I_length] at this
  have HL := Lib.hid hl
  have HP := Lib.hid hp
  clear hl hp
  go_enter Try.func30, Try.ntmps30
  go_wp2
  go_loop [8] (fun i => ∃ k : Nat, k ≤ n ∧ i = .int .i64 k ∧ (∀ y ∈ l.take k, p y = false)) (fun i => n - (intOf i).toNat)
  case atStart => exact ⟨0, by omega, rfl, by simp⟩
  case round =>
    obtain ⟨k, hk, rfl, hno⟩ := hrel
    have HN := Lib.hid hno
    clear hno
    by_cases hlt : k < n
    · obtain ⟨b, o, x, e1, hb, hx, c0⟩ := h.atI hlt
      subst e1
      have HX := Lib.hid hx
      clear hx
      go_wp2_with fail
      refine (HP.out x _).mono ?_
      rintro e w2 ⟨rfl, rfl⟩
      rcases hpx : p x
      · have HPX := Lib.hid hpx
        clear hpx
        go_wp2
        go_round
        case rel =>
          refine ⟨k + 1, by omega, by go_num, fun y hy => ?_⟩
          rw [take_more HX.out] at hy
          rcases List.mem_append.1 hy with hy | hy
          · exact HN.out y hy
          · obtain rfl : y = x := by simpa using hy
            exact HPX.out
        case measure => simp [intOf]; omega
      · have HPX := Lib.hid hpx
        clear hpx
        go_wp2
        go_ret
        exact ⟨⟨_, rfl, by rw [decide_eq_true (by omega)]; exact (List.any_eq_true.2 ⟨x, List.mem_of_getElem? HX.out, HPX.out⟩).symm, by omega⟩, rfl⟩
    · have hall : l.any p = false := by
        have := HN.out
        rw [List.take_of_length_le (by have := HL.out; omega)] at this
        exact List.any_eq_false.2 fun y hy => by rw [this y hy]; simp
      have HA := Lib.hid hall
      clear hall
      go_wp2
      go_ret
      exact ⟨⟨_, rfl, by rw [HA.out]; rfl, by omega⟩, rfl⟩
end Go.Proofs.Ytlafmonfhkgcfaa
