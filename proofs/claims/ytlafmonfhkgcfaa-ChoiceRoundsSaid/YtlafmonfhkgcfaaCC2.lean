/- Package choice: a list without a number. -/
import Derived.Test.YtlafmonfhkgcfaaCC1
import Derived.Lib.SliceRun
import Derived.Laws.Slices
namespace Go.Proofs.Ytlafmonfhkgcfaa
set_option linter.unusedVariables false
set_option linter.unusedSimpArgs false
open Go.RowKit
/-- values laid from a place on -/
def laidC : List Value → Nat → List Value → List Value
  | xs, _, [] => xs
  | xs, o, v :: vs => laidC (xs.set o v) (o + 1) vs
theorem laidC_take : ∀ (vs xs : List Value) (o m : Nat), m ≤ o → (laidC xs o vs).take m = xs.take m
  | [], _, _, _, _ => rfl
  | v :: vs, xs, o, m, h => by
    unfold laidC
    rw [laidC_take vs _ (o + 1) m (by omega), List.take_set, List.set_eq_of_length_le (by rw [List.length_take]; omega)]
theorem own_laidC {base size n cap g : Nat} {e : TypeId} : ∀ (vs xs : List Value) (o : Nat) (w : World), w.ownsRow base e size (.slice (some ⟨g, 0, none⟩) n cap) n xs → (w.setCells g o vs).ownsRow base e size (.slice (some ⟨g, 0, none⟩) n cap) n (laidC xs o vs)
  | [], _, _, _, h => h
  | v :: vs, xs, o, w, h => own_laidC vs _ (o + 1) _ (h.stored o v).1
theorem own_whereC {base size n c : Nat} {e : TypeId} {w : World} {A : Option Addr} {xs : List Value} (h : w.ownsRow base e size (.slice A n c) n xs) (hn : 0 < n) : ∃ g, A = some ⟨g, 0, none⟩ ∧ base ≤ g ∧ g < w.heap.size := by
  rcases h.2 with ⟨h', h0, _⟩ | ⟨g, cap, cur, hv, hb, hg, _⟩
  · omega
  · simp only [Value.slice.injEq] at hv
    refine ⟨g, hv.1, hb, ?_⟩
    have := (Array.getElem?_eq_some_iff.1 hg).1
    exact this
theorem below_cellsC {B g : Nat} {a : World} : ∀ (vs : List Value) (o : Nat) (w : World), Below B a w → B ≤ g → Below B a (w.setCells g o vs)
  | [], _, _, h, _ => h
  | v :: vs, o, w, h, hb => below_cellsC vs (o + 1) _ (below_set h hb v) hb
/-- a predicate that captures one variable, in whatever later world -/
def MeantC (base g : Nat) (bp : Value) (p : Int → Bool) (w : World) : Prop :=
  ∀ (x : Int) (W : World), Below base w W → Calls Try.prog g #[.int .i64 x, bp] W fun e w' => e = .returned (.bool (p x)) ∧ W = w'
theorem egWithout : ∀ args w, (callFunc 25 args).run Try.prog w = .ok (.enter 25 args) w := enters_of Try.func25 (by kernel_rfl) rfl
theorem meant_is {base b : Nat} {k : Int} {w : World} (hb : b < base) (hw : base ≤ w.heap.size) (hc : w.cell? ⟨b, 0, none⟩ = some (.int .i64 k)) : MeantC base 25 (.pointer (some ⟨b, 0, none⟩)) (fun y => y == k) w := fun x W hbel => by
  have h1 := (hbel.cell (p := ⟨b, 0, none⟩) hb).trans hc
  clear hc
  go_enter Try.func25, Try.ntmps25
  go_wp2
  go_ret
  exact ⟨rfl, rfl⟩
/-- where the first one is of which p holds -/
def FoundC (p : Int → Bool) (l : List Int) (i : Int) : Prop :=
  (i = -1 ∧ ∀ y ∈ l, p y = false) ∨ ∃ (k : Nat) (x : Int), i = k ∧ l[k]? = some x ∧ p x = true ∧ ∀ y ∈ l.take k, p y = false
theorem cfind_any (l : List Int) (p : Int → Bool) (base fn : Nat) (bp : Value) (eg : ∀ args w, (callFunc fn args).run Try.prog w = .ok (.enter fn args) w) (A : Option Addr) (n c B : Nat) (w : World) (h : Rd w B 1 A n (I l)) (hn : n ≤ 1000000) (hp : MeantC base fn bp p w) :
    Calls Try.prog 30 #[.slice A n c, .func (.func fn) #[] #[bp]] w fun e w' => (∃ i : Int, e = .returned (.int .i64 i) ∧ FoundC p l i) ∧ w = w' := by
  have HL := Lib.hid (ilen h)
  have HP := Lib.hid hp
  clear hp
  go_enter Try.func30, Try.ntmps30
  go_wp2
  go_loop [8] (fun i => ∃ k : Nat, k ≤ n ∧ i = .int .i64 k ∧ (∀ y ∈ l.take k, p y = false)) (fun i => n - (intOf i).toNat)
  case atStart => exact ⟨0, by omega, rfl, by simp⟩
  case round =>
    obtain ⟨k, hk, rfl, hno⟩ := hrel
    have HN := Lib.hid hno
    clear hno
    by_cases hlt : k < n
    · obtain ⟨b, o, x, e1, hb, hx, c0⟩ := h.atI hlt
      subst e1
      have HX := Lib.hid hx
      clear hx
      go_wp2_with fail
      refine (HP.out x _ (Below.refl _ _)).mono ?_
      rintro e w2 ⟨rfl, rfl⟩
      rcases hpx : p x
      · have HPX := Lib.hid hpx
        clear hpx
        go_wp2
        go_round
        case rel =>
          refine ⟨k + 1, by omega, by go_num, fun y hy => ?_⟩
          rw [take_more HX.out] at hy
          rcases List.mem_append.1 hy with hy | hy
          · exact HN.out y hy
          · obtain rfl : y = x := by simpa using hy
            exact HPX.out
        case measure => simp [intOf]; omega
      · have HPX := Lib.hid hpx
        clear hpx
        go_wp2
        go_ret
        exact ⟨⟨_, rfl, .inr ⟨k, x, rfl, HX.out, HPX.out, HN.out⟩⟩, rfl⟩
    · have hall : ∀ y ∈ l, p y = false := by
        have := HN.out
        rwa [List.take_of_length_le (by have := HL.out; omega)] at this
      have HA := Lib.hid hall
      clear hall
      go_wp2
      go_ret
      exact ⟨⟨_, rfl, .inl ⟨rfl, HA.out⟩⟩, rfl⟩
/-- between two rounds: what stays stands ahead, what isn't looked at yet is as it was -/
structure Went (p : Int → Bool) (l : List Int) (xs : List Int) (m k : Nat) : Prop where
  lt : m < k
  len : xs.length = l.length
  ahead : xs.take m = (l.take k).filter fun y => !p y
  rest : xs.drop k = l.drop k
theorem Went.skip {p : Int → Bool} {l xs : List Int} {m k : Nat} {y : Int} (h : Went p l xs m k) (hy : l[k]? = some y) (hp : p y = true) : Went p l xs m (k + 1) := by
  refine ⟨by have := h.lt; omega, h.len, ?_, ?_⟩
  · rw [take_more hy, List.filter_append, h.ahead]; simp [hp]
  · rw [← List.drop_drop, ← List.drop_drop, h.rest]
theorem Went.keep {p : Int → Bool} {l xs : List Int} {m k : Nat} {y : Int} (h : Went p l xs m k) (hy : l[k]? = some y) (hp : p y = false) : Went p l (xs.set m y) (m + 1) (k + 1) := by
  have hk := (List.getElem?_eq_some_iff.1 hy).1
  have hm : m < xs.length := by have := h.lt; have := h.len; omega
  refine ⟨by have := h.lt; omega, by rw [List.length_set, h.len], ?_, ?_⟩
  · rw [take_more hy, List.filter_append, ← h.ahead, take_more (x := y) (by simp [hm]), List.take_set, List.set_eq_of_length_le (by rw [List.length_take]; omega)]
    simp [hp]
  · rw [List.drop_set_of_lt (by have := h.lt; omega), ← List.drop_drop, ← List.drop_drop, h.rest]
theorem Went.at {p : Int → Bool} {l xs : List Int} {m k : Nat} (h : Went p l xs m k) : xs[k]? = l[k]? := by
  have h1 : (xs.drop k)[0]? = (l.drop k)[0]? := by rw [h.rest]
  simpa using h1
theorem I_set (l : List Int) (m : Nat) (y : Int) : (I l).set m (.int .i64 y) = I (l.set m y) := by simp [I, List.map_set]
theorem I_take (l : List Int) (m : Nat) : (I l).take m = I (l.take m) := by simp [I, List.map_take]
set_option maxHeartbeats 2000000 in
theorem cdelete_any (l : List Int) (p : Int → Bool) (base fn : Nat) (bp : Value) (eg : ∀ args w, (callFunc fn args).run Try.prog w = .ok (.enter fn args) w) (A : Option Addr) (n c : Nat) (w : World) (h : w.ownsRow base 3 1 (.slice A n c) n (I l)) (hb : base ≤ w.heap.size) (hn : n ≤ 1000) (hp : MeantC base fn bp p w) :
    Calls Try.prog 23 #[.slice A n c, .func (.func fn) #[] #[bp]] w fun e w' => (∃ (A' : Option Addr) (n' c' : Nat), e = .returned (.slice A' n' c') ∧ Rd w' w'.heap.size 1 A' n' (I (l.filter fun y => !p y)) ∧ n' ≤ c' ∧ c' ≤ 9223372036854775807) ∧ Below base w w' := by
  have HP := Lib.hid hp
  have hr : Rd w w.heap.size 1 A n (I l) := Rd.of_own h
  have HL := Lib.hid (ilen hr)
  have HC := Lib.hid (own_cap h)
  go_enter Try.func23, Try.ntmps23
  go_wp2_with fail
  refine (cfind_any l p base fn bp eg A n c _ w hr (by omega) hp).mono ?_
  clear hp
  rintro e w2 ⟨⟨i, rfl, hf⟩, rfl⟩
  rcases hf with ⟨rfl, hall⟩ | ⟨m0, x, rfl, hx, hpx, hno⟩
  · have e : Hid (l.filter (fun y => !p y) = l) := Lib.hid (List.filter_eq_self.2 fun y hy => by rw [hall y hy]; rfl)
    clear hall
    go_wp2
    go_ret
    exact ⟨⟨A, n, c, rfl, by rw [e.out]; exact hr, HC.out⟩, Below.refl _ _⟩
  · have hm0 : m0 < n := by have := (List.getElem?_eq_some_iff.1 hx).1; have := HL.out; omega
    obtain ⟨g, rfl, hg, hgs⟩ := own_whereC h (by omega)
    have W0 : Hid (Went p l l m0 (m0 + 1)) := Lib.hid ⟨by omega, rfl, by
      rw [take_more hx, List.filter_append, List.filter_eq_self.2 fun y hy => by rw [hno y hy]; rfl]
      simp [hpx], rfl⟩
    clear hx hpx hno hr
    have t0 : ((m0 : Int) == -1) = false := by rw [beq_eq_false_iff_ne]; omega
    have V : Hid (wrap64 ((m0 : Int) + 1) = (m0 : Int) + 1) := Lib.hid (by unfold wrap64; omega)
    obtain ⟨k0, hk0⟩ : ∃ k0, k0 = m0 + 1 := ⟨_, rfl⟩
    have v := V.out
    rw [show (m0 : Int) + 1 = (k0 : Int) by omega] at v
    have v2 : wrap64 ((m0 : Int) + 1) = (k0 : Int) := by rw [show (m0 : Int) + 1 = (k0 : Int) by omega]; exact v
    have K0 := Lib.hid hk0
    clear v V hk0
    go_wp2
    go_loopw [5, 6] (fun a b wr => ∃ (m k : Nat) (xs : List Int), k ≤ n ∧ a = .int .i64 (m : Int) ∧ b = .int .i64 (k : Int) ∧ Went p l xs m k ∧ wr.ownsRow base 3 1 (.slice (some ⟨g, 0, none⟩) n c) n (I xs) ∧ Below base w wr) (fun _ b _ => n - (intOf b).toNat)
    case atStart => exact ⟨m0, k0, l, by have := K0.out; omega, rfl, by congr 1; have := K0.out; omega, by rw [K0.out]; exact W0.out, h, Below.refl _ _⟩
    case round =>
      obtain ⟨m, k, xs, hk, rfl, rfl, hwent, hown, hbel⟩ := hrel
      have hmk := hwent.lt
      have WE := Lib.hid hwent
      clear hwent
      by_cases hlt : k < n
      · obtain ⟨y, hy⟩ : ∃ y, l[k]? = some y := ⟨_, List.getElem?_eq_getElem (by have := HL.out; omega)⟩
        have c0 : wr.cell? ⟨g, k, none⟩ = some (.int .i64 y) := by
          have := hown.cellAt k (by omega)
          rw [this]
          simp [I, WE.out.at, hy]
        have HY := Lib.hid hy
        clear hy
        have hk0 : (0 : Int) ≤ (k : Int) := by omega
        go_wp2_with fail
        refine (HP.out y _ hbel).mono ?_
        rintro e w3 ⟨rfl, rfl⟩
        rcases hpy : p y
        · have WK := Lib.hid (WE.out.keep HY.out hpy)
          clear hpy
          have c1 : (wr.cell? ⟨g, m, none⟩).isSome = true := by
            rw [hown.cellAt m (by omega)]
            have := WE.out.len
            have := HL.out
            simp [I]; omega
          obtain ⟨u, hu⟩ := Option.isSome_iff_exists.1 c1
          have fz : wr.frozen? ⟨g, m, none⟩ = false := hown.frozenAt m
          have hm0' : (0 : Int) ≤ (m : Int) := by omega
          have hmn : (m : Int) < (n : Int) := by omega
          clear c1
          go_wp2
          go_roundw
          case rel => exact ⟨m + 1, k + 1, xs.set m y, by omega, by go_num, by go_num, WK.out, by rw [← I_set]; exact (hown.stored m _).1, below_set hbel hg _⟩
          case measure => simp [intOf]; omega
        · have WK := Lib.hid (WE.out.skip HY.out hpy)
          clear hpy
          go_wp2
          go_roundw
          case rel => exact ⟨m, k + 1, xs, by omega, rfl, by go_num, WK.out, hown, hbel⟩
          case measure => simp [intOf]; omega
      · obtain rfl : k = n := by omega
        have hcc := HC.out
        have e : Hid (xs.take m = l.filter fun y => !p y) := Lib.hid (by have := WE.out.ahead; rwa [List.take_of_length_le (l := l) (by have := HL.out; omega)] at this)
        have SL := fun W => run_cut_l i64C W (some ⟨g, 0, none⟩) k c m (m : Int) rfl (by omega)
        have ec : cutA (some ⟨g, 0, none⟩) c m 1 = some ⟨g, m, none⟩ := by unfold cutA; rw [if_neg (by omega)]; simp [Addr.add]; try omega
        rw [ec] at SL
        have SH := fun W => run_cut_h i64C W (some ⟨g, 0, none⟩) k c m (m : Int) rfl (by omega)
        have CL := fun ty => Lib.run_clear_slice (P := Try.prog) wr 22 3 ty (.int .i64 0) Try.underlying22 (fun _ => by kernel_rfl) rfl rfl g m (k - m) (c - m) (by omega)
          (fun j hj => by rw [hown.cellAt (m + j) (by omega)]; have := WE.out.len; have := HL.out; simp [I]; omega) (fun j hj => hown.frozenAt (m + j))
        go_wp2
        go_ret
        have ho := own_laidC (List.replicate (k - m) (.int .i64 0)) (I xs) m wr hown
        refine ⟨⟨_, m, c, rfl, ?_, by omega, hcc.2⟩, below_cellsC _ _ _ hbel hg⟩
        have := (Rd.of_own ho).take1 (k := m) (by omega)
        rwa [laidC_take _ _ _ _ (Nat.le_refl _), I_take, e.out] at this
theorem cwithout_any (l : List Int) (x : Int) (A : Option Addr) (n c : Nat) (w : World) (h : Rd w w.heap.size 1 A n (I l)) (hn : n ≤ 1000) :
    Calls Try.prog 14 #[.slice A n c, .int .i64 x] w (ReadI (Ch.without l x) w) := by
  have D := Box.new w #[.int .i64 x] 3
  have b := (Below.refl w.heap.size w).alloc (Nat.le_refl _) (.cells #[.int .i64 x] 3)
  replace h := h.belowH b
  have d0 := D.at 0 rfl
  have hs : (w.alloc (.cells #[.int .i64 x] 3)).heap.size = w.heap.size + 1 := by simp
  go_enter Try.func14, Try.ntmps14
  go_wp2_with fail
  generalize w.alloc (.cells #[.int .i64 x] 3) = wa at *
  refine (ciclone_any l A n c _ wa h (Nat.le_refl _) (by omega)).mono ?_
  rintro e w2 ⟨A2, n2, c2, rfl, hl2, hown, hb2⟩
  have hn2 : n2 ≤ 1000 := by have := ilen h; omega
  have HL2 := Lib.hid hl2
  have HS := Lib.hid hs
  have E : Hid (l.filter (fun y => !(y == x)) = Ch.without l x) := Lib.hid (by unfold Ch.without; congr 1; funext y; by_cases hy : y = x <;> simp [hy])
  clear hl2 hs
  have hm := meant_is (base := wa.heap.size) (b := w.heap.size) (k := x) (w := w2) (by have := HS.out; omega) hb2.size ((hb2.cell (p := ⟨w.heap.size, 0, none⟩) (by have := HS.out; show w.heap.size < _; omega)).trans d0)
  go_wp2_with fail
  refine (cdelete_any l (fun y => y == x) wa.heap.size _ _ egWithout A2 n2 c2 w2 hown hb2.size hn2 hm).mono ?_
  rintro e w3 ⟨⟨A3, n3, c3, rfl, hr3, hc3⟩, hb3⟩
  go_wp2
  go_ret
  refine ⟨⟨A3, n3, c3, rfl, by rw [← E.out]; exact hr3, hc3⟩, ?_⟩
  exact (b.trans ((hb2.trans hb3).mono b.size))
end Go.Proofs.Ytlafmonfhkgcfaa
