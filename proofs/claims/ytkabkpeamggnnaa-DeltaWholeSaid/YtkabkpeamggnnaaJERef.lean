/- ERef ERef2 ERef3 ERef4 ERef5 ERef6 (merged). -/
import Derived.Test.YtkabkpeamggnnaaChecked
import Derived.RegionTactic
import Derived.BigQuiet
import Derived.Laws.Cover1
import Derived.Deep.QuietTactic
import Derived.Laws.StructEq
import Derived.Deep.RegionHeld3
import Derived.Test.YtkabkpeamggnnaaJMath
import Derived.Test.YtkabkpeamggnnaaJMem
namespace Go.Proofs.Ytkabkpeamggnnaa
set_option linter.unusedVariables false
set_option linter.unusedSimpArgs false
open Go.RowKit

theorem enT : SlT Try.prog 38 58 (.agg #[.int .i64 0, .int .i64 0, .string ⟨#[]⟩]) 3 32 := ⟨Try.underlying38, by kernel_rfl, rfl, by omega⟩
def emayB (x : Ent) : Bool := decide (E.may x)
theorem emay_no {x : Ent} (h : ¬ E.may x) : false = emayB x := (decide_eq_false h).symm
theorem emay_eq {x : Ent} {p : Prop} [Decidable p] (h : p ↔ E.may x) : decide p = emayB x := decide_eq_decide.2 h

set_option maxHeartbeats 1000000 in
theorem rmay_any (x : Ent) (w : World) :
    Calls Try.prog 73 #[ev x] w fun e w' => e = .returned (.bool (emayB x)) ∧ Below w.heap.size w w' := by
  obtain ⟨k, v, s⟩ := x
  simp only [ev]
  have hs : (strB s).size = s.length := strB_size s
  by_cases h1 : 0 ≤ k
  · by_cases h2 : k < 12
    · by_cases h3 : 1 ≤ v
      · by_cases h4 : v ≤ 1099511627776
        all_goals
          go_enter Try.func73, Try.ntmps73
          go_wp2
          go_ret
          exact ⟨ret_bool (by first | exact emay_no (by unfold E.may; dsimp only; omega) | exact emay_eq (by unfold E.may; dsimp only; omega)), (Below.refl _ _).alloc (Nat.le_refl _) _⟩
      · go_enter Try.func73, Try.ntmps73
        go_wp2
        go_ret
        exact ⟨ret_bool (emay_no (by unfold E.may; dsimp only; omega)), (Below.refl _ _).alloc (Nat.le_refl _) _⟩
    · go_enter Try.func73, Try.ntmps73
      go_wp2
      go_ret
      exact ⟨ret_bool (emay_no (by unfold E.may; dsimp only; omega)), (Below.refl _ _).alloc (Nat.le_refl _) _⟩
  · go_enter Try.func73, Try.ntmps73
    go_wp2
    go_ret
    exact ⟨ret_bool (emay_no (by unfold E.may; dsimp only; omega)), (Below.refl _ _).alloc (Nat.le_refl _) _⟩

set_option maxHeartbeats 1000000 in
theorem rabove_any (x y : Ent) (w : World) :
    Calls Try.prog 81 #[ev x, ev y] w fun e w' => e = .returned (.bool (E.above x y)) ∧ Below w.heap.size w w' := by
  obtain ⟨k, v, s⟩ := x
  obtain ⟨k', v', s'⟩ := y
  simp only [ev]
  have hb : Below w.heap.size w ((w.alloc (.cells #[.int .i64 k, .int .i64 v, .string (strB s)] 58)).alloc (.cells #[.int .i64 k', .int .i64 v', .string (strB s')] 58)) := ((Below.refl _ _).alloc (Nat.le_refl _) _).alloc (by simp) _
  by_cases h1 : v' < v
  · go_enter Try.func81, Try.ntmps81
    go_wp2
    go_ret
    exact ⟨ret_bool (by simp [E.above, h1]), hb⟩
  · by_cases h2 : v = v'
    · subst h2
      go_enter Try.func81, Try.ntmps81
      go_wp2
      go_ret
      exact ⟨ret_bool (by have h := E.gt_eq s s'; unfold E.lt at h; simp [E.above, E.lt]; rw [h, Bool.not_or]), hb⟩
    · have t2 : (v == v') = false := beq_eq_false_iff_ne.2 h2
      have H2 := Lib.hid h2
      have H1 := Lib.hid h1
      clear h2
      go_enter Try.func81, Try.ntmps81
      go_wp2
      go_ret
      exact ⟨ret_bool (by simp [E.above, H1.out, H2.out]), hb⟩

/-! ### Loops that only read -/
theorem imax (a b : Int) : max a b = if a < b then b else a := by split <;> omega

theorem rtop_any (l : List Ent) (A : Option Addr) (n c B : Nat) (w : World) (h : Rd w B 3 A n (EC l)) (hn : n ≤ 70368744177664) :
    Calls Try.prog 71 #[.slice A n c] w fun e w' => e = .returned (.int .i64 (E.top l)) ∧ w = w' := by
  have hl := h.lenE
  have HL := Lib.hid hl
  clear hl
  go_enter Try.func71, Try.ntmps71
  go_wp2
  go_loop [3, 4] (fun m i => ∃ k : Nat, k ≤ n ∧ i = .int .i64 k ∧ m = .int .i64 (E.top (l.take k))) (fun _ i => n - (intOf i).toNat)
  case atStart => exact ⟨0, by omega, rfl, rfl⟩
  case round =>
    obtain ⟨k, hk, rfl, rfl⟩ := hrel
    by_cases hlt : k < n
    · obtain ⟨b, o, x, rfl, hb, hx, c0, c1, c2⟩ := h.atE hlt
      have HX := Lib.hid hx
      clear hx
      go_wp2
      go_round
      case rel => exact ⟨k + 1, by omega, by go_num, by rw [take_more HX.out, E.top_snoc, imax]⟩
      case measure => simp [intOf]; omega
    · go_wp2
      go_ret
      exact ⟨ret_int (by rw [List.take_of_length_le (by have := HL.out; omega)]), rfl⟩

set_option maxHeartbeats 1000000 in
theorem rgreat_any (l : List Ent) (A : Option Addr) (n c B : Nat) (w : World) (h : Rd w B 3 A n (EC l)) (hn : n ≤ 70368744177664) (hv : ∀ x ∈ l, x.val.length ≤ 140737488351232) :
    Calls Try.prog 56 #[.slice A n c] w fun e w' => e = .returned (.bool (E.great l)) ∧ w = w' := by
  have hl := h.lenE
  have HL := Lib.hid hl
  have HV := Lib.hid hv
  clear hl hv
  go_enter Try.func56, Try.ntmps56
  go_wp2
  go_loop [3, 4] (fun m i => ∃ k s : Nat, k ≤ n ∧ i = .int .i64 k ∧ s = n + E.sumLen (l.take k) ∧ (k = 0 ∨ s ≤ 4000 + 140737488351232) ∧ m = .int .i64 s) (fun _ i => n - (intOf i).toNat)
  case atStart => exact ⟨0, n, by omega, rfl, by simp [E.sumLen], Or.inl rfl, rfl⟩
  case round =>
    obtain ⟨k, s, hk, rfl, hs, hb, rfl⟩ := hrel
    have hs2 : s ≤ 140737488359424 + 70368744177664 := by
      rcases hb with rfl | hb
      · simp [E.sumLen] at hs; omega
      · omega
    have HS := Lib.hid hs
    clear hs hb
    by_cases hlt : k < n
    · by_cases h4 : s ≤ 4000
      · obtain ⟨b, o, x, rfl, hb, hx, c0, c1, c2⟩ := h.atE hlt
        have hxl := HV.out x (List.mem_of_getElem? hx)
        have hsz : (strB x.val).size = x.val.length := strB_size _
        have HX := Lib.hid hx
        clear hx
        go_wp2
        go_round
        case rel => exact ⟨k + 1, s + x.val.length, by omega, by go_num, by rw [take_more HX.out, E.sumLen_snoc, HS.out]; omega, Or.inr (by omega), by go_num⟩
        case measure => simp [intOf]; omega
      · have hg : E.great l = true := decide_eq_true (by have := E.sumLen_take l k; have := HS.out; have := HL.out; omega)
        go_wp2
        go_ret
        exact ⟨ret_bool (by simp only [hg]), rfl⟩
    · have hg : E.great l = decide (4000 < s) := decide_eq_decide.2 (by have := HS.out; have := HL.out; rw [List.take_of_length_le (by omega)] at *; omega)
      go_wp2
      go_ret
      exact ⟨ret_bool (decide_eq_decide.2 (by omega)), rfl⟩
end Go.Proofs.Ytkabkpeamggnnaa

namespace Go.Proofs.Ytkabkpeamggnnaa
set_option linter.unusedVariables false
set_option linter.unusedSimpArgs false
open Go.RowKit

set_option maxHeartbeats 1000000 in
theorem raboves_any (l : List Ent) (v : Int) (A : Option Addr) (n c B : Nat) (w : World) (h : Rd w B 3 A n (EC l)) (hB : B ≤ w.heap.size) (hn : n * 32 ≤ 140737488351232) :
    Calls Try.prog 62 #[.slice A n c, .int .i64 v] w fun e w' => ∃ A' c', e = .returned (.slice A' (E.aboves l v).length c') ∧ w'.ownsRow w.heap.size 58 3 (.slice A' (E.aboves l v).length c') (E.aboves l v).length (EC (E.aboves l v)) ∧ Below w.heap.size w w' := by
  have hl := h.lenE
  have HL := Lib.hid hl
  clear hl
  go_enter Try.func62, Try.ntmps62
  go_wp2
  go_loopw [5, 6] (fun s i wr => ∃ (k m : Nat) (A' : Option Addr) (c' : Nat), k ≤ n ∧ i = .int .i64 k ∧ m = (E.aboves (l.take k) v).length ∧ m ≤ k ∧ s = .slice A' m c' ∧
      wr.ownsRow w.heap.size 58 3 (.slice A' m c') m (EC (E.aboves (l.take k) v)) ∧ Below w.heap.size w wr) (fun _ i _ => n - (intOf i).toNat)
  case atStart => exact ⟨0, 0, none, 0, by omega, rfl, rfl, by omega, rfl, World.ownsRow_nil _ _ _ _, Below.refl _ _⟩
  case round =>
    obtain ⟨k, m, A1, c1, hk, rfl, hm, hmk, rfl, hown, hbel⟩ := hrel
    have HM := Lib.hid hm
    have hbs := hbel.size
    clear hm
    by_cases hlt : k < n
    · obtain ⟨b, o, x, e, hb, hx, c0, c1', c2⟩ := (h.below (hbel.mono hB)).atE hlt
      subst e
      have HX := Lib.hid hx
      have ht := take_more hx
      have HT := Lib.hid ht
      clear hx ht
      by_cases hv : v < x.ver
      · have ha : E.aboves (l.take (k + 1)) v = E.aboves (l.take k) v ++ [x] := by rw [HT.out, E.aboves_snoc, if_pos hv]
        have HA := Lib.hid ha
        clear ha
        go_wp2_with (at_builtin; refine app_law enT rfl (.tmp 20) (.tmp 25) rfl w.heap.size rfl (hown.alloc _) rfl (Rd.lit wr _ _ 3 1 rfl) (by simp [Value.oneCell']) (by omega) (by omega) (by simp; omega) ?_; rintro A2 c2 w2 ⟨hown2, hg2, _, _⟩)
        go_roundw
        case rel =>
          refine ⟨k + 1, m + 1, A2, c2, by omega, by go_num, by rw [HA.out, List.length_append, ← HM.out]; rfl, by omega, rfl, ?_, below_app (hbel.alloc hbs _) (hown.alloc _) hg2 (Nat.le_refl _) (by simp; omega)⟩
          rw [HA.out, EC_append]
          exact hown2
        case measure => simp [intOf]; omega
      · have ha : E.aboves (l.take (k + 1)) v = E.aboves (l.take k) v := by rw [HT.out, E.aboves_snoc, if_neg hv]
        have HA := Lib.hid ha
        clear ha
        go_wp2
        go_roundw
        case rel => exact ⟨k + 1, m, A1, c1, by omega, by go_num, by rw [HA.out]; exact HM.out, by omega, rfl, by rw [HA.out]; exact hown, hbel⟩
        case measure => simp [intOf]; omega
    · have ht : l.take k = l := List.take_of_length_le (by have := HL.out; omega)
      have HT := Lib.hid ht
      clear ht
      go_wp2
      go_ret
      have hm := HM.out
      rw [HT.out] at hm hown
      subst hm
      exact ⟨A1, c1, rfl, hown, hbel⟩

/-- what Get answers -/
def getV (o : Option Ent) : Value := .tuple #[match o with | some x => ev x | none => .agg #[.int .i64 0, .int .i64 0, .string ⟨#[]⟩], .bool o.isSome]
set_option maxHeartbeats 1000000 in
theorem rget_any (l : List Ent) (key : Int) (A : Option Addr) (n c B : Nat) (w : World) (h : Rd w B 3 A n (EC l)) (hB : B ≤ w.heap.size) (hn : n * 32 ≤ 140737488351232) :
    Calls Try.prog 51 #[.slice A n c, .int .i64 key] w fun e w' => e = .returned (getV (E.get l key)) ∧ Below w.heap.size w w' := by
  have hl := h.lenE
  have HL := Lib.hid hl
  clear hl
  go_enter Try.func51, Try.ntmps51
  go_wp2_with fail
  have hr := h.alloc hB (.cells #[.int .i64 0, .int .i64 0, .string ⟨#[]⟩] 58)
  have hb0 : Below w.heap.size w (w.alloc (.cells #[.int .i64 0, .int .i64 0, .string ⟨#[]⟩] 58)) := (Below.refl _ _).alloc (Nat.le_refl _) _
  go_wp2
  go_loop [6] (fun i => ∃ k : Nat, k ≤ n ∧ i = .int .i64 k ∧ ∀ y ∈ l.take k, y.key ≠ key) (fun i => n - (intOf i).toNat)
  case atStart => exact ⟨0, by omega, rfl, by simp⟩
  case round =>
    obtain ⟨k, hk, rfl, hno⟩ := hrel
    have HN := Lib.hid hno
    clear hno
    by_cases hlt : k < n
    · obtain ⟨b, o, x, rfl, hb, hx, c0, c1', c2⟩ := hr.atE hlt
      have HX := Lib.hid hx
      clear hx
      by_cases he : x.key = key
      · have hg := E.get_at HX.out he HN.out
        have HG := Lib.hid hg
        have t1 : (x.key == key) = true := beq_iff_eq.2 he
        clear hg he
        go_wp2
        go_returns
        exact ⟨by rw [HG.out]; rfl, by first | exact below_set (below_set (below_set hb0 (Nat.le_refl _) _) (Nat.le_refl _) _) (Nat.le_refl _) _ | exact (Below.refl _ _).alloc (Nat.le_refl _) _⟩
      · have t1 : (x.key == key) = false := beq_eq_false_iff_ne.2 he
        have HE := Lib.hid he
        clear he
        go_wp2
        go_round
        case rel =>
          refine ⟨k + 1, by omega, by go_num, fun y hy => ?_⟩
          rw [take_more HX.out] at hy
          rcases List.mem_append.1 hy with hy | hy
          · exact HN.out y hy
          · obtain rfl : y = x := by simpa using hy
            exact HE.out
        case measure => simp [intOf]; omega
    · have hg : E.get l key = none := E.get_rising_none (by have := HN.out; rwa [List.take_of_length_le (by have := HL.out; omega)] at this)
      have HG := Lib.hid hg
      clear hg
      go_wp2
      go_returns
      exact ⟨by rw [HG.out]; rfl, by first | exact below_set (below_set (below_set hb0 (Nat.le_refl _) _) (Nat.le_refl _) _) (Nat.le_refl _) _ | exact (Below.refl _ _).alloc (Nat.le_refl _) _⟩
end Go.Proofs.Ytkabkpeamggnnaa

namespace Go.Proofs.Ytkabkpeamggnnaa
set_option linter.unusedVariables false
set_option linter.unusedSimpArgs false
open Go.RowKit

def eqB (x y : Ent) : Bool := decide (x = y)
theorem eq_ent (x y : Ent) (w : World) : (Op.equalIn 10000 58 (.agg #[.int .i64 x.key, .int .i64 x.ver, .string (strB x.val)]) (.agg #[.int .i64 y.key, .int .i64 y.ver, .string (strB y.val)])).run Try.prog w = .ok (eqB x y) w := by
  have h0 := Try.underlying58
  simp [go_sem, run_equalIn_agg]
  obtain ⟨k, v, s⟩ := x
  obtain ⟨k', v', s'⟩ := y
  unfold eqB
  by_cases e1 : k = k'
  · by_cases e2 : v = v'
    · by_cases e3 : s = s'
      · simp [e1, e2, e3]
      · simp [e1, e2, e3]
    · simp [e1, e2]
  · simp [e1]
theorem guard_ent : Try.prog.eqGuardType Try.prog.depth 58 = false := by kernel_rfl

set_option maxHeartbeats 1000000 in
theorem rtsame_any (l l' : List Ent) (A A' : Option Addr) (n n' c c' B B' : Nat) (w : World) (h : Rd w B 3 A n (EC l)) (h' : Rd w B' 3 A' n' (EC l')) (hn : n * 32 ≤ 140737488351232) (hn' : n' * 32 ≤ 140737488351232) :
    Calls Try.prog 61 #[.slice A n c, .slice A' n' c'] w fun e w' => e = .returned (.bool (decide (l = l'))) ∧ ∃ q, w' = w.drewN q := by
  have hl := h.lenE
  have hl' := h'.lenE
  have HL := Lib.hid hl
  have HL' := Lib.hid hl'
  clear hl hl'
  by_cases hnn : n = n'
  · subst hnn
    go_enter Try.func61, Try.ntmps61
    go_wp2
    go_loopw [5] (fun i wr => ∃ k q : Nat, k ≤ n ∧ i = .int .i64 k ∧ l.take k = l'.take k ∧ wr = w.drewN q) (fun i _ => n - (intOf i).toNat)
    case atStart => exact ⟨0, 0, by omega, rfl, rfl, rfl⟩
    case round =>
      obtain ⟨k, q, hk, rfl, hno, rfl⟩ := hrel
      have HN := Lib.hid hno
      clear hno
      by_cases hlt : k < n
      · obtain ⟨b, o, x, e1, hb, hx, c0, c1, c2⟩ := h.atE hlt
        obtain ⟨b', o', y, e2, hb', hy, d0, d1, d2⟩ := h'.atE hlt
        subst e1 e2
        have HX := Lib.hid hx
        have HY := Lib.hid hy
        clear hx hy
        have hk0 : (0 : Int) ≤ (k : Int) := by omega
        have heq := fun w => eq_ent x y w
        have hgd := guard_ent
        rcases hxy : eqB x y
        · have hne : l ≠ l' := fun e => by
            have h1 := HX.out
            rw [e, HY.out] at h1
            injection h1 with h1
            rw [h1] at hxy
            simp [eqB] at hxy
          have HNE := Lib.hid hne
          rw [hxy] at heq
          clear hne hxy
          go_wp2
          go_quiet (fail)
          go_wp2
          go_ret
          exact ⟨ret_bool (decide_eq_false HNE.out).symm, q + nq, by simp⟩
        · have hex : x = y := of_decide_eq_true hxy
          have HXY := Lib.hid hex
          rw [hxy] at heq
          clear hex hxy
          go_wp2
          go_quiet (fail)
          go_wp2
          go_roundw
          case rel => exact ⟨k + 1, q + nq, by omega, by go_num, by rw [take_more HX.out, take_more HY.out, HN.out, HXY.out], by simp⟩
          case measure => simp [intOf]; omega
      · have he : l = l' := by
          have h1 := HN.out
          rwa [List.take_of_length_le (by have := HL.out; omega), List.take_of_length_le (by have := HL'.out; omega)] at h1
        have HE := Lib.hid he
        clear he
        go_wp2
        go_ret
        exact ⟨ret_bool (decide_eq_true HE.out).symm, q, rfl⟩
  · have t1 : ((n : Int) != (n' : Int)) = true := by rw [bne_iff_ne]; omega
    have hne : l ≠ l' := fun e => by
      have h1 := HL.out
      rw [e, HL'.out] at h1
      exact hnn h1.symm
    have HNE := Lib.hid hne
    clear hne hnn
    go_enter Try.func61, Try.ntmps61
    go_wp2
    go_ret
    exact ⟨ret_bool (decide_eq_false HNE.out).symm, 0, rfl⟩

theorem right_snoc {l : List Ent} {x : Ent} : E.right (l ++ [x]) ↔ E.right l ∧ E.may x ∧ ∀ y ∈ l, y.key < x.key := by
  unfold E.right
  rw [E.rising_snoc]
  constructor
  · rintro ⟨h1, h2, h3⟩
    exact ⟨⟨fun y hy => h1 y (by simp [hy]), h2⟩, h1 x (by simp), h3⟩
  · rintro ⟨⟨h1, h2⟩, h3, h4⟩
    refine ⟨fun y hy => ?_, h2, h4⟩
    rcases List.mem_append.1 hy with hy | hy
    · exact h1 y hy
    · obtain rfl : y = x := by simpa using hy
      exact h3
theorem below_last {l : List Ent} (hr : E.rising l) {k : Nat} {y x : Ent} (hl : k + 1 = l.length) (hy : l[k]? = some y) (hx : y.key < x.key) : ∀ z ∈ l, z.key < x.key := by
  intro z hz
  obtain ⟨i, hi, rfl⟩ := List.mem_iff_getElem.1 hz
  by_cases h : i = k
  · subst h
    rw [List.getElem?_eq_getElem hi] at hy
    injection hy with hy; rw [hy]; exact hx
  · have := E.rising_at hr (show i < k by omega) (List.getElem?_eq_getElem hi) hy
    omega
end Go.Proofs.Ytkabkpeamggnnaa

namespace Go.Proofs.Ytkabkpeamggnnaa
set_option linter.unusedVariables false
set_option linter.unusedSimpArgs false
open Go.RowKit

set_option maxHeartbeats 1600000 in
set_option maxRecDepth 20000 in
theorem rright_t (l : List Ent) (A : Option Addr) (n c B : Nat) (w : World) (h : Rd w B 3 A n (EC l)) (hB : B ≤ w.heap.size) (hn : n * 32 ≤ 140737488351232) :
    Calls Try.prog 57 #[.slice A n c] w fun e w' => (∃ b, e = .returned (.bool b) ∧ (b = true ↔ E.right l)) ∧ Below w.heap.size w w' := by
  have hl := h.lenE
  have HL := Lib.hid hl
  clear hl
  go_enter Try.func57, Try.ntmps57
  go_wp2
  go_loopw [3] (fun i wr => ∃ k : Nat, k ≤ n ∧ i = .int .i64 k ∧ E.right (l.take k) ∧ Below w.heap.size w wr) (fun i _ => n - (intOf i).toNat)
  case atStart => exact ⟨0, by omega, rfl, ⟨by simp, trivial⟩, Below.refl _ _⟩
  case round =>
    obtain ⟨k, hk, rfl, hno, hbel⟩ := hrel
    have HN := Lib.hid hno
    have hbs := hbel.size
    clear hno
    by_cases hlt : k < n
    · obtain ⟨b, o, x, e1, hb, hx, c0, c1, c2⟩ := (h.below (hbel.mono hB)).atE hlt
      subst e1
      have HX := Lib.hid hx
      clear hx
      have hk0 : (0 : Int) ≤ (k : Int) := by omega
      rcases hm : emayB x
      · have hno : ¬ E.right l := fun hr => (of_decide_eq_false hm) (hr.1 x (List.mem_of_getElem? HX.out))
        have HNO := Lib.hid hno
        have cm := fun w => rmay_any x w
        rw [hm] at cm
        have CM := Lib.hid cm
        clear hno cm hm
        go_wp2
        refine wp_region_held_drew (S := (fun w' => w'.cell? ⟨b, o + k * 3, none⟩ = some (.int .i64 x.key) ∧ w'.cell? ⟨b, o + k * 3 + 1, none⟩ = some (.int .i64 x.ver) ∧ w'.cell? ⟨b, o + k * 3 + 2, none⟩ = some (.string (strB x.val)))) (by kernel_rfl) (by first | go_keep | exact ⟨d0.trans c0, d1.trans c1, d2.trans c2⟩) (fun hHeld0 => ?_)
        refine wpAnyH_take (i := 0) (oi := ⟨some 10, _, _, _, _, _⟩) (v := ?_) rfl (by kernel_rfl) (by kernel_rfl) (by kernel_rfl) (fun _ _ _ h => h) (Or.inl ⟨by rfl, ?_⟩) hHeld0 ?_
        rotate_left
        · (intro w' hSw; (try dsimp only at hSw); go_simp; all_goals (with_reducible rfl))
        try simp only [Act.put, sA, sB, sC]
        refine wpAnyH_take (i := 1) (oi := ⟨some 11, _, _, _, _, _⟩) (v := ?_) rfl (by kernel_rfl) (by kernel_rfl) (by kernel_rfl) (fun _ _ _ h => h) (Or.inl ⟨by rfl, ?_⟩) hHeld0 ?_
        rotate_left
        · (intro w' hSw; (try dsimp only at hSw); go_simp; all_goals (with_reducible rfl))
        try simp only [Act.put, sA, sB, sC]
        refine wpAnyH_take (i := 2) (oi := ⟨some 12, _, _, _, _, _⟩) (v := ?_) rfl (by kernel_rfl) (by kernel_rfl) (by kernel_rfl) (fun _ _ _ h => h) (Or.inl ⟨by rfl, ?_⟩) hHeld0 ?_
        rotate_left
        · (intro w' hSw; (try dsimp only at hSw); go_simp; all_goals (with_reducible rfl))
        try simp only [Act.put, sA, sB, sC]
        refine wpAnyH_take (i := 3) (oi := ⟨some 13, _, _, _, _, _⟩) (v := ?_) rfl (by kernel_rfl) (by kernel_rfl) (by kernel_rfl) (fun _ _ _ h => h) (Or.inl ⟨by rfl, ?_⟩) hHeld0 ?_
        rotate_left
        · (intro w' hSw; (try dsimp only at hSw); go_simp; all_goals (with_reducible rfl))
        try simp only [Act.put, sA, sB, sC]
        refine wpAnyH_ready (rs := [4]) (by kernel_rfl) (by simp) (AllReadyH.cons (o := ⟨some 14, _, _, _, _, _⟩) rfl (fun K hK => ?_) AllReadyH.nil)
        go_simp
        (refine (CM.out _).mono ?_; rintro e w2 ⟨rfl, hb2⟩; have d0 := hb2.cell (p := ⟨b, o + k * 3, none⟩) (by show b < wr.heap.size; omega); have d1 := hb2.cell (p := ⟨b, o + k * 3 + 1, none⟩) (by show b < wr.heap.size; omega); have d2 := hb2.cell (p := ⟨b, o + k * 3 + 2, none⟩) (by show b < wr.heap.size; omega))
        go_simp
        refine hK.out _ _ (by first | go_keep | exact ⟨d0.trans c0, d1.trans c1, d2.trans c2⟩) (fun hHeld1 => ?_)
        clear hK hHeld0 K
        try simp only [Act.put, sA, sB, sC]
        refine wpAnyH_take (i := 5) (oi := ⟨some 15, _, _, _, _, _⟩) (v := ?_) rfl (by kernel_rfl) (by kernel_rfl) (by kernel_rfl) (fun _ _ _ h => h) (Or.inl ⟨by rfl, ?_⟩) hHeld1 ?_
        rotate_left
        · (intro w' hSw; (try dsimp only at hSw); go_simp; all_goals (with_reducible rfl))
        try simp only [Act.put, sA, sB, sC]
        refine wpAnyH_take (i := 6) (oi := ⟨some 16, _, _, _, _, _⟩) (v := ?_) rfl (by kernel_rfl) (by kernel_rfl) (by kernel_rfl) (fun _ _ _ h => h) (Or.inl ⟨by rfl, ?_⟩) hHeld1 ?_
        rotate_left
        · (intro w' hSw; (try dsimp only at hSw); go_simp; all_goals (with_reducible rfl))
        try simp only [Act.put, sA, sB, sC]
        refine wpAnyH_take (i := 7) (oi := ⟨some 17, _, _, _, _, _⟩) (v := undef) rfl (by kernel_rfl) (by kernel_rfl) (by kernel_rfl) (fun _ _ _ h => h) (Or.inr ⟨by rfl, rfl⟩) hHeld1 ?_
        try simp only [Act.put, sA, sB, sC]
        refine wpAnyH_take (i := 8) (oi := ⟨some 18, _, _, _, _, _⟩) (v := undef) rfl (by kernel_rfl) (by kernel_rfl) (by kernel_rfl) (fun _ _ _ h => h) (Or.inr ⟨by rfl, rfl⟩) hHeld1 ?_
        try simp only [Act.put, sA, sB, sC]
        refine wpAnyH_take (i := 9) (oi := ⟨some 19, _, _, _, _, _⟩) (v := undef) rfl (by kernel_rfl) (by kernel_rfl) (by kernel_rfl) (fun _ _ _ h => h) (Or.inr ⟨by rfl, rfl⟩) hHeld1 ?_
        try simp only [Act.put, sA, sB, sC]
        refine wpAnyH_take (i := 10) (oi := ⟨some 20, _, _, _, _, _⟩) (v := undef) rfl (by kernel_rfl) (by kernel_rfl) (by kernel_rfl) (fun _ _ _ h => h) (Or.inr ⟨by rfl, rfl⟩) hHeld1 ?_
        try simp only [Act.put, sA, sB, sC]
        refine wpAnyH_take (i := 11) (oi := ⟨some 21, _, _, _, _, _⟩) (v := undef) rfl (by kernel_rfl) (by kernel_rfl) (by kernel_rfl) (fun _ _ _ h => h) (Or.inr ⟨by rfl, rfl⟩) hHeld1 ?_
        try simp only [Act.put, sA, sB, sC]
        refine wpAnyH_take (i := 12) (oi := ⟨some 22, _, _, _, _, _⟩) (v := undef) rfl (by kernel_rfl) (by kernel_rfl) (by kernel_rfl) (fun _ _ _ h => h) (Or.inr ⟨by rfl, rfl⟩) hHeld1 ?_
        try simp only [Act.put, sA, sB, sC]
        refine wpAnyH_take (i := 13) (oi := ⟨some 23, _, _, _, _, _⟩) (v := undef) rfl (by kernel_rfl) (by kernel_rfl) (by kernel_rfl) (fun _ _ _ h => h) (Or.inr ⟨by rfl, rfl⟩) hHeld1 ?_
        try simp only [Act.put, sA, sB, sC]
        refine wpAnyH_take (i := 14) (oi := ⟨some 24, _, _, _, _, _⟩) (v := undef) rfl (by kernel_rfl) (by kernel_rfl) (by kernel_rfl) (fun _ _ _ h => h) (Or.inr ⟨by rfl, rfl⟩) hHeld1 ?_
        try simp only [Act.put, sA, sB, sC]
        refine wpAnyH_take (i := 15) (oi := ⟨some 25, _, _, _, _, _⟩) (v := undef) rfl (by kernel_rfl) (by kernel_rfl) (by kernel_rfl) (fun _ _ _ h => h) (Or.inr ⟨by rfl, rfl⟩) hHeld1 ?_
        try simp only [Act.put, sA, sB, sC]
        refine wpAnyH_take (i := 16) (oi := ⟨some 26, _, _, _, _, _⟩) (v := undef) rfl (by kernel_rfl) (by kernel_rfl) (by kernel_rfl) (fun _ _ _ h => h) (Or.inr ⟨by rfl, rfl⟩) hHeld1 ?_
        try simp only [Act.put, sA, sB, sC]
        refine wpAnyH_take (i := 17) (oi := ⟨some 27, _, _, _, _, _⟩) (v := undef) rfl (by kernel_rfl) (by kernel_rfl) (by kernel_rfl) (fun _ _ _ h => h) (Or.inr ⟨by rfl, rfl⟩) hHeld1 ?_
        try simp only [Act.put, sA, sB, sC]
        refine wpAnyH_take (i := 18) (oi := ⟨some 28, _, _, _, _, _⟩) (v := undef) rfl (by kernel_rfl) (by kernel_rfl) (by kernel_rfl) (fun _ _ _ h => h) (Or.inr ⟨by rfl, rfl⟩) hHeld1 ?_
        try simp only [Act.put, sA, sB, sC]
        refine wpAnyH_take (i := 19) (oi := ⟨some 29, _, _, _, _, _⟩) (v := undef) rfl (by kernel_rfl) (by kernel_rfl) (by kernel_rfl) (fun _ _ _ h => h) (Or.inr ⟨by rfl, rfl⟩) hHeld1 ?_
        try simp only [Act.put, sA, sB, sC]
        refine wpAnyH_take (i := 20) (oi := ⟨some 30, _, _, _, _, _⟩) (v := undef) rfl (by kernel_rfl) (by kernel_rfl) (by kernel_rfl) (fun _ _ _ h => h) (Or.inr ⟨by rfl, rfl⟩) hHeld1 ?_
        try simp only [Act.put, sA, sB, sC]
        refine wpAnyH_take (i := 21) (oi := ⟨some 31, _, _, _, _, _⟩) (v := undef) rfl (by kernel_rfl) (by kernel_rfl) (by kernel_rfl) (fun _ _ _ h => h) (Or.inr ⟨by rfl, rfl⟩) hHeld1 ?_
        try simp only [Act.put, sA, sB, sC]
        refine wpAnyH_take (i := 22) (oi := ⟨some 32, _, _, _, _, _⟩) (v := undef) rfl (by kernel_rfl) (by kernel_rfl) (by kernel_rfl) (fun _ _ _ h => h) (Or.inr ⟨by rfl, rfl⟩) hHeld1 ?_
        try simp only [Act.put, sA, sB, sC]
        refine wpAnyH_take (i := 23) (oi := ⟨some 33, _, _, _, _, _⟩) (v := ?_) rfl (by kernel_rfl) (by kernel_rfl) (by kernel_rfl) (fun _ _ _ h => h) (Or.inl ⟨by rfl, ?_⟩) hHeld1 ?_
        rotate_left
        · (intro w' hSw; (try dsimp only at hSw); go_simp; all_goals (with_reducible rfl))
        try simp only [Act.put, sA, sB, sC]
        refine wpAnyH_done (by kernel_rfl) ?_ _
        all_goals
          go_wp2
          go_ret
          exact ⟨⟨false, rfl, ⟨(fun h => by cases h), fun h => absurd h HNO.out⟩⟩, hbel.trans (Below.mono (Below.trans (Below.refl _ _).drew hb2) hbs)⟩
      · have cm := fun w => rmay_any x w
        rw [hm] at cm
        have hmx : E.may x := of_decide_eq_true hm
        have CM := Lib.hid cm
        have HMX := Lib.hid hmx
        clear cm hm hmx
        by_cases hkp : 0 < k
        · obtain ⟨b', o', y, e2, hb', hy, f0, f1, f2⟩ := (h.below (hbel.mono hB)).atE (show k - 1 < n by omega)
          obtain ⟨rfl, rfl⟩ : b = b' ∧ o = o' := by simpa using e2
          have HY := Lib.hid hy
          clear hy e2 f1 f2
          have g1 : (0 : Int) ≤ (k : Int) - 1 := by omega
          have g1' : (1 : Int) ≤ (k : Int) := by omega
          have g2 : (k : Int) - 1 < (n : Int) := by omega
          have g3 : ((k : Int) - 1).toNat = k - 1 := by omega
          have g4 : IntKind.i64.wrap ((k : Int) - 1) = (k : Int) - 1 := IntWalk.i64_in _ (by omega)
          by_cases hlt2 : y.key < x.key
          · have hd : decide (x.key ≤ y.key) = false := decide_eq_false (by omega)
            go_wp2
            refine wp_region_held_drew (S := (fun w' => w'.cell? ⟨b, o + k * 3, none⟩ = some (.int .i64 x.key) ∧ w'.cell? ⟨b, o + k * 3 + 1, none⟩ = some (.int .i64 x.ver) ∧ w'.cell? ⟨b, o + k * 3 + 2, none⟩ = some (.string (strB x.val)) ∧ w'.cell? ⟨b, o + (k - 1) * 3, none⟩ = some (.int .i64 y.key))) (by kernel_rfl) (by first | go_keep | exact ⟨d0.trans c0, d1.trans c1, d2.trans c2, d3.trans f0⟩) (fun hHeld0 => ?_)
            refine wpAnyH_take (i := 0) (oi := ⟨some 10, _, _, _, _, _⟩) (v := ?_) rfl (by kernel_rfl) (by kernel_rfl) (by kernel_rfl) (fun _ _ _ h => h) (Or.inl ⟨by rfl, ?_⟩) hHeld0 ?_
            rotate_left
            · (intro w' hSw; (try dsimp only at hSw); go_simp; all_goals (with_reducible rfl))
            try simp only [Act.put, sA, sB, sC]
            refine wpAnyH_take (i := 1) (oi := ⟨some 11, _, _, _, _, _⟩) (v := ?_) rfl (by kernel_rfl) (by kernel_rfl) (by kernel_rfl) (fun _ _ _ h => h) (Or.inl ⟨by rfl, ?_⟩) hHeld0 ?_
            rotate_left
            · (intro w' hSw; (try dsimp only at hSw); go_simp; all_goals (with_reducible rfl))
            try simp only [Act.put, sA, sB, sC]
            refine wpAnyH_take (i := 2) (oi := ⟨some 12, _, _, _, _, _⟩) (v := ?_) rfl (by kernel_rfl) (by kernel_rfl) (by kernel_rfl) (fun _ _ _ h => h) (Or.inl ⟨by rfl, ?_⟩) hHeld0 ?_
            rotate_left
            · (intro w' hSw; (try dsimp only at hSw); go_simp; all_goals (with_reducible rfl))
            try simp only [Act.put, sA, sB, sC]
            refine wpAnyH_take (i := 3) (oi := ⟨some 13, _, _, _, _, _⟩) (v := ?_) rfl (by kernel_rfl) (by kernel_rfl) (by kernel_rfl) (fun _ _ _ h => h) (Or.inl ⟨by rfl, ?_⟩) hHeld0 ?_
            rotate_left
            · (intro w' hSw; (try dsimp only at hSw); go_simp; all_goals (with_reducible rfl))
            try simp only [Act.put, sA, sB, sC]
            refine wpAnyH_ready (rs := [4]) (by kernel_rfl) (by simp) (AllReadyH.cons (o := ⟨some 14, _, _, _, _, _⟩) rfl (fun K hK => ?_) AllReadyH.nil)
            go_simp
            (refine (CM.out _).mono ?_; rintro e w2 ⟨rfl, hb2⟩; have d0 := hb2.cell (p := ⟨b, o + k * 3, none⟩) (by show b < wr.heap.size; omega); have d1 := hb2.cell (p := ⟨b, o + k * 3 + 1, none⟩) (by show b < wr.heap.size; omega); have d2 := hb2.cell (p := ⟨b, o + k * 3 + 2, none⟩) (by show b < wr.heap.size; omega); have d3 := hb2.cell (p := ⟨b, o + (k - 1) * 3, none⟩) (by show b < wr.heap.size; omega))
            go_simp
            refine hK.out _ _ (by first | go_keep | exact ⟨d0.trans c0, d1.trans c1, d2.trans c2, d3.trans f0⟩) (fun hHeld1 => ?_)
            clear hK hHeld0 K
            try simp only [Act.put, sA, sB, sC]
            refine wpAnyH_take (i := 5) (oi := ⟨some 15, _, _, _, _, _⟩) (v := ?_) rfl (by kernel_rfl) (by kernel_rfl) (by kernel_rfl) (fun _ _ _ h => h) (Or.inl ⟨by rfl, ?_⟩) hHeld1 ?_
            rotate_left
            · (intro w' hSw; (try dsimp only at hSw); go_simp; all_goals (with_reducible rfl))
            try simp only [Act.put, sA, sB, sC]
            refine wpAnyH_take (i := 6) (oi := ⟨some 16, _, _, _, _, _⟩) (v := ?_) rfl (by kernel_rfl) (by kernel_rfl) (by kernel_rfl) (fun _ _ _ h => h) (Or.inl ⟨by rfl, ?_⟩) hHeld1 ?_
            rotate_left
            · (intro w' hSw; (try dsimp only at hSw); go_simp; all_goals (with_reducible rfl))
            try simp only [Act.put, sA, sB, sC]
            refine wpAnyH_take (i := 7) (oi := ⟨some 17, _, _, _, _, _⟩) (v := ?_) rfl (by kernel_rfl) (by kernel_rfl) (by kernel_rfl) (fun _ _ _ h => h) (Or.inl ⟨by rfl, ?_⟩) hHeld1 ?_
            rotate_left
            · (intro w' hSw; (try dsimp only at hSw); go_simp; all_goals (with_reducible rfl))
            try simp only [Act.put, sA, sB, sC]
            refine wpAnyH_take (i := 8) (oi := ⟨some 18, _, _, _, _, _⟩) (v := ?_) rfl (by kernel_rfl) (by kernel_rfl) (by kernel_rfl) (fun _ _ _ h => h) (Or.inl ⟨by rfl, ?_⟩) hHeld1 ?_
            rotate_left
            · (intro w' hSw; (try dsimp only at hSw); go_simp; all_goals (with_reducible rfl))
            try simp only [Act.put, sA, sB, sC]
            refine wpAnyH_take (i := 9) (oi := ⟨some 19, _, _, _, _, _⟩) (v := ?_) rfl (by kernel_rfl) (by kernel_rfl) (by kernel_rfl) (fun _ _ _ h => h) (Or.inl ⟨by rfl, ?_⟩) hHeld1 ?_
            rotate_left
            · (intro w' hSw; (try dsimp only at hSw); go_simp; all_goals (with_reducible rfl))
            try simp only [Act.put, sA, sB, sC]
            refine wpAnyH_take (i := 10) (oi := ⟨some 20, _, _, _, _, _⟩) (v := ?_) rfl (by kernel_rfl) (by kernel_rfl) (by kernel_rfl) (fun _ _ _ h => h) (Or.inl ⟨by rfl, ?_⟩) hHeld1 ?_
            rotate_left
            · (intro w' hSw; (try dsimp only at hSw); go_simp; all_goals (with_reducible rfl))
            try simp only [Act.put, sA, sB, sC]
            refine wpAnyH_take (i := 11) (oi := ⟨some 21, _, _, _, _, _⟩) (v := ?_) rfl (by kernel_rfl) (by kernel_rfl) (by kernel_rfl) (fun _ _ _ h => h) (Or.inl ⟨by rfl, ?_⟩) hHeld1 ?_
            rotate_left
            · (intro w' hSw; (try dsimp only at hSw); go_simp; all_goals (with_reducible rfl))
            try simp only [Act.put, sA, sB, sC]
            refine wpAnyH_take (i := 12) (oi := ⟨some 22, _, _, _, _, _⟩) (v := ?_) rfl (by kernel_rfl) (by kernel_rfl) (by kernel_rfl) (fun _ _ _ h => h) (Or.inl ⟨by rfl, ?_⟩) hHeld1 ?_
            rotate_left
            · (intro w' hSw; (try dsimp only at hSw); go_simp; all_goals (with_reducible rfl))
            try simp only [Act.put, sA, sB, sC]
            refine wpAnyH_take (i := 13) (oi := ⟨some 23, _, _, _, _, _⟩) (v := ?_) rfl (by kernel_rfl) (by kernel_rfl) (by kernel_rfl) (fun _ _ _ h => h) (Or.inl ⟨by rfl, ?_⟩) hHeld1 ?_
            rotate_left
            · (intro w' hSw; (try dsimp only at hSw); go_simp; all_goals (with_reducible rfl))
            try simp only [Act.put, sA, sB, sC]
            refine wpAnyH_take (i := 14) (oi := ⟨some 24, _, _, _, _, _⟩) (v := ?_) rfl (by kernel_rfl) (by kernel_rfl) (by kernel_rfl) (fun _ _ _ h => h) (Or.inl ⟨by rfl, ?_⟩) hHeld1 ?_
            rotate_left
            · (intro w' hSw; (try dsimp only at hSw); go_simp; all_goals (with_reducible rfl))
            try simp only [Act.put, sA, sB, sC]
            refine wpAnyH_take (i := 15) (oi := ⟨some 25, _, _, _, _, _⟩) (v := ?_) rfl (by kernel_rfl) (by kernel_rfl) (by kernel_rfl) (fun _ _ _ h => h) (Or.inl ⟨by rfl, ?_⟩) hHeld1 ?_
            rotate_left
            · (intro w' hSw; (try dsimp only at hSw); go_simp; all_goals (with_reducible rfl))
            try simp only [Act.put, sA, sB, sC]
            refine wpAnyH_take (i := 16) (oi := ⟨some 26, _, _, _, _, _⟩) (v := ?_) rfl (by kernel_rfl) (by kernel_rfl) (by kernel_rfl) (fun _ _ _ h => h) (Or.inl ⟨by rfl, ?_⟩) hHeld1 ?_
            rotate_left
            · (intro w' hSw; (try dsimp only at hSw); go_simp; all_goals (with_reducible rfl))
            try simp only [Act.put, sA, sB, sC]
            refine wpAnyH_take (i := 17) (oi := ⟨some 27, _, _, _, _, _⟩) (v := ?_) rfl (by kernel_rfl) (by kernel_rfl) (by kernel_rfl) (fun _ _ _ h => h) (Or.inl ⟨by rfl, ?_⟩) hHeld1 ?_
            rotate_left
            · (intro w' hSw; (try dsimp only at hSw); go_simp; all_goals (with_reducible rfl))
            try simp only [Act.put, sA, sB, sC]
            refine wpAnyH_take (i := 18) (oi := ⟨some 28, _, _, _, _, _⟩) (v := ?_) rfl (by kernel_rfl) (by kernel_rfl) (by kernel_rfl) (fun _ _ _ h => h) (Or.inl ⟨by rfl, ?_⟩) hHeld1 ?_
            rotate_left
            · (intro w' hSw; (try dsimp only at hSw); go_simp; all_goals (with_reducible rfl))
            try simp only [Act.put, sA, sB, sC]
            refine wpAnyH_take (i := 19) (oi := ⟨some 29, _, _, _, _, _⟩) (v := ?_) rfl (by kernel_rfl) (by kernel_rfl) (by kernel_rfl) (fun _ _ _ h => h) (Or.inl ⟨by rfl, ?_⟩) hHeld1 ?_
            rotate_left
            · (intro w' hSw; (try dsimp only at hSw); go_simp; all_goals (with_reducible rfl))
            try simp only [Act.put, sA, sB, sC]
            refine wpAnyH_take (i := 20) (oi := ⟨some 30, _, _, _, _, _⟩) (v := ?_) rfl (by kernel_rfl) (by kernel_rfl) (by kernel_rfl) (fun _ _ _ h => h) (Or.inl ⟨by rfl, ?_⟩) hHeld1 ?_
            rotate_left
            · (intro w' hSw; (try dsimp only at hSw); go_simp; all_goals (with_reducible rfl))
            try simp only [Act.put, sA, sB, sC]
            refine wpAnyH_take (i := 21) (oi := ⟨some 31, _, _, _, _, _⟩) (v := ?_) rfl (by kernel_rfl) (by kernel_rfl) (by kernel_rfl) (fun _ _ _ h => h) (Or.inl ⟨by rfl, ?_⟩) hHeld1 ?_
            rotate_left
            · (intro w' hSw; (try dsimp only at hSw); go_simp; all_goals (with_reducible rfl))
            try simp only [Act.put, sA, sB, sC]
            refine wpAnyH_take (i := 22) (oi := ⟨some 32, _, _, _, _, _⟩) (v := ?_) rfl (by kernel_rfl) (by kernel_rfl) (by kernel_rfl) (fun _ _ _ h => h) (Or.inl ⟨by rfl, ?_⟩) hHeld1 ?_
            rotate_left
            · (intro w' hSw; (try dsimp only at hSw); go_simp; all_goals (with_reducible rfl))
            try simp only [Act.put, sA, sB, sC]
            refine wpAnyH_take (i := 23) (oi := ⟨some 33, _, _, _, _, _⟩) (v := ?_) rfl (by kernel_rfl) (by kernel_rfl) (by kernel_rfl) (fun _ _ _ h => h) (Or.inl ⟨by rfl, ?_⟩) hHeld1 ?_
            rotate_left
            · (intro w' hSw; (try dsimp only at hSw); go_simp; all_goals (with_reducible rfl))
            try simp only [Act.put, sA, sB, sC]
            refine wpAnyH_done (by kernel_rfl) ?_ _
            all_goals
              go_wp2
              go_roundw
              case rel =>
                refine ⟨k + 1, by omega, by go_num, ?_, hbel.trans (Below.mono (Below.trans (Below.refl _ _).drew hb2) hbs)⟩
                rw [take_more HX.out]
                exact right_snoc.2 ⟨HN.out, HMX.out, below_last HN.out.2 (k := k - 1) (by rw [List.length_take, HL.out]; omega) (by rw [List.getElem?_take, if_pos (by omega)]; exact HY.out) hlt2⟩
              case measure => simp [intOf]; omega
          · have hd : decide (x.key ≤ y.key) = true := decide_eq_true (by omega)
            have hno : ¬ E.right l := fun hr => hlt2 (E.rising_at hr.2 (show k - 1 < k by omega) HY.out HX.out)
            have HNO := Lib.hid hno
            clear hno
            go_wp2
            refine wp_region_held_drew (S := (fun w' => w'.cell? ⟨b, o + k * 3, none⟩ = some (.int .i64 x.key) ∧ w'.cell? ⟨b, o + k * 3 + 1, none⟩ = some (.int .i64 x.ver) ∧ w'.cell? ⟨b, o + k * 3 + 2, none⟩ = some (.string (strB x.val)) ∧ w'.cell? ⟨b, o + (k - 1) * 3, none⟩ = some (.int .i64 y.key))) (by kernel_rfl) (by first | go_keep | exact ⟨d0.trans c0, d1.trans c1, d2.trans c2, d3.trans f0⟩) (fun hHeld0 => ?_)
            refine wpAnyH_take (i := 0) (oi := ⟨some 10, _, _, _, _, _⟩) (v := ?_) rfl (by kernel_rfl) (by kernel_rfl) (by kernel_rfl) (fun _ _ _ h => h) (Or.inl ⟨by rfl, ?_⟩) hHeld0 ?_
            rotate_left
            · (intro w' hSw; (try dsimp only at hSw); go_simp; all_goals (with_reducible rfl))
            try simp only [Act.put, sA, sB, sC]
            refine wpAnyH_take (i := 1) (oi := ⟨some 11, _, _, _, _, _⟩) (v := ?_) rfl (by kernel_rfl) (by kernel_rfl) (by kernel_rfl) (fun _ _ _ h => h) (Or.inl ⟨by rfl, ?_⟩) hHeld0 ?_
            rotate_left
            · (intro w' hSw; (try dsimp only at hSw); go_simp; all_goals (with_reducible rfl))
            try simp only [Act.put, sA, sB, sC]
            refine wpAnyH_take (i := 2) (oi := ⟨some 12, _, _, _, _, _⟩) (v := ?_) rfl (by kernel_rfl) (by kernel_rfl) (by kernel_rfl) (fun _ _ _ h => h) (Or.inl ⟨by rfl, ?_⟩) hHeld0 ?_
            rotate_left
            · (intro w' hSw; (try dsimp only at hSw); go_simp; all_goals (with_reducible rfl))
            try simp only [Act.put, sA, sB, sC]
            refine wpAnyH_take (i := 3) (oi := ⟨some 13, _, _, _, _, _⟩) (v := ?_) rfl (by kernel_rfl) (by kernel_rfl) (by kernel_rfl) (fun _ _ _ h => h) (Or.inl ⟨by rfl, ?_⟩) hHeld0 ?_
            rotate_left
            · (intro w' hSw; (try dsimp only at hSw); go_simp; all_goals (with_reducible rfl))
            try simp only [Act.put, sA, sB, sC]
            refine wpAnyH_ready (rs := [4]) (by kernel_rfl) (by simp) (AllReadyH.cons (o := ⟨some 14, _, _, _, _, _⟩) rfl (fun K hK => ?_) AllReadyH.nil)
            go_simp
            (refine (CM.out _).mono ?_; rintro e w2 ⟨rfl, hb2⟩; have d0 := hb2.cell (p := ⟨b, o + k * 3, none⟩) (by show b < wr.heap.size; omega); have d1 := hb2.cell (p := ⟨b, o + k * 3 + 1, none⟩) (by show b < wr.heap.size; omega); have d2 := hb2.cell (p := ⟨b, o + k * 3 + 2, none⟩) (by show b < wr.heap.size; omega); have d3 := hb2.cell (p := ⟨b, o + (k - 1) * 3, none⟩) (by show b < wr.heap.size; omega))
            go_simp
            refine hK.out _ _ (by first | go_keep | exact ⟨d0.trans c0, d1.trans c1, d2.trans c2, d3.trans f0⟩) (fun hHeld1 => ?_)
            clear hK hHeld0 K
            try simp only [Act.put, sA, sB, sC]
            refine wpAnyH_take (i := 5) (oi := ⟨some 15, _, _, _, _, _⟩) (v := ?_) rfl (by kernel_rfl) (by kernel_rfl) (by kernel_rfl) (fun _ _ _ h => h) (Or.inl ⟨by rfl, ?_⟩) hHeld1 ?_
            rotate_left
            · (intro w' hSw; (try dsimp only at hSw); go_simp; all_goals (with_reducible rfl))
            try simp only [Act.put, sA, sB, sC]
            refine wpAnyH_take (i := 6) (oi := ⟨some 16, _, _, _, _, _⟩) (v := ?_) rfl (by kernel_rfl) (by kernel_rfl) (by kernel_rfl) (fun _ _ _ h => h) (Or.inl ⟨by rfl, ?_⟩) hHeld1 ?_
            rotate_left
            · (intro w' hSw; (try dsimp only at hSw); go_simp; all_goals (with_reducible rfl))
            try simp only [Act.put, sA, sB, sC]
            refine wpAnyH_take (i := 7) (oi := ⟨some 17, _, _, _, _, _⟩) (v := ?_) rfl (by kernel_rfl) (by kernel_rfl) (by kernel_rfl) (fun _ _ _ h => h) (Or.inl ⟨by rfl, ?_⟩) hHeld1 ?_
            rotate_left
            · (intro w' hSw; (try dsimp only at hSw); go_simp; all_goals (with_reducible rfl))
            try simp only [Act.put, sA, sB, sC]
            refine wpAnyH_take (i := 8) (oi := ⟨some 18, _, _, _, _, _⟩) (v := ?_) rfl (by kernel_rfl) (by kernel_rfl) (by kernel_rfl) (fun _ _ _ h => h) (Or.inl ⟨by rfl, ?_⟩) hHeld1 ?_
            rotate_left
            · (intro w' hSw; (try dsimp only at hSw); go_simp; all_goals (with_reducible rfl))
            try simp only [Act.put, sA, sB, sC]
            refine wpAnyH_take (i := 9) (oi := ⟨some 19, _, _, _, _, _⟩) (v := ?_) rfl (by kernel_rfl) (by kernel_rfl) (by kernel_rfl) (fun _ _ _ h => h) (Or.inl ⟨by rfl, ?_⟩) hHeld1 ?_
            rotate_left
            · (intro w' hSw; (try dsimp only at hSw); go_simp; all_goals (with_reducible rfl))
            try simp only [Act.put, sA, sB, sC]
            refine wpAnyH_take (i := 10) (oi := ⟨some 20, _, _, _, _, _⟩) (v := ?_) rfl (by kernel_rfl) (by kernel_rfl) (by kernel_rfl) (fun _ _ _ h => h) (Or.inl ⟨by rfl, ?_⟩) hHeld1 ?_
            rotate_left
            · (intro w' hSw; (try dsimp only at hSw); go_simp; all_goals (with_reducible rfl))
            try simp only [Act.put, sA, sB, sC]
            refine wpAnyH_take (i := 11) (oi := ⟨some 21, _, _, _, _, _⟩) (v := ?_) rfl (by kernel_rfl) (by kernel_rfl) (by kernel_rfl) (fun _ _ _ h => h) (Or.inl ⟨by rfl, ?_⟩) hHeld1 ?_
            rotate_left
            · (intro w' hSw; (try dsimp only at hSw); go_simp; all_goals (with_reducible rfl))
            try simp only [Act.put, sA, sB, sC]
            refine wpAnyH_take (i := 12) (oi := ⟨some 22, _, _, _, _, _⟩) (v := ?_) rfl (by kernel_rfl) (by kernel_rfl) (by kernel_rfl) (fun _ _ _ h => h) (Or.inl ⟨by rfl, ?_⟩) hHeld1 ?_
            rotate_left
            · (intro w' hSw; (try dsimp only at hSw); go_simp; all_goals (with_reducible rfl))
            try simp only [Act.put, sA, sB, sC]
            refine wpAnyH_take (i := 13) (oi := ⟨some 23, _, _, _, _, _⟩) (v := ?_) rfl (by kernel_rfl) (by kernel_rfl) (by kernel_rfl) (fun _ _ _ h => h) (Or.inl ⟨by rfl, ?_⟩) hHeld1 ?_
            rotate_left
            · (intro w' hSw; (try dsimp only at hSw); go_simp; all_goals (with_reducible rfl))
            try simp only [Act.put, sA, sB, sC]
            refine wpAnyH_take (i := 14) (oi := ⟨some 24, _, _, _, _, _⟩) (v := ?_) rfl (by kernel_rfl) (by kernel_rfl) (by kernel_rfl) (fun _ _ _ h => h) (Or.inl ⟨by rfl, ?_⟩) hHeld1 ?_
            rotate_left
            · (intro w' hSw; (try dsimp only at hSw); go_simp; all_goals (with_reducible rfl))
            try simp only [Act.put, sA, sB, sC]
            refine wpAnyH_take (i := 15) (oi := ⟨some 25, _, _, _, _, _⟩) (v := ?_) rfl (by kernel_rfl) (by kernel_rfl) (by kernel_rfl) (fun _ _ _ h => h) (Or.inl ⟨by rfl, ?_⟩) hHeld1 ?_
            rotate_left
            · (intro w' hSw; (try dsimp only at hSw); go_simp; all_goals (with_reducible rfl))
            try simp only [Act.put, sA, sB, sC]
            refine wpAnyH_take (i := 16) (oi := ⟨some 26, _, _, _, _, _⟩) (v := ?_) rfl (by kernel_rfl) (by kernel_rfl) (by kernel_rfl) (fun _ _ _ h => h) (Or.inl ⟨by rfl, ?_⟩) hHeld1 ?_
            rotate_left
            · (intro w' hSw; (try dsimp only at hSw); go_simp; all_goals (with_reducible rfl))
            try simp only [Act.put, sA, sB, sC]
            refine wpAnyH_take (i := 17) (oi := ⟨some 27, _, _, _, _, _⟩) (v := ?_) rfl (by kernel_rfl) (by kernel_rfl) (by kernel_rfl) (fun _ _ _ h => h) (Or.inl ⟨by rfl, ?_⟩) hHeld1 ?_
            rotate_left
            · (intro w' hSw; (try dsimp only at hSw); go_simp; all_goals (with_reducible rfl))
            try simp only [Act.put, sA, sB, sC]
            refine wpAnyH_take (i := 18) (oi := ⟨some 28, _, _, _, _, _⟩) (v := ?_) rfl (by kernel_rfl) (by kernel_rfl) (by kernel_rfl) (fun _ _ _ h => h) (Or.inl ⟨by rfl, ?_⟩) hHeld1 ?_
            rotate_left
            · (intro w' hSw; (try dsimp only at hSw); go_simp; all_goals (with_reducible rfl))
            try simp only [Act.put, sA, sB, sC]
            refine wpAnyH_take (i := 19) (oi := ⟨some 29, _, _, _, _, _⟩) (v := ?_) rfl (by kernel_rfl) (by kernel_rfl) (by kernel_rfl) (fun _ _ _ h => h) (Or.inl ⟨by rfl, ?_⟩) hHeld1 ?_
            rotate_left
            · (intro w' hSw; (try dsimp only at hSw); go_simp; all_goals (with_reducible rfl))
            try simp only [Act.put, sA, sB, sC]
            refine wpAnyH_take (i := 20) (oi := ⟨some 30, _, _, _, _, _⟩) (v := ?_) rfl (by kernel_rfl) (by kernel_rfl) (by kernel_rfl) (fun _ _ _ h => h) (Or.inl ⟨by rfl, ?_⟩) hHeld1 ?_
            rotate_left
            · (intro w' hSw; (try dsimp only at hSw); go_simp; all_goals (with_reducible rfl))
            try simp only [Act.put, sA, sB, sC]
            refine wpAnyH_take (i := 21) (oi := ⟨some 31, _, _, _, _, _⟩) (v := ?_) rfl (by kernel_rfl) (by kernel_rfl) (by kernel_rfl) (fun _ _ _ h => h) (Or.inl ⟨by rfl, ?_⟩) hHeld1 ?_
            rotate_left
            · (intro w' hSw; (try dsimp only at hSw); go_simp; all_goals (with_reducible rfl))
            try simp only [Act.put, sA, sB, sC]
            refine wpAnyH_take (i := 22) (oi := ⟨some 32, _, _, _, _, _⟩) (v := ?_) rfl (by kernel_rfl) (by kernel_rfl) (by kernel_rfl) (fun _ _ _ h => h) (Or.inl ⟨by rfl, ?_⟩) hHeld1 ?_
            rotate_left
            · (intro w' hSw; (try dsimp only at hSw); go_simp; all_goals (with_reducible rfl))
            try simp only [Act.put, sA, sB, sC]
            refine wpAnyH_take (i := 23) (oi := ⟨some 33, _, _, _, _, _⟩) (v := ?_) rfl (by kernel_rfl) (by kernel_rfl) (by kernel_rfl) (fun _ _ _ h => h) (Or.inl ⟨by rfl, ?_⟩) hHeld1 ?_
            rotate_left
            · (intro w' hSw; (try dsimp only at hSw); go_simp; all_goals (with_reducible rfl))
            try simp only [Act.put, sA, sB, sC]
            refine wpAnyH_done (by kernel_rfl) ?_ _
            all_goals
              go_wp2
              go_ret
              exact ⟨⟨false, rfl, ⟨(fun h => by cases h), fun h => absurd h HNO.out⟩⟩, hbel.trans (Below.mono (Below.trans (Below.refl _ _).drew hb2) hbs)⟩
        · have hk1 : ¬ (0 : Int) < (k : Int) := by omega
          go_wp2
          refine wp_region_held_drew (S := (fun w' => w'.cell? ⟨b, o + k * 3, none⟩ = some (.int .i64 x.key) ∧ w'.cell? ⟨b, o + k * 3 + 1, none⟩ = some (.int .i64 x.ver) ∧ w'.cell? ⟨b, o + k * 3 + 2, none⟩ = some (.string (strB x.val)))) (by kernel_rfl) (by first | go_keep | exact ⟨d0.trans c0, d1.trans c1, d2.trans c2⟩) (fun hHeld0 => ?_)
          refine wpAnyH_take (i := 0) (oi := ⟨some 10, _, _, _, _, _⟩) (v := ?_) rfl (by kernel_rfl) (by kernel_rfl) (by kernel_rfl) (fun _ _ _ h => h) (Or.inl ⟨by rfl, ?_⟩) hHeld0 ?_
          rotate_left
          · (intro w' hSw; (try dsimp only at hSw); go_simp; all_goals (with_reducible rfl))
          try simp only [Act.put, sA, sB, sC]
          refine wpAnyH_take (i := 1) (oi := ⟨some 11, _, _, _, _, _⟩) (v := ?_) rfl (by kernel_rfl) (by kernel_rfl) (by kernel_rfl) (fun _ _ _ h => h) (Or.inl ⟨by rfl, ?_⟩) hHeld0 ?_
          rotate_left
          · (intro w' hSw; (try dsimp only at hSw); go_simp; all_goals (with_reducible rfl))
          try simp only [Act.put, sA, sB, sC]
          refine wpAnyH_take (i := 2) (oi := ⟨some 12, _, _, _, _, _⟩) (v := ?_) rfl (by kernel_rfl) (by kernel_rfl) (by kernel_rfl) (fun _ _ _ h => h) (Or.inl ⟨by rfl, ?_⟩) hHeld0 ?_
          rotate_left
          · (intro w' hSw; (try dsimp only at hSw); go_simp; all_goals (with_reducible rfl))
          try simp only [Act.put, sA, sB, sC]
          refine wpAnyH_take (i := 3) (oi := ⟨some 13, _, _, _, _, _⟩) (v := ?_) rfl (by kernel_rfl) (by kernel_rfl) (by kernel_rfl) (fun _ _ _ h => h) (Or.inl ⟨by rfl, ?_⟩) hHeld0 ?_
          rotate_left
          · (intro w' hSw; (try dsimp only at hSw); go_simp; all_goals (with_reducible rfl))
          try simp only [Act.put, sA, sB, sC]
          refine wpAnyH_ready (rs := [4]) (by kernel_rfl) (by simp) (AllReadyH.cons (o := ⟨some 14, _, _, _, _, _⟩) rfl (fun K hK => ?_) AllReadyH.nil)
          go_simp
          (refine (CM.out _).mono ?_; rintro e w2 ⟨rfl, hb2⟩; have d0 := hb2.cell (p := ⟨b, o + k * 3, none⟩) (by show b < wr.heap.size; omega); have d1 := hb2.cell (p := ⟨b, o + k * 3 + 1, none⟩) (by show b < wr.heap.size; omega); have d2 := hb2.cell (p := ⟨b, o + k * 3 + 2, none⟩) (by show b < wr.heap.size; omega))
          go_simp
          refine hK.out _ _ (by first | go_keep | exact ⟨d0.trans c0, d1.trans c1, d2.trans c2⟩) (fun hHeld1 => ?_)
          clear hK hHeld0 K
          try simp only [Act.put, sA, sB, sC]
          refine wpAnyH_take (i := 5) (oi := ⟨some 15, _, _, _, _, _⟩) (v := ?_) rfl (by kernel_rfl) (by kernel_rfl) (by kernel_rfl) (fun _ _ _ h => h) (Or.inl ⟨by rfl, ?_⟩) hHeld1 ?_
          rotate_left
          · (intro w' hSw; (try dsimp only at hSw); go_simp; all_goals (with_reducible rfl))
          try simp only [Act.put, sA, sB, sC]
          refine wpAnyH_take (i := 6) (oi := ⟨some 16, _, _, _, _, _⟩) (v := ?_) rfl (by kernel_rfl) (by kernel_rfl) (by kernel_rfl) (fun _ _ _ h => h) (Or.inl ⟨by rfl, ?_⟩) hHeld1 ?_
          rotate_left
          · (intro w' hSw; (try dsimp only at hSw); go_simp; all_goals (with_reducible rfl))
          try simp only [Act.put, sA, sB, sC]
          refine wpAnyH_take (i := 7) (oi := ⟨some 17, _, _, _, _, _⟩) (v := ?_) rfl (by kernel_rfl) (by kernel_rfl) (by kernel_rfl) (fun _ _ _ h => h) (Or.inl ⟨by rfl, ?_⟩) hHeld1 ?_
          rotate_left
          · (intro w' hSw; (try dsimp only at hSw); go_simp; all_goals (with_reducible rfl))
          try simp only [Act.put, sA, sB, sC]
          refine wpAnyH_take (i := 8) (oi := ⟨some 18, _, _, _, _, _⟩) (v := ?_) rfl (by kernel_rfl) (by kernel_rfl) (by kernel_rfl) (fun _ _ _ h => h) (Or.inl ⟨by rfl, ?_⟩) hHeld1 ?_
          rotate_left
          · (intro w' hSw; (try dsimp only at hSw); go_simp; all_goals (with_reducible rfl))
          try simp only [Act.put, sA, sB, sC]
          refine wpAnyH_take (i := 9) (oi := ⟨some 19, _, _, _, _, _⟩) (v := ?_) rfl (by kernel_rfl) (by kernel_rfl) (by kernel_rfl) (fun _ _ _ h => h) (Or.inl ⟨by rfl, ?_⟩) hHeld1 ?_
          rotate_left
          · (intro w' hSw; (try dsimp only at hSw); go_simp; all_goals (with_reducible rfl))
          try simp only [Act.put, sA, sB, sC]
          refine wpAnyH_take (i := 10) (oi := ⟨some 20, _, _, _, _, _⟩) (v := undef) rfl (by kernel_rfl) (by kernel_rfl) (by kernel_rfl) (fun _ _ _ h => h) (Or.inr ⟨by rfl, rfl⟩) hHeld1 ?_
          try simp only [Act.put, sA, sB, sC]
          refine wpAnyH_take (i := 11) (oi := ⟨some 21, _, _, _, _, _⟩) (v := undef) rfl (by kernel_rfl) (by kernel_rfl) (by kernel_rfl) (fun _ _ _ h => h) (Or.inr ⟨by rfl, rfl⟩) hHeld1 ?_
          try simp only [Act.put, sA, sB, sC]
          refine wpAnyH_take (i := 12) (oi := ⟨some 22, _, _, _, _, _⟩) (v := undef) rfl (by kernel_rfl) (by kernel_rfl) (by kernel_rfl) (fun _ _ _ h => h) (Or.inr ⟨by rfl, rfl⟩) hHeld1 ?_
          try simp only [Act.put, sA, sB, sC]
          refine wpAnyH_take (i := 13) (oi := ⟨some 23, _, _, _, _, _⟩) (v := undef) rfl (by kernel_rfl) (by kernel_rfl) (by kernel_rfl) (fun _ _ _ h => h) (Or.inr ⟨by rfl, rfl⟩) hHeld1 ?_
          try simp only [Act.put, sA, sB, sC]
          refine wpAnyH_take (i := 14) (oi := ⟨some 24, _, _, _, _, _⟩) (v := undef) rfl (by kernel_rfl) (by kernel_rfl) (by kernel_rfl) (fun _ _ _ h => h) (Or.inr ⟨by rfl, rfl⟩) hHeld1 ?_
          try simp only [Act.put, sA, sB, sC]
          refine wpAnyH_take (i := 15) (oi := ⟨some 25, _, _, _, _, _⟩) (v := undef) rfl (by kernel_rfl) (by kernel_rfl) (by kernel_rfl) (fun _ _ _ h => h) (Or.inr ⟨by rfl, rfl⟩) hHeld1 ?_
          try simp only [Act.put, sA, sB, sC]
          refine wpAnyH_take (i := 16) (oi := ⟨some 26, _, _, _, _, _⟩) (v := undef) rfl (by kernel_rfl) (by kernel_rfl) (by kernel_rfl) (fun _ _ _ h => h) (Or.inr ⟨by rfl, rfl⟩) hHeld1 ?_
          try simp only [Act.put, sA, sB, sC]
          refine wpAnyH_take (i := 17) (oi := ⟨some 27, _, _, _, _, _⟩) (v := undef) rfl (by kernel_rfl) (by kernel_rfl) (by kernel_rfl) (fun _ _ _ h => h) (Or.inr ⟨by rfl, rfl⟩) hHeld1 ?_
          try simp only [Act.put, sA, sB, sC]
          refine wpAnyH_take (i := 18) (oi := ⟨some 28, _, _, _, _, _⟩) (v := undef) rfl (by kernel_rfl) (by kernel_rfl) (by kernel_rfl) (fun _ _ _ h => h) (Or.inr ⟨by rfl, rfl⟩) hHeld1 ?_
          try simp only [Act.put, sA, sB, sC]
          refine wpAnyH_take (i := 19) (oi := ⟨some 29, _, _, _, _, _⟩) (v := undef) rfl (by kernel_rfl) (by kernel_rfl) (by kernel_rfl) (fun _ _ _ h => h) (Or.inr ⟨by rfl, rfl⟩) hHeld1 ?_
          try simp only [Act.put, sA, sB, sC]
          refine wpAnyH_take (i := 20) (oi := ⟨some 30, _, _, _, _, _⟩) (v := undef) rfl (by kernel_rfl) (by kernel_rfl) (by kernel_rfl) (fun _ _ _ h => h) (Or.inr ⟨by rfl, rfl⟩) hHeld1 ?_
          try simp only [Act.put, sA, sB, sC]
          refine wpAnyH_take (i := 21) (oi := ⟨some 31, _, _, _, _, _⟩) (v := undef) rfl (by kernel_rfl) (by kernel_rfl) (by kernel_rfl) (fun _ _ _ h => h) (Or.inr ⟨by rfl, rfl⟩) hHeld1 ?_
          try simp only [Act.put, sA, sB, sC]
          refine wpAnyH_take (i := 22) (oi := ⟨some 32, _, _, _, _, _⟩) (v := ?_) rfl (by kernel_rfl) (by kernel_rfl) (by kernel_rfl) (fun _ _ _ h => h) (Or.inl ⟨by rfl, ?_⟩) hHeld1 ?_
          rotate_left
          · (intro w' hSw; (try dsimp only at hSw); go_simp; all_goals (with_reducible rfl))
          try simp only [Act.put, sA, sB, sC]
          refine wpAnyH_take (i := 23) (oi := ⟨some 33, _, _, _, _, _⟩) (v := ?_) rfl (by kernel_rfl) (by kernel_rfl) (by kernel_rfl) (fun _ _ _ h => h) (Or.inl ⟨by rfl, ?_⟩) hHeld1 ?_
          rotate_left
          · (intro w' hSw; (try dsimp only at hSw); go_simp; all_goals (with_reducible rfl))
          try simp only [Act.put, sA, sB, sC]
          refine wpAnyH_done (by kernel_rfl) ?_ _
          all_goals
            go_wp2
            go_roundw
            case rel =>
              refine ⟨k + 1, by omega, by go_num, ?_, hbel.trans (Below.mono (Below.trans (Below.refl _ _).drew hb2) hbs)⟩
              rw [take_more HX.out]
              exact right_snoc.2 ⟨HN.out, HMX.out, fun y hy => by rw [show k = 0 by omega] at hy; simp at hy⟩
            case measure => simp [intOf]; omega
    · have he : E.right l := by have := HN.out; rwa [List.take_of_length_le (by have := HL.out; omega)] at this
      have HE := Lib.hid he
      clear he
      go_wp2
      go_ret
      exact ⟨⟨true, rfl, ⟨fun _ => HE.out, fun _ => rfl⟩⟩, hbel⟩
end Go.Proofs.Ytkabkpeamggnnaa

namespace Go.Proofs.Ytkabkpeamggnnaa
set_option linter.unusedVariables false
set_option linter.unusedSimpArgs false
open Go.RowKit

/-- how far Put has come: x is not put yet, or it is -/
def Putting (l : List Ent) (x : Ent) (k : Nat) (p : Bool) (O : List Ent) : Prop :=
  (p = false ∧ O = l.take k ∧ ∀ y ∈ l.take k, y.key < x.key) ∨ (p = true ∧ O = E.put (l.take k) x ∧ ∃ y ∈ l.take k, x.key ≤ y.key)
theorem Putting.start (l : List Ent) (x : Ent) : Putting l x 0 false [] := Or.inl ⟨rfl, rfl, by simp⟩
theorem Putting.len {l O : List Ent} {x : Ent} {k : Nat} (h : Putting l x k false O) : O.length ≤ k := by
  rcases h with ⟨_, rfl, _⟩ | ⟨e, _⟩
  · rw [List.length_take]; omega
  · cases e
theorem Putting.lower {l O : List Ent} {x y : Ent} {k : Nat} (h : Putting l x k false O) (hy : l[k]? = some y) (hlt : y.key < x.key) : Putting l x (k + 1) false (O ++ [y]) := by
  rcases h with ⟨_, rfl, ha⟩ | ⟨e, _⟩
  · refine Or.inl ⟨rfl, (take_more hy).symm, fun z hz => ?_⟩
    rw [take_more hy] at hz
    rcases List.mem_append.1 hz with hz | hz
    · exact ha z hz
    · obtain rfl : z = y := by simpa using hz
      exact hlt
  · cases e
theorem Putting.same {l O : List Ent} {x y : Ent} {k : Nat} (h : Putting l x k false O) (hy : l[k]? = some y) (he : y.key = x.key) : Putting l x (k + 1) true (O ++ [x]) := by
  rcases h with ⟨_, rfl, ha⟩ | ⟨e, _⟩
  · refine Or.inr ⟨rfl, ?_, y, by rw [take_more hy]; simp, by omega⟩
    rw [take_more hy, E.put_at ha [] (by omega), if_pos he]
  · cases e
theorem Putting.upper {l O : List Ent} {x y : Ent} {k : Nat} (h : Putting l x k false O) (hy : l[k]? = some y) (hlt : x.key < y.key) : Putting l x (k + 1) true (O ++ [x] ++ [y]) := by
  rcases h with ⟨_, rfl, ha⟩ | ⟨e, _⟩
  · refine Or.inr ⟨rfl, ?_, y, by rw [take_more hy]; simp, by omega⟩
    rw [take_more hy, E.put_at ha [] (by omega), if_neg (by omega)]
    simp
  · cases e
theorem Putting.more {l O : List Ent} {x y : Ent} {k : Nat} (h : Putting l x k true O) (hy : l[k]? = some y) : Putting l x (k + 1) true (O ++ [y]) := by
  rcases h with ⟨e, _⟩ | ⟨_, rfl, z, hz, hzx⟩
  · cases e
  · refine Or.inr ⟨rfl, ?_, z, by rw [take_more hy]; simp [hz], hzx⟩
    rw [take_more hy, E.put_snoc ⟨z, hz, hzx⟩]
theorem Putting.great {l O : List Ent} {x y : Ent} {k : Nat} (h : Putting l x k true O) (hr : E.rising l) (hy : l[k]? = some y) : x.key < y.key := by
  rcases h with ⟨e, _⟩ | ⟨_, rfl, z, hz, hzx⟩
  · cases e
  · obtain ⟨i, hi, rfl⟩ := List.mem_iff_getElem.1 hz
    have hi2 : i < k := by rw [List.length_take] at hi; omega
    have := E.rising_at hr hi2 (x := (l.take k)[i]) (by rw [List.getElem_take]; exact List.getElem?_eq_getElem _) hy
    omega
theorem Putting.endF {l O : List Ent} {x : Ent} {k : Nat} (h : Putting l x k false O) (hk : l.length ≤ k) : O ++ [x] = E.put l x := by
  rcases h with ⟨_, rfl, ha⟩ | ⟨e, _⟩
  · rw [List.take_of_length_le hk] at *
    rw [E.put_lt ha]
  · cases e
theorem Putting.endT {l O : List Ent} {x : Ent} {k : Nat} (h : Putting l x k true O) (hk : l.length ≤ k) : O = E.put l x := by
  rcases h with ⟨e, _⟩ | ⟨_, rfl, _⟩
  · cases e
  · rw [List.take_of_length_le hk]

theorem below_dn {B : Nat} {a w : World} (h : Below B a w) (q : Nat) : Below B a (w.drewN q) := ⟨h.os, h.tape, h.output, h.size, h.block⟩
theorem own_dn {w : World} {base e size n : Nat} {v : Value} {xs : List Value} (h : w.ownsRow base e size v n xs) (q : Nat) : (w.drewN q).ownsRow base e size v n xs := h
/-- an entry behind a row of the call's own -/
theorem push_law {w : World} {ops : Array Oper} {rest : List Oper} {o : Oper} {a : Act} {Q : Exit → Act → World → Prop} (hgd : o.guard = none) (s x : Operand)
    (ho : o.op = .call { callee := .builtin .append, args := #[s, x], argTypes := #[38, 38] })
    (base : Nat) {A : Option Addr} {m c : Nat} {O : List Ent} {y : Ent} (hs : a.eval s = .slice A m c) (hx : a.eval x = .slice (some ⟨w.heap.size, 0, none⟩) 1 1)
    (hown : w.ownsRow base 58 3 (.slice A m c) m (EC O)) (hm : m ≤ 4000000) (hbase : base ≤ w.heap.size)
    (h : ∀ A' c' w', w'.ownsRow base 58 3 (.slice A' (m + 1) c') (m + 1) (EC (O ++ [y])) → Below base w w' → wpList Try.prog ops Q rest (a.put o.dst (.slice A' (m + 1) c')) w') :
    wpList Try.prog ops Q (o :: rest) a (w.alloc (.cells #[.int .i64 y.key, .int .i64 y.ver, .string (strB y.val)] 58)) := by
  refine app_law enT hgd s x ho base hs (hown.alloc _) hx (Rd.lit w _ _ 3 1 rfl) (by simp [Value.oneCell']) (by omega) (by omega) (by simp; omega) fun A2 c2 w2 ap => ?_
  refine h A2 c2 w2 ?_ (below_app ((Below.refl _ _).alloc hbase _) (hown.alloc _) ap.grown (Nat.le_refl _) (by simp; omega))
  rw [EC_append]
  exact ap.own

/-- a table that was made: what Put, Join, Above answer -/
def Made (W : World) (l : List Ent) (e : Ending) (w' : World) : Prop :=
  ∃ A' n' c', e = .returned (.slice A' n' c') ∧ n' = l.length ∧ w'.ownsRow W.heap.size 58 3 (.slice A' n' c') n' (EC l) ∧ Below W.heap.size W w'

set_option maxHeartbeats 4000000 in
set_option maxRecDepth 20000 in
theorem rput_any (l : List Ent) (x : Ent) (A : Option Addr) (n c B : Nat) (w : World) (h : Rd w B 3 A n (EC l)) (hB : B ≤ w.heap.size) (hn : n ≤ 1000000) (hrise : E.rising l) :
    Calls Try.prog 82 #[.slice A n c, ev x] w (Made w (E.put l x)) := by
  have hl := h.lenE
  have HL := Lib.hid hl
  have HR := Lib.hid hrise
  clear hl hrise
  simp only [ev]
  go_enter Try.func82, Try.ntmps82
  go_wp2_with fail
  have hb1 : Below w.heap.size w (w.alloc (.cells #[.int .i64 x.key, .int .i64 x.ver, .string (strB x.val)] 58)) := (Below.refl _ _).alloc (Nat.le_refl _) _
  have X := Box.new w #[.int .i64 x.key, .int .i64 x.ver, .string (strB x.val)] 58
  have h1 := h.alloc hB (.cells #[.int .i64 x.key, .int .i64 x.ver, .string (strB x.val)] 58)
  have hs1 : w.heap.size < (w.alloc (.cells #[.int .i64 x.key, .int .i64 x.ver, .string (strB x.val)] 58)).heap.size := by simp
  have HB1 := Lib.hid hb1
  generalize w.alloc (.cells #[.int .i64 x.key, .int .i64 x.ver, .string (strB x.val)] 58) = w1 at *
  clear hb1 h
  go_wp2
  go_loopw [5, 6, 7] (fun s p i wr => ∃ (k m : Nat) (A' : Option Addr) (c' : Nat) (b : Bool) (O : List Ent), k ≤ n ∧ i = .int .i64 k ∧ p = .bool b ∧ m ≤ k + 1 ∧ s = .slice A' m c' ∧ Putting l x k b O ∧ m = O.length ∧
      wr.ownsRow w1.heap.size 58 3 (.slice A' m c') m (EC O) ∧ Below w1.heap.size w1 wr) (fun _ _ i _ => n - (intOf i).toNat)
  case atStart => exact ⟨0, 0, none, 0, false, [], by omega, rfl, rfl, by omega, rfl, Putting.start l x, rfl, World.ownsRow_nil _ _ _ _, Below.refl _ _⟩
  case round =>
    obtain ⟨k, m, A1, c1, p, O, hk, rfl, rfl, hmk, rfl, hP, hm, hown, hbel⟩ := hrel
    have HP := Lib.hid hP
    have HM := Lib.hid hm
    have hbs := hbel.size
    have X2 := X.below hbel hs1
    have y0 := X2.at 0 rfl
    have y1 := X2.at 1 rfl
    have y2 := X2.at 2 rfl
    clear hP hm
    by_cases hlt : k < n
    · obtain ⟨b, o, y, e, hb, hy, d0, d1, d2⟩ := ((h1.below (hbel.mono (by omega)))).atE hlt
      subst e
      have HY := Lib.hid hy
      clear hy
      have hk0 : (0 : Int) ≤ (k : Int) := by omega
      have hbelD := fun q => below_dn hbel q
      have hownD := fun q => own_dn hown q
      have HBD := Lib.hid hbelD
      have HOD := Lib.hid hownD
      clear hbelD hownD
      cases p
      · by_cases hlow : y.key < x.key
        · have t1 : decide (x.key ≤ y.key) = false := decide_eq_false (by omega)
          have t2 : (y.key != x.key) = true := by rw [bne_iff_ne]; omega
          have HLOW := Lib.hid hlow
          clear hlow
          go_wp2
          go_quiet (fail)
          go_wp2
          go_quiet (fail)
          go_wp2_with (refine push_law rfl (.tmp 38) (.tmp 43) rfl w1.heap.size rfl rfl (HOD.out _) (by omega) (by show w1.heap.size ≤ wr.heap.size; omega) ?_; rintro A2 c2 w2 hown2 hb2)
          go_roundw
          case rel => exact ⟨k + 1, m + 1, A2, c2, false, O ++ [y], by omega, by go_num, rfl, by omega, rfl, HP.out.lower HY.out HLOW.out, by rw [List.length_append, HM.out]; rfl, hown2, (HBD.out _).trans hb2⟩
          case measure => simp [intOf]; omega
        · by_cases he : y.key = x.key
          · have t1 : decide (x.key ≤ y.key) = true := decide_eq_true (by omega)
            have t2 : (y.key != x.key) = false := by rw [bne_eq_false_iff_eq]; exact he
            have HE := Lib.hid he
            clear he hlow
            go_wp2
            go_quiet (fail)
            go_wp2_with (refine push_law (y := x) rfl (.tmp 26) (.tmp 28) rfl w1.heap.size rfl rfl (HOD.out _) (by omega) (by show w1.heap.size ≤ wr.heap.size; omega) ?_; rintro A2 c2 w2 hown2 hb2; have X3 := X.below ((HBD.out _).trans hb2) hs1; have z0 := X3.at 0 rfl; have e0 := (hb2.cell (p := ⟨b, o + k * 3, none⟩) (by show b < w1.heap.size; omega)).trans d0)
            go_quiet (fail)
            go_wp2
            go_roundw
            case rel => exact ⟨k + 1, m + 1, A2, c2, true, O ++ [x], by omega, by go_num, rfl, by omega, rfl, HP.out.same HY.out HE.out, by rw [List.length_append, HM.out]; rfl, own_dn hown2 _, below_dn ((HBD.out _).trans hb2) _⟩
            case measure => simp [intOf]; omega
          · have t1 : decide (x.key ≤ y.key) = true := decide_eq_true (by omega)
            have t2 : (y.key != x.key) = true := by rw [bne_iff_ne]; exact he
            have hgt : x.key < y.key := by omega
            have HE := Lib.hid hgt
            have hmk2 : m ≤ k := by have := HP.out.len; have := HM.out; omega
            clear he hlow hgt
            go_wp2
            go_quiet (fail)
            go_wp2_with (refine push_law (y := x) rfl (.tmp 26) (.tmp 28) rfl w1.heap.size rfl rfl (HOD.out _) (by omega) (by show w1.heap.size ≤ wr.heap.size; omega) ?_; rintro A2 c2 w2 hown2 hb2; have X3 := X.below ((HBD.out _).trans hb2) hs1; have z0 := X3.at 0 rfl; have e0 := (hb2.cell (p := ⟨b, o + k * 3, none⟩) (by show b < w1.heap.size; omega)).trans d0; have e1 := (hb2.cell (p := ⟨b, o + k * 3 + 1, none⟩) (by show b < w1.heap.size; omega)).trans d1; have e2 := (hb2.cell (p := ⟨b, o + k * 3 + 2, none⟩) (by show b < w1.heap.size; omega)).trans d2; have hbel2 := (HBD.out _).trans hb2; have hbs2 := hbel2.size; clear hb2 y0 y1 y2 d0 d1 d2)
            go_quiet (fail)
            go_wp2_with (refine push_law (y := y) rfl (.tmp 38) (.tmp 43) rfl w1.heap.size rfl rfl (own_dn hown2 _) (by omega) (by show w1.heap.size ≤ w2.heap.size; omega) ?_; rintro A3 c3 w3 hown3 hb3)
            go_roundw
            case rel => exact ⟨k + 1, m + 1 + 1, A3, c3, true, O ++ [x] ++ [y], by omega, by go_num, rfl, by omega, rfl, HP.out.upper HY.out HE.out, by rw [List.length_append, List.length_append, HM.out]; rfl, hown3, (below_dn hbel2 _).trans hb3⟩
            case measure => simp [intOf]; omega
      · have hgt := HP.out.great HR.out HY.out
        have t2 : (y.key != x.key) = true := by rw [bne_iff_ne]; omega
        have t1 : decide (x.key ≤ y.key) = true := decide_eq_true (by omega)
        clear hgt
        go_wp2
        go_quiet (fail)
        go_wp2
        go_quiet (fail)
        go_wp2_with (refine push_law rfl (.tmp 38) (.tmp 43) rfl w1.heap.size rfl rfl (HOD.out _) (by omega) (by show w1.heap.size ≤ wr.heap.size; omega) ?_; rintro A2 c2 w2 hown2 hb2)
        go_roundw
        case rel => exact ⟨k + 1, m + 1, A2, c2, true, O ++ [y], by omega, by go_num, rfl, by omega, rfl, HP.out.more HY.out, by rw [List.length_append, HM.out]; rfl, hown2, (HBD.out _).trans hb2⟩
        case measure => simp [intOf]; omega
    · have hkn : l.length ≤ k := by have := HL.out; omega
      have HKN := Lib.hid hkn
      clear hkn
      cases p
      · go_wp2_with (refine push_law (y := x) rfl (.tmp 47) (.tmp 49) rfl w1.heap.size rfl rfl hown (by omega) (by omega) ?_; rintro A2 c2 w2 hown2 hb2)
        go_ret
        refine ⟨A2, m + 1, c2, rfl, ?_, ?_, HB1.out.trans ((hbel.trans hb2).mono (by omega))⟩
        · rw [← HP.out.endF HKN.out, List.length_append, HM.out]; rfl
        · rw [← HP.out.endF HKN.out]; exact own_mono hown2 (by omega)
      · go_wp2
        go_ret
        refine ⟨A1, m, c1, rfl, ?_, ?_, HB1.out.trans (hbel.mono (by omega))⟩
        · rw [← HP.out.endT HKN.out, HM.out]
        · rw [← HP.out.endT HKN.out]; exact own_mono hown (by omega)
end Go.Proofs.Ytkabkpeamggnnaa

namespace Go.Proofs.Ytkabkpeamggnnaa
set_option linter.unusedVariables false
set_option linter.unusedSimpArgs false
open Go.RowKit

theorem own_below {w w' : World} {base e size n : Nat} {v : Value} {xs : List Value} (h : w.ownsRow base e size v n xs) (hb : Below w.heap.size w w') : w'.ownsRow base e size v n xs := by
  refine ⟨h.1, ?_⟩
  rcases h.2 with h0 | ⟨g, cap, cur, hv, hbg, hg, rest⟩
  · exact .inl h0
  · exact .inr ⟨g, cap, cur, hv, hbg, (hb.block g (lt_of_block hg)).trans hg, rest⟩

theorem cells_alloc {w : World} {o : Obj} {b a0 a1 a2 : Nat} {v0 v1 v2 : Value} (hb : b < w.heap.size) (e0 : w.cell? ⟨b, a0, none⟩ = some v0) (e1 : w.cell? ⟨b, a1, none⟩ = some v1) (e2 : w.cell? ⟨b, a2, none⟩ = some v2) :
    (w.alloc o).cell? ⟨b, a0, none⟩ = some v0 ∧ (w.alloc o).cell? ⟨b, a1, none⟩ = some v1 ∧ (w.alloc o).cell? ⟨b, a2, none⟩ = some v2 :=
  ⟨(World.cell?_alloc_lt w o ⟨b, a0, none⟩ hb).trans e0, (World.cell?_alloc_lt w o ⟨b, a1, none⟩ hb).trans e1, (World.cell?_alloc_lt w o ⟨b, a2, none⟩ hb).trans e2⟩
/-- a step of Join, when nothing is there, or what is above -/
theorem step_put {O : List Ent} {y : Ent} (h : E.get O y.key = none ∨ ∃ x, E.get O y.key = some x ∧ E.above y x = true) : E.step O y = E.put O y := by
  unfold E.step
  rcases h with h | ⟨x, h, h2⟩
  · rw [h]
  · rw [h]; simp [h2]
theorem step_stay {O : List Ent} {x y : Ent} (h : E.get O y.key = some x) (h2 : E.above y x = false) : E.step O y = O := by
  unfold E.step
  rw [h]; simp [h2]
theorem join_more (l : List Ent) {r : List Ent} {k : Nat} {y : Ent} (h : r[k]? = some y) : E.join l (r.take (k + 1)) = E.step (E.join l (r.take k)) y := by rw [take_more h, E.join_snoc]

set_option maxHeartbeats 4000000 in
set_option maxRecDepth 20000 in
theorem rjoin_any (l r : List Ent) (A A' : Option Addr) (n n' c c' B B' : Nat) (w : World) (h : Rd w B 3 A n (EC l)) (hB : B ≤ w.heap.size) (h' : Rd w B' 3 A' n' (EC r)) (hB' : B' ≤ w.heap.size) (hn : n ≤ 500000) (hn' : n' ≤ 500000) (hrise : E.rising l) :
    Calls Try.prog 72 #[.slice A n c, .slice A' n' c'] w (Made w (E.join l r)) := by
  have hl := h.lenE
  have hl' := h'.lenE
  have HL := Lib.hid hl
  have HL' := Lib.hid hl'
  have HR := Lib.hid hrise
  clear hl hl' hrise
  go_enter Try.func72, Try.ntmps72
  have hlit : (w.alloc (.cells #[] 58)).ownsRow w.heap.size 58 3 (.slice (some ⟨w.heap.size, 0, none⟩) 0 0) 0 [] := World.ownsRow_lit w #[] 0 (Nat.le_refl _) (by unfold maxLen; omega) rfl
  go_wp2_with (at_builtin; refine app_law0 enT rfl (.tmp 9) (.tmp 10) rfl w.heap.size rfl hlit rfl (h.alloc hB _) (EC_one l) (by omega) (by omega) (by simp) ?_; rintro A1 c1 w1 ⟨hown1, hg1, _, _⟩)
  have hbel1 : Below w.heap.size w w1 := below_app ((Below.refl _ _).alloc (Nat.le_refl _) _) hlit hg1 (Nat.le_refl _) (by simp)
  have HB1 := Lib.hid hbel1
  clear hlit hg1
  go_loopw [5, 6] (fun s i wr => ∃ (k m : Nat) (A2 : Option Addr) (c2 : Nat) (O : List Ent), k ≤ n' ∧ i = .int .i64 k ∧ s = .slice A2 m c2 ∧ O = E.join l (r.take k) ∧ m = O.length ∧ E.rising O ∧
      wr.ownsRow w.heap.size 58 3 (.slice A2 m c2) m (EC O) ∧ Below w.heap.size w wr) (fun _ i _ => n' - (intOf i).toNat)
  case atStart => exact ⟨0, n, A1, c1, l, by omega, rfl, rfl, rfl, HL.out.symm, HR.out, hown1, HB1.out⟩
  case round =>
    obtain ⟨k, m, A2, c2, O, hk, rfl, rfl, hO, hm, hro, hown, hbel⟩ := hrel
    have HO := Lib.hid hO
    have HM := Lib.hid hm
    have HRO := Lib.hid hro
    have hml : m ≤ n + k := by
      have := E.join_length l (r.take k)
      rw [← hO, ← hm, List.length_take] at this
      have := HL.out
      omega
    have hbs := hbel.size
    clear hO hm hro
    by_cases hlt : k < n'
    · obtain ⟨b, o, y, e, hb, hy, d0, d1, d2⟩ := (h'.below (hbel.mono hB')).atE hlt
      subst e
      have HY := Lib.hid hy
      clear hy
      have hk0 : (0 : Int) ≤ (k : Int) := by omega
      go_wp2_with fail
      refine (rget_any O y.key A2 m c2 _ wr (Rd.of_own hown) (Nat.le_refl _) (by omega)).mono ?_
      rintro e w2 ⟨rfl, hb2⟩
      have hown2 := own_below hown hb2
      have hbel2 := hbel.trans (hb2.mono hbs)
      have e0 := (hb2.cell (p := ⟨b, o + k * 3, none⟩) (by show b < wr.heap.size; omega)).trans d0
      have e1 := (hb2.cell (p := ⟨b, o + k * 3 + 1, none⟩) (by show b < wr.heap.size; omega)).trans d1
      have e2 := (hb2.cell (p := ⟨b, o + k * 3 + 2, none⟩) (by show b < wr.heap.size; omega)).trans d2
      have hbs2 := hbel2.size
      clear hown hbel hb2 d0 d1 d2 hbs
      rcases hg : E.get O y.key with _ | x
      · have hst := step_put (Or.inl hg)
        have HST := Lib.hid hst
        clear hst hg
        simp only [getV, Option.isSome]
        obtain ⟨f0, f1, f2⟩ := cells_alloc (o := .cells #[.int .i64 0, .int .i64 0, .string ⟨#[]⟩] 58) (by omega) e0 e1 e2
        clear e0 e1 e2
        go_wp2
        go_quiet (fail)
        go_wp2_with fail
        refine (rput_any O y A2 m c2 _ _ (((Rd.of_own hown2).alloc (Nat.le_refl _) _).drewN _) (by show w2.heap.size ≤ (w2.alloc _).heap.size; simp) (by omega) HRO.out).mono ?_
        rintro e w3 ⟨A3, m3, c3, rfl, hm3, hown3, hb3⟩
        have hb3' : Below w.heap.size w w3 := (below_dn (hbel2.alloc hbs2 _) _).trans (hb3.mono (by show w.heap.size ≤ (w2.alloc _).heap.size; simp; omega))
        have HM3 := Lib.hid hm3
        clear hm3
        go_wp2
        go_roundw
        case rel => exact ⟨k + 1, m3, A3, c3, E.put O y, by omega, by go_num, rfl, by rw [join_more l HY.out, ← HO.out, HST.out], HM3.out, E.put_rising HRO.out y, own_mono hown3 (by show w.heap.size ≤ (w2.alloc _).heap.size; simp; omega), hb3'⟩
        case measure => simp [intOf]; omega
      · have HG := Lib.hid hg
        clear hg
        simp only [getV, Option.isSome, ev]
        obtain ⟨f0, f1, f2⟩ := cells_alloc (o := .cells #[.int .i64 x.key, .int .i64 x.ver, .string (strB x.val)] 58) (by omega) e0 e1 e2
        have X3 := Box.new w2 #[.int .i64 x.key, .int .i64 x.ver, .string (strB x.val)] 58
        have hown3 := hown2.alloc (.cells #[.int .i64 x.key, .int .i64 x.ver, .string (strB x.val)] 58)
        have hbel3 := hbel2.alloc hbs2 (.cells #[.int .i64 x.key, .int .i64 x.ver, .string (strB x.val)] 58)
        have hs3 : w2.heap.size < (w2.alloc (.cells #[.int .i64 x.key, .int .i64 x.ver, .string (strB x.val)] 58)).heap.size := by simp
        clear e0 e1 e2 hown2 hbel2
        go_wp2
        generalize w2.alloc (.cells #[.int .i64 x.key, .int .i64 x.ver, .string (strB x.val)] 58) = w3 at *
        have g0 := X3.at 0 rfl
        have g1 := X3.at 1 rfl
        have g2 := X3.at 2 rfl
        have cm := fun w => rabove_any y x w
        rcases hab : E.above y x
        all_goals
          rw [hab] at cm
          have CM := Lib.hid cm
          have HAB := Lib.hid hab
          clear cm hab
        · skip
          refine wp_region_held_drew (S := (fun w' => (w'.cell? ⟨b, o + k * 3, none⟩ = some (.int .i64 y.key) ∧ w'.cell? ⟨b, o + k * 3 + 1, none⟩ = some (.int .i64 y.ver) ∧ w'.cell? ⟨b, o + k * 3 + 2, none⟩ = some (.string (strB y.val))) ∧ w'.cell? ⟨w2.heap.size, 0, none⟩ = some (.int .i64 x.key) ∧ w'.cell? ⟨w2.heap.size, 1, none⟩ = some (.int .i64 x.ver) ∧ w'.cell? ⟨w2.heap.size, 2, none⟩ = some (.string (strB x.val)))) (by kernel_rfl) (by first | exact ⟨⟨f0, f1, f2⟩, g0, g1, g2⟩ | exact ⟨⟨d0.trans f0, d1.trans f1, d2.trans f2⟩, p0.trans g0, p1.trans g1, p2.trans g2⟩) (fun hHeld0 => ?_)
          refine wpAnyH_take (i := 0) (oi := ⟨some 28, _, _, _, _, _⟩) (v := ?_) rfl (by kernel_rfl) (by kernel_rfl) (by kernel_rfl) (fun _ _ _ h => h) (Or.inl ⟨by rfl, ?_⟩) hHeld0 ?_
          rotate_left
          · (intro w' hSw; (try dsimp only at hSw); go_simp; all_goals (with_reducible rfl))
          try simp only [Act.put, sA, sB, sC]
          refine wpAnyH_take (i := 1) (oi := ⟨some 29, _, _, _, _, _⟩) (v := ?_) rfl (by kernel_rfl) (by kernel_rfl) (by kernel_rfl) (fun _ _ _ h => h) (Or.inl ⟨by rfl, ?_⟩) hHeld0 ?_
          rotate_left
          · (intro w' hSw; (try dsimp only at hSw); go_simp; all_goals (with_reducible rfl))
          try simp only [Act.put, sA, sB, sC]
          refine wpAnyH_take (i := 2) (oi := ⟨some 30, _, _, _, _, _⟩) (v := ?_) rfl (by kernel_rfl) (by kernel_rfl) (by kernel_rfl) (fun _ _ _ h => h) (Or.inl ⟨by rfl, ?_⟩) hHeld0 ?_
          rotate_left
          · (intro w' hSw; (try dsimp only at hSw); go_simp; all_goals (with_reducible rfl))
          try simp only [Act.put, sA, sB, sC]
          refine wpAnyH_take (i := 3) (oi := ⟨some 31, _, _, _, _, _⟩) (v := ?_) rfl (by kernel_rfl) (by kernel_rfl) (by kernel_rfl) (fun _ _ _ h => h) (Or.inl ⟨by rfl, ?_⟩) hHeld0 ?_
          rotate_left
          · (intro w' hSw; (try dsimp only at hSw); go_simp; all_goals (with_reducible rfl))
          try simp only [Act.put, sA, sB, sC]
          refine wpAnyH_take (i := 4) (oi := ⟨some 32, _, _, _, _, _⟩) (v := ?_) rfl (by kernel_rfl) (by kernel_rfl) (by kernel_rfl) (fun _ _ _ h => h) (Or.inl ⟨by rfl, ?_⟩) hHeld0 ?_
          rotate_left
          · (intro w' hSw; (try dsimp only at hSw); go_simp; all_goals (with_reducible rfl))
          try simp only [Act.put, sA, sB, sC]
          refine wpAnyH_take (i := 5) (oi := ⟨some 33, _, _, _, _, _⟩) (v := ?_) rfl (by kernel_rfl) (by kernel_rfl) (by kernel_rfl) (fun _ _ _ h => h) (Or.inl ⟨by rfl, ?_⟩) hHeld0 ?_
          rotate_left
          · (intro w' hSw; (try dsimp only at hSw); go_simp; all_goals (with_reducible rfl))
          try simp only [Act.put, sA, sB, sC]
          refine wpAnyH_take (i := 6) (oi := ⟨some 34, _, _, _, _, _⟩) (v := ?_) rfl (by kernel_rfl) (by kernel_rfl) (by kernel_rfl) (fun _ _ _ h => h) (Or.inl ⟨by rfl, ?_⟩) hHeld0 ?_
          rotate_left
          · (intro w' hSw; (try dsimp only at hSw); go_simp; all_goals (with_reducible rfl))
          try simp only [Act.put, sA, sB, sC]
          refine wpAnyH_take (i := 7) (oi := ⟨some 35, _, _, _, _, _⟩) (v := ?_) rfl (by kernel_rfl) (by kernel_rfl) (by kernel_rfl) (fun _ _ _ h => h) (Or.inl ⟨by rfl, ?_⟩) hHeld0 ?_
          rotate_left
          · (intro w' hSw; (try dsimp only at hSw); go_simp; all_goals (with_reducible rfl))
          try simp only [Act.put, sA, sB, sC]
          refine wpAnyH_ready (rs := [8]) (by kernel_rfl) (by simp) (AllReadyH.cons (o := ⟨some 36, _, _, _, _, _⟩) rfl (fun K hK => ?_) AllReadyH.nil)
          go_simp
          (refine (CM.out _).mono ?_; rintro e w4 ⟨rfl, hb4⟩; have d0 := hb4.cell (p := ⟨b, o + k * 3, none⟩) (by show b < w3.heap.size; omega); have d1 := hb4.cell (p := ⟨b, o + k * 3 + 1, none⟩) (by show b < w3.heap.size; omega); have d2 := hb4.cell (p := ⟨b, o + k * 3 + 2, none⟩) (by show b < w3.heap.size; omega); have p0 := hb4.cell (p := ⟨w2.heap.size, 0, none⟩) hs3; have p1 := hb4.cell (p := ⟨w2.heap.size, 1, none⟩) hs3; have p2 := hb4.cell (p := ⟨w2.heap.size, 2, none⟩) hs3)
          go_simp
          refine hK.out _ _ (by first | exact ⟨⟨f0, f1, f2⟩, g0, g1, g2⟩ | exact ⟨⟨d0.trans f0, d1.trans f1, d2.trans f2⟩, p0.trans g0, p1.trans g1, p2.trans g2⟩) (fun hHeld1 => ?_)
          clear hK hHeld0 K
          try simp only [Act.put, sA, sB, sC]
          refine wpAnyH_take (i := 9) (oi := ⟨some 37, _, _, _, _, _⟩) (v := ?_) rfl (by kernel_rfl) (by kernel_rfl) (by kernel_rfl) (fun _ _ _ h => h) (Or.inl ⟨by rfl, ?_⟩) hHeld1 ?_
          rotate_left
          · (intro w' hSw; (try dsimp only at hSw); go_simp; all_goals (with_reducible rfl))
          try simp only [Act.put, sA, sB, sC]
          refine wpAnyH_done (by kernel_rfl) ?_ _
          have hbel4 := hbel3.drew.trans (hb4.mono (by show w.heap.size ≤ w3.heap.size; omega))
          have hown4 := own_below hown3.drew hb4
          have hst := step_stay HG.out HAB.out
          have HST := Lib.hid hst
          clear hst
          go_wp2
          go_roundw
          case rel => exact ⟨k + 1, m, A2, c2, O, by omega, by go_num, rfl, by rw [join_more l HY.out, ← HO.out, HST.out], HM.out, HRO.out, hown4, hbel4⟩
          case measure => simp [intOf]; omega
        · skip
          refine wp_region_held_drew (S := (fun w' => (w'.cell? ⟨b, o + k * 3, none⟩ = some (.int .i64 y.key) ∧ w'.cell? ⟨b, o + k * 3 + 1, none⟩ = some (.int .i64 y.ver) ∧ w'.cell? ⟨b, o + k * 3 + 2, none⟩ = some (.string (strB y.val))) ∧ w'.cell? ⟨w2.heap.size, 0, none⟩ = some (.int .i64 x.key) ∧ w'.cell? ⟨w2.heap.size, 1, none⟩ = some (.int .i64 x.ver) ∧ w'.cell? ⟨w2.heap.size, 2, none⟩ = some (.string (strB x.val)))) (by kernel_rfl) (by first | exact ⟨⟨f0, f1, f2⟩, g0, g1, g2⟩ | exact ⟨⟨d0.trans f0, d1.trans f1, d2.trans f2⟩, p0.trans g0, p1.trans g1, p2.trans g2⟩) (fun hHeld0 => ?_)
          refine wpAnyH_take (i := 0) (oi := ⟨some 28, _, _, _, _, _⟩) (v := ?_) rfl (by kernel_rfl) (by kernel_rfl) (by kernel_rfl) (fun _ _ _ h => h) (Or.inl ⟨by rfl, ?_⟩) hHeld0 ?_
          rotate_left
          · (intro w' hSw; (try dsimp only at hSw); go_simp; all_goals (with_reducible rfl))
          try simp only [Act.put, sA, sB, sC]
          refine wpAnyH_take (i := 1) (oi := ⟨some 29, _, _, _, _, _⟩) (v := ?_) rfl (by kernel_rfl) (by kernel_rfl) (by kernel_rfl) (fun _ _ _ h => h) (Or.inl ⟨by rfl, ?_⟩) hHeld0 ?_
          rotate_left
          · (intro w' hSw; (try dsimp only at hSw); go_simp; all_goals (with_reducible rfl))
          try simp only [Act.put, sA, sB, sC]
          refine wpAnyH_take (i := 2) (oi := ⟨some 30, _, _, _, _, _⟩) (v := ?_) rfl (by kernel_rfl) (by kernel_rfl) (by kernel_rfl) (fun _ _ _ h => h) (Or.inl ⟨by rfl, ?_⟩) hHeld0 ?_
          rotate_left
          · (intro w' hSw; (try dsimp only at hSw); go_simp; all_goals (with_reducible rfl))
          try simp only [Act.put, sA, sB, sC]
          refine wpAnyH_take (i := 3) (oi := ⟨some 31, _, _, _, _, _⟩) (v := ?_) rfl (by kernel_rfl) (by kernel_rfl) (by kernel_rfl) (fun _ _ _ h => h) (Or.inl ⟨by rfl, ?_⟩) hHeld0 ?_
          rotate_left
          · (intro w' hSw; (try dsimp only at hSw); go_simp; all_goals (with_reducible rfl))
          try simp only [Act.put, sA, sB, sC]
          refine wpAnyH_take (i := 4) (oi := ⟨some 32, _, _, _, _, _⟩) (v := ?_) rfl (by kernel_rfl) (by kernel_rfl) (by kernel_rfl) (fun _ _ _ h => h) (Or.inl ⟨by rfl, ?_⟩) hHeld0 ?_
          rotate_left
          · (intro w' hSw; (try dsimp only at hSw); go_simp; all_goals (with_reducible rfl))
          try simp only [Act.put, sA, sB, sC]
          refine wpAnyH_take (i := 5) (oi := ⟨some 33, _, _, _, _, _⟩) (v := ?_) rfl (by kernel_rfl) (by kernel_rfl) (by kernel_rfl) (fun _ _ _ h => h) (Or.inl ⟨by rfl, ?_⟩) hHeld0 ?_
          rotate_left
          · (intro w' hSw; (try dsimp only at hSw); go_simp; all_goals (with_reducible rfl))
          try simp only [Act.put, sA, sB, sC]
          refine wpAnyH_take (i := 6) (oi := ⟨some 34, _, _, _, _, _⟩) (v := ?_) rfl (by kernel_rfl) (by kernel_rfl) (by kernel_rfl) (fun _ _ _ h => h) (Or.inl ⟨by rfl, ?_⟩) hHeld0 ?_
          rotate_left
          · (intro w' hSw; (try dsimp only at hSw); go_simp; all_goals (with_reducible rfl))
          try simp only [Act.put, sA, sB, sC]
          refine wpAnyH_take (i := 7) (oi := ⟨some 35, _, _, _, _, _⟩) (v := ?_) rfl (by kernel_rfl) (by kernel_rfl) (by kernel_rfl) (fun _ _ _ h => h) (Or.inl ⟨by rfl, ?_⟩) hHeld0 ?_
          rotate_left
          · (intro w' hSw; (try dsimp only at hSw); go_simp; all_goals (with_reducible rfl))
          try simp only [Act.put, sA, sB, sC]
          refine wpAnyH_ready (rs := [8]) (by kernel_rfl) (by simp) (AllReadyH.cons (o := ⟨some 36, _, _, _, _, _⟩) rfl (fun K hK => ?_) AllReadyH.nil)
          go_simp
          (refine (CM.out _).mono ?_; rintro e w4 ⟨rfl, hb4⟩; have d0 := hb4.cell (p := ⟨b, o + k * 3, none⟩) (by show b < w3.heap.size; omega); have d1 := hb4.cell (p := ⟨b, o + k * 3 + 1, none⟩) (by show b < w3.heap.size; omega); have d2 := hb4.cell (p := ⟨b, o + k * 3 + 2, none⟩) (by show b < w3.heap.size; omega); have p0 := hb4.cell (p := ⟨w2.heap.size, 0, none⟩) hs3; have p1 := hb4.cell (p := ⟨w2.heap.size, 1, none⟩) hs3; have p2 := hb4.cell (p := ⟨w2.heap.size, 2, none⟩) hs3)
          go_simp
          refine hK.out _ _ (by first | exact ⟨⟨f0, f1, f2⟩, g0, g1, g2⟩ | exact ⟨⟨d0.trans f0, d1.trans f1, d2.trans f2⟩, p0.trans g0, p1.trans g1, p2.trans g2⟩) (fun hHeld1 => ?_)
          clear hK hHeld0 K
          try simp only [Act.put, sA, sB, sC]
          refine wpAnyH_take (i := 9) (oi := ⟨some 37, _, _, _, _, _⟩) (v := ?_) rfl (by kernel_rfl) (by kernel_rfl) (by kernel_rfl) (fun _ _ _ h => h) (Or.inl ⟨by rfl, ?_⟩) hHeld1 ?_
          rotate_left
          · (intro w' hSw; (try dsimp only at hSw); go_simp; all_goals (with_reducible rfl))
          try simp only [Act.put, sA, sB, sC]
          refine wpAnyH_done (by kernel_rfl) ?_ _
          have hbel4 := hbel3.drew.trans (hb4.mono (by show w.heap.size ≤ w3.heap.size; omega))
          have hown4 := own_below hown3.drew hb4
          have hst := step_put (Or.inr ⟨x, HG.out, HAB.out⟩)
          have HST := Lib.hid hst
          have hbs4 := hbel4.size
          have q0 := d0.trans f0
          have q1 := d1.trans f1
          have q2 := d2.trans f2
          clear hst d0 d1 d2 f0 f1 f2 g0 g1 g2 p0 p1 p2 hHeld1
          go_wp2_with fail
          refine (rput_any O y A2 m c2 _ _ (Rd.of_own hown4) (Nat.le_refl _) (by omega) HRO.out).mono ?_
          rintro e w5 ⟨A3, m3, c3, rfl, hm3, hown5, hb5⟩
          have HM3 := Lib.hid hm3
          clear hm3
          go_wp2
          go_roundw
          case rel => exact ⟨k + 1, m3, A3, c3, E.put O y, by omega, by go_num, rfl, by rw [join_more l HY.out, ← HO.out, HST.out], HM3.out, E.put_rising HRO.out y, own_mono hown5 hbs4, hbel4.trans (hb5.mono hbs4)⟩
          case measure => simp [intOf]; omega
    · have he : r.take k = r := List.take_of_length_le (by have := HL'.out; omega)
      have HE := Lib.hid he
      clear he
      go_wp2
      go_ret
      have h1 := HO.out
      rw [HE.out] at h1
      subst h1
      exact ⟨A2, m, c2, rfl, HM.out, hown, hbel⟩

noncomputable def rightB (l : List Ent) : Bool := open Classical in decide (E.right l)
theorem rightB_iff {l : List Ent} {b : Bool} (h : b = true ↔ E.right l) : b = rightB l := by
  unfold rightB
  by_cases hr : E.right l
  · rw [h.2 hr]; simp [hr]
  · cases b
    · simp [hr]
    · exact absurd (h.1 rfl) hr
theorem rightB_no {l : List Ent} (h : ¬ E.right l) : rightB l = false := (rightB_iff (b := false) ⟨(fun e => by cases e), fun hr => absurd hr h⟩).symm
theorem rightB_yes {l : List Ent} (h : E.right l) : rightB l = true := (rightB_iff (b := true) ⟨fun _ => h, fun _ => rfl⟩).symm
theorem rightB_out {l : List Ent} (h : rightB l = true) : E.right l := by
  by_cases hr : E.right l
  · exact hr
  · rw [rightB_no hr] at h; cases h
theorem rright_any (l : List Ent) (A : Option Addr) (n c B : Nat) (w : World) (h : Rd w B 3 A n (EC l)) (hB : B ≤ w.heap.size) (hn : n * 32 ≤ 140737488351232) :
    Calls Try.prog 57 #[.slice A n c] w fun e w' => e = .returned (.bool (rightB l)) ∧ Below w.heap.size w w' :=
  (rright_t l A n c B w h hB hn).mono fun e w' ⟨⟨b, he, hb⟩, hw⟩ => ⟨by rw [he, rightB_iff hb], hw⟩

end Go.Proofs.Ytkabkpeamggnnaa

