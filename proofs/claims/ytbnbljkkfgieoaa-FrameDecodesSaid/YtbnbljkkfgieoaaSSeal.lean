/- layer 2's laid, bytes.Clone, layer 2's Seal, layer 2's Open, layer 2's Turn and their references. -/
import Derived.Test.YtbnbljkkfgieoaaSSum
import Derived.Deep.RegionHeld3
import Derived.Laws.NewBlocks
import Derived.Handy
import Derived.Stop.BytesEq
import Derived.Laws.Cover3
namespace Go.Proofs.Ytbnbljkkfgieoaa
open Go.RowKit

/-- the object of four bytes -/
def o4 (a b c d : Int) : Obj := .cells #[.int .u8 a, .int .u8 b, .int .u8 c, .int .u8 d] 54
set_option maxHeartbeats 800000 in
theorem laid_any (s : Nat) (hs : s < 4294967296) (w : World) :
    Calls Try.prog 34 #[.int .u32 s] w fun e w' => e = .returned (.agg #[.int .u8 (s % 256), .int .u8 (s / 256 % 256), .int .u8 (s / 65536 % 256), .int .u8 (s / 16777216)]) ∧ Below w.heap.size w w' := by
  go_enter Try.func34, Try.ntmps34
  go_wp2
  go_loopw [5] (fun i wr => i = .int .i64 0 ∧ wr = (w.alloc (o4 0 0 0 0)).alloc (o4 0 0 0 0) ∨ i = .int .i64 1 ∧ wr = (w.alloc (o4 0 0 0 0)).alloc (o4 (s % 256) 0 0 0)
    ∨ i = .int .i64 2 ∧ wr = (w.alloc (o4 0 0 0 0)).alloc (o4 (s % 256) (s / 256 % 256) 0 0) ∨ i = .int .i64 3 ∧ wr = (w.alloc (o4 0 0 0 0)).alloc (o4 (s % 256) (s / 256 % 256) (s / 65536 % 256) 0)
    ∨ i = .int .i64 4 ∧ wr = (w.alloc (o4 0 0 0 0)).alloc (o4 (s % 256) (s / 256 % 256) (s / 65536 % 256) (s / 16777216))) (fun i _ => 4 - (intOf i).toNat)
  case atStart => exact Or.inl ⟨rfl, rfl⟩
  case round =>
    rcases hrel with ⟨rfl, rfl⟩ | ⟨rfl, rfl⟩ | ⟨rfl, rfl⟩ | ⟨rfl, rfl⟩ | ⟨rfl, rfl⟩
    · simp only [o4]; go_wp2; go_roundw
      case rel => exact Or.inr (Or.inl ⟨rfl, trivial⟩)
      case measure => simp [intOf]
    · simp only [o4]; go_wp2; go_roundw
      case rel => exact Or.inr (Or.inr (Or.inl ⟨rfl, trivial⟩))
      case measure => simp [intOf]
    · simp only [o4]; go_wp2; go_roundw
      case rel => exact Or.inr (Or.inr (Or.inr (Or.inl ⟨rfl, trivial⟩)))
      case measure => simp [intOf]
    · simp only [o4]; go_wp2; go_roundw
      case rel => exact Or.inr (Or.inr (Or.inr (Or.inr ⟨rfl, trivial⟩)))
      case measure => simp [intOf]
    · simp only [o4]; go_wp2
      go_returns
      exact ⟨rfl, ((Below.refl _ _).alloc (Nat.le_refl _) _).alloc (by simp) _⟩

theorem lit0 (w : World) : (w.alloc (.cells #[] 5)).ownsRow w.heap.size 5 1 (.slice (some ⟨w.heap.size, 0, none⟩) 0 0) 0 [] := by
  have := World.ownsRow_lit (base := w.heap.size) (e := 5) (size := 1) w #[] 0 (Nat.le_refl _) (by decide) rfl
  simpa using this

set_option maxHeartbeats 800000 in
theorem clone_any (A : Option Addr) (n c B : Nat) (l : List UInt8) (w : World) (h : Rd w B 1 A n (U l)) (hB : B ≤ w.heap.size) (hn : n ≤ 70368744177664) :
    Calls Try.prog 38 #[.slice A n c] w fun e w' => ∃ A' c', e = .returned (.slice A' n c') ∧ w'.ownsRow w.heap.size 5 1 (.slice A' n c') n (U l) ∧ Below w.heap.size w w' := by
  rcases A with _ | a
  · rcases h.shape with ⟨h0, hl⟩ | ⟨_, b, o, e⟩
    · subst h0
      rw [hl]
      clear hl h
      have hnil := Lib.run_eql_slice_nil (P := Try.prog) w 22 5 none 0 c 0 0 Try.underlying22
      go_enter Try.func38, Try.ntmps38
      go_wp2
      go_ret
      exact ⟨none, 0, rfl, World.ownsRow_nil _ _ _ _, Below.refl _ _⟩
    · cases e
  · have hnil := Lib.run_eql_slice_nil (P := Try.prog) w 22 5 (some a) n c 0 0 Try.underlying22
    go_enter Try.func38, Try.ntmps38
    go_wp2_with (at_builtin; refine app_law0 u8T rfl (.tmp 5) (.tmp 6) rfl w.heap.size rfl (lit0 w) rfl (h.alloc hB _) (U_one _) (by omega) (by omega) (by simp) ?_; rintro A1 c1 w1 ⟨hown1, hg1, _, hold1⟩)
    go_ret
    exact ⟨A1, c1, rfl, hown1, below_app ((Below.refl w.heap.size w).alloc (Nat.le_refl _) _) (lit0 w) hg1 (Nat.le_refl _) (by simp)⟩

theorem four_cells {s : Nat} (hs : s < 4294967296) : [Value.int .u8 (s % 256 : Int), .int .u8 (s / 256 % 256 : Int), .int .u8 (s / 65536 % 256 : Int), .int .u8 (s / 16777216 : Int)] = U (S.four s) := by
  simp only [S.four, U, List.map_cons, List.map_nil, UInt8.toNat_ofNat']
  have e : s / 16777216 % 2 ^ 8 = s / 16777216 := Nat.mod_eq_of_lt (by omega)
  rw [e]; rfl

set_option maxHeartbeats 800000 in
theorem seal_any (A : Option Addr) (n c B : Nat) (l : List UInt8) (w : World) (h : Rd w B 1 A n (U l)) (hB : B ≤ w.heap.size) (hn : n ≤ 35184372088832) :
    Calls Try.prog 20 #[.slice A n c] w fun e w' => ∃ A' c', e = .returned (.slice A' (n + 4) c') ∧ w'.ownsRow w.heap.size 5 1 (.slice A' (n + 4) c') (n + 4) (U (S.sealed l)) ∧ Below w.heap.size w w' := by
  have hsum := S.sum_lt l
  go_enter Try.func20, Try.ntmps20
  go_wp2_with (first
    | (go_at_call 35; refine (sum_any A n c B l _ h (by omega)).mono ?_; rintro e w' ⟨rfl, rfl⟩)
    | (go_at_call 34; refine (laid_any _ hsum _).mono ?_; rintro e w1 ⟨rfl, hbel1⟩)
    | (at_make; refine make0_law u8T rfl _ _ rfl (w1.heap.size + 1) rfl rfl (by omega) (by omega) (by omega) (by simp) ?_; intro A1 c1 w2 hown1 hg1))
  have hs1 := hbel1.size
  have hs2 := hg1.size
  have hs2 : w1.heap.size + 1 ≤ w2.heap.size := by simpa using hs2
  have hr2 : Rd w2 (w1.heap.size + 1) 1 A n (U l) := (((h.more hB).below hbel1)|>.alloc hs1 _ |>.more (by omega)).grown hg1 (by simp) (by simp)
  have hr3 : Rd w2 (w1.heap.size + 1) 1 (some ⟨w1.heap.size, 0, none⟩) 4 [.int .u8 (S.sum l % 256), .int .u8 (S.sum l / 256 % 256), .int .u8 (S.sum l / 65536 % 256), .int .u8 (S.sum l / 16777216)] := (Rd.lit w1 _ _ 1 4 rfl).grown hg1 (by simp) (by simp)
  have hb2 : Below w.heap.size w w2 := (hbel1.alloc hs1 _).grown hg1 (by simp; omega) (by simp)
  go_region_held3 (fun _ => True) (trivial)
    (first
    | (refine step_app_law u8T (by rfl) (.tmp 12) (.tmp 13) (by rfl) (w1.heap.size + 1) rfl hown1 rfl hr2 (U_one _) (by omega) (by omega) (by show _ ≤ w2.heap.size; omega) ?_; rintro A3 c3 w3 ⟨hown3, hg3, _, hold3⟩)
    | (refine step_app_law u8T (by rfl) (.tmp 14) (.tmp 15) (by rfl) (w1.heap.size + 1) rfl hown3 rfl (hr3.drew.grown hg3 hs2 (by intro k hk; have := (hown1.lt k hk).1; omega)) (by simp [Value.oneCell']) (by omega) (by omega) (by have h7 : w2.heap.size ≤ w3.heap.size := hg3.size; show _ ≤ w3.heap.size; omega) ?_; rintro A4 c4 w4 ⟨hown4, hg4, _, hold4⟩))
  go_wp2
  go_ret
  have e4 := four_cells hsum
  refine ⟨A4, c4, rfl, ?_, ?_⟩
  · have h9 := own_mono hown4 (base' := w.heap.size) (by omega)
    rw [Nat.zero_add, List.nil_append, e4, ← U_append] at h9
    exact h9
  · refine below_app (below_app hb2.drew hown1 hg3 (by omega) hs2) hown3 hg4 (by omega) ?_
    have h7 : w2.heap.size ≤ w3.heap.size := hg3.size
    omega
theorem ret2 {a b c d : Value} (h1 : a = c) (h2 : b = d) : Ending.returned (.tuple #[a, b]) = .returned (.tuple #[c, d]) := by rw [h1, h2]

set_option maxHeartbeats 800000 in
theorem open_short (A : Option Addr) (n c : Nat) (w : World) (h4 : n < 4) :
    Calls Try.prog 25 #[.slice A n c] w fun e w' => e = .returned (.tuple #[.slice none 0 0, .int .i64 2]) ∧ w = w' := by
  go_enter Try.func25, Try.ntmps25
  go_wp2
  go_ret2
  exact ⟨rfl, rfl⟩

set_option maxHeartbeats 800000 in
theorem open_long (A : Option Addr) (n c B : Nat) (l : List UInt8) (w : World) (h : Rd w B 1 A n (U l)) (hB : B ≤ w.heap.size) (hc1 : n ≤ c) (hn : n ≤ 35184372088832) (h4 : 4 ≤ n) :
    Calls Try.prog 25 #[.slice A n c] w fun e w' => (S.ok l ∧ (∃ A' c', e = .returned (.tuple #[.slice A' (n - 4) c', .int .i64 0]) ∧ w'.ownsRow w.heap.size 5 1 (.slice A' (n - 4) c') (n - 4) (U (l.take (n - 4)))) ∨
      ¬ S.ok l ∧ e = .returned (.tuple #[.slice none 0 0, .int .i64 5])) ∧ Below w.heap.size w w' := by
  have hl : l.length = n := by have := h.len1; rwa [U_length] at this
  obtain ⟨b, o, e, hb, hcell⟩ := h.at1 (k := 0) (by omega)
  subst e
  obtain ⟨x0, x1, x2, x3, hx⟩ : ∃ x0 x1 x2 x3, l.drop (n - 4) = [x0, x1, x2, x3] := by
    have hd : (l.drop (n - 4)).length = 4 := by rw [List.length_drop]; omega
    match hm : l.drop (n - 4), hd with
    | [x0, x1, x2, x3], _ => exact ⟨x0, x1, x2, x3, rfl⟩
  have hk : ∀ j x, (l.drop (n - 4))[j]? = some x → w.cell? ⟨b, o + (n - 4) + j, none⟩ = some (.int .u8 (x.toNat : Int)) := by
    intro j x hj
    rw [List.getElem?_drop] at hj
    have hj2 : n - 4 + j < n := by have := (List.getElem?_eq_some_iff.1 hj).1; omega
    rw [Nat.add_assoc, hcell _ hj2, U_get, hj]; rfl
  rw [hx] at hk
  have k0 := hk 0 x0 rfl
  have k1 := hk 1 x1 rfl
  have k2 := hk 2 x2 rfl
  have k3 := hk 3 x3 rfl
  rw [Nat.add_zero] at k0
  have hcut := run_cut_h u8T w (some ⟨b, o, none⟩) n c (n - 4) ((n : Int) - 4) (by omega) (by omega)
  have hcut2 : ∀ w, (Instr.slice 22 (.slice (some ⟨b, o, none⟩) n c) (some (.int .i64 ((n - 4 : Nat) : Int))) none none).run Try.prog w = .ok (.slice (some ⟨b, o + (n - 4), none⟩) 4 (c - (n - 4))) w := by
    intro w
    have e1 := run_cut_l u8T w (some ⟨b, o, none⟩) n c (n - 4) ((n - 4 : Nat) : Int) rfl (by omega)
    have e2 : ¬ c = n - 4 := by omega
    rw [show n - (n - 4) = 4 by omega] at e1
    simpa [cutA, e2, Addr.add_mid] using e1
  have harr : ∀ w, (Instr.arrayAt 54 (.slice (some ⟨b, o + (n - 4), none⟩) 4 (c - (n - 4)))).run Try.prog w = .ok (.pointer (some ⟨b, o + (n - 4), none⟩)) w := fun w => run_arrayAt w 54 5 4 _ _ _ Try.underlying54 (Nat.le_refl _)
  have hr1 := h.take1 (k := n - 4) (by omega)
  rw [U_take] at hr1
  have hsum := S.sum_lt (l.take (n - 4))
  have heq4 : ∀ w, (Op.equalIn 10000 54 (.agg #[.int .u8 (S.sum (l.take (n - 4)) % 256 : Int), .int .u8 (S.sum (l.take (n - 4)) / 256 % 256 : Int), .int .u8 (S.sum (l.take (n - 4)) / 65536 % 256 : Int), .int .u8 (S.sum (l.take (n - 4)) / 16777216 : Int)])
      (.agg #[.int .u8 (x0.toNat : Int), .int .u8 (x1.toNat : Int), .int .u8 (x2.toNat : Int), .int .u8 (x3.toNat : Int)])).run Try.prog w = .ok (S.four (S.sum (l.take (n - 4))) == [x0, x1, x2, x3]) w := by
    intro w
    have e4 := congrArg List.toArray (four_cells hsum)
    rw [show (#[.int .u8 (S.sum (l.take (n - 4)) % 256 : Int), .int .u8 (S.sum (l.take (n - 4)) / 256 % 256 : Int), .int .u8 (S.sum (l.take (n - 4)) / 65536 % 256 : Int), .int .u8 (S.sum (l.take (n - 4)) / 16777216 : Int)] : Array Value) = (U (S.four (S.sum (l.take (n - 4))))).toArray from e4]
    exact run_equalIn_bytes w 9998 54 5 4 Try.underlying54 Try.underlying5 (fun w => u8T.run_size w) (S.four (S.sum (l.take (n - 4)))) [x0, x1, x2, x3] rfl rfl
  have HX := Lib.hid hx
  have HK := Lib.hid hk
  have HC := Lib.hid hcell
  have HL := Lib.hid hl
  clear hx hk hcell hl
  go_enter Try.func25, Try.ntmps25
  go_wp2
  go_region_held3 (fun w' => w'.cell? ⟨b, o + (n - 4), none⟩ = some (.int .u8 (x0.toNat : Int)) ∧ w'.cell? ⟨b, o + (n - 4) + 1, none⟩ = some (.int .u8 (x1.toNat : Int)) ∧
     w'.cell? ⟨b, o + (n - 4) + 2, none⟩ = some (.int .u8 (x2.toNat : Int)) ∧ w'.cell? ⟨b, o + (n - 4) + 3, none⟩ = some (.int .u8 (x3.toNat : Int))) (go_keep)
    (first
    | (go_at_call 35; refine (sum_any (some ⟨b, o, none⟩) (n - 4) c B (l.take (n - 4)) _ (by exact hr1) (by omega)).mono ?_; rintro e w' ⟨rfl, rfl⟩)
    | (go_at_call 34; refine (laid_any _ hsum _).mono ?_; rintro e w1 ⟨rfl, hbel1⟩; have k4 := hbel1.cell (p := ⟨b, o + (n - 4), none⟩) (by show b < w.heap.size; omega); have k5 := hbel1.cell (p := ⟨b, o + (n - 4) + 1, none⟩) (by show b < w.heap.size; omega); have k6 := hbel1.cell (p := ⟨b, o + (n - 4) + 2, none⟩) (by show b < w.heap.size; omega); have k7 := hbel1.cell (p := ⟨b, o + (n - 4) + 3, none⟩) (by show b < w.heap.size; omega)))
  all_goals
    have hs1 : w.heap.size ≤ w1.heap.size := hbel1.size
    have hb1 : Below w.heap.size w w1 := Below.trans (Below.refl _ w).drew hbel1
    by_cases hq : S.four (S.sum (l.take (n - 4))) = [x0, x1, x2, x3]
    · have hq2 : (S.four (S.sum (l.take (n - 4))) == [x0, x1, x2, x3]) = true := by rw [hq]; exact beq_self_eq_true _
      have HQ := Lib.hid hq
      simp only [hq2, Bool.not_true]
      clear hq hq2 heq4
      go_wp2_with (go_at_call 38; refine (clone_any (some ⟨b, o, none⟩) (n - 4) c B (l.take (n - 4)) _ (by exact hr1.below (hb1.mono hB)) (by omega) (by omega)).mono ?_; rintro e w2 ⟨A2, c2, rfl, hown2, hbel2⟩)
      go_ret2
      have hl := HL.out
      exact ⟨Or.inl ⟨⟨by omega, by rw [hl, HX.out]; exact HQ.out⟩, A2, c2, rfl, own_mono hown2 hs1⟩, hb1.trans (hbel2.mono hs1)⟩
    · have hq2 : (S.four (S.sum (l.take (n - 4))) == [x0, x1, x2, x3]) = false := beq_eq_false_iff_ne.2 hq
      have HQ := Lib.hid hq
      simp only [hq2, Bool.not_false]
      clear hq hq2 heq4
      go_wp2
      go_ret2
      have hl := HL.out
      exact ⟨Or.inr ⟨fun k => HQ.out (by have := k.2; rwa [hl, HX.out] at this), rfl⟩, hb1⟩
end Go.Proofs.Ytbnbljkkfgieoaa
