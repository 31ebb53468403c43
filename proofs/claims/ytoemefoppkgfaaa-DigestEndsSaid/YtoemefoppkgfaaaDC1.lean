/- The code's may, Same, known on digests. -/
import Derived.Test.YtoemefoppkgfaaaDRef
import Derived.Test.YtoemefoppkgfaaaDRef3
import Derived.Test.YtoemefoppkgfaaaDMath2
import Derived.Shelf.Abstract
namespace Go.Proofs.Ytoemefoppkgfaaa
set_option linter.unusedVariables false
set_option linter.unusedSimpArgs false
open Go.RowKit

noncomputable def dmayB (x : Dg) : Bool := open Classical in decide (D.may x)
theorem dmayB_out {x : Dg} (h : dmayB x = true) : D.may x := by unfold dmayB at h; simpa using h
theorem dmayB_no {x : Dg} (h : dmayB x = false) : ¬ D.may x := by unfold dmayB at h; simpa using h
set_option maxHeartbeats 1000000 in
theorem dmay_any (x : Dg) (w : World) : Calls Try.prog 19 #[dgv x] w fun e w' => e = .returned (.bool (dmayB x)) ∧ Below w.heap.size w w' := by
  obtain ⟨node, g, v⟩ := x
  have b1 : Below w.heap.size w (w.alloc (.cells #[.int .i64 node, .int .i64 g, .int .i64 v] 34)) := (Below.refl _ _).alloc (Nat.le_refl _) _
  have hd : dmayB ⟨node, g, v⟩ = (decide (0 ≤ node) && decide (node < 8) && decide (1 ≤ g) && decide (g ≤ 1099511627776) && decide (0 ≤ v) && decide (v ≤ 1099511627776)) := by
    unfold dmayB D.may
    by_cases h1 : 0 ≤ node <;> by_cases h2 : node < 8 <;> by_cases h3 : 1 ≤ g <;> by_cases h4 : g ≤ 1099511627776 <;> by_cases h5 : 0 ≤ v <;> by_cases h6 : v ≤ 1099511627776 <;> simp [h1, h2, h3, h4, h5, h6]
  simp only [dgv]
  by_cases h1 : 0 ≤ node
  · by_cases h2 : node < 8
    · by_cases h3 : 1 ≤ g
      · by_cases h4 : g ≤ 1099511627776
        · by_cases h5 : 0 ≤ v
          · by_cases h6 : v ≤ 1099511627776
            · have HD := Lib.hid (hd.trans (show _ = true by simp [h1, h2, h3, h4, h5, h6]))
              clear hd
              go_enter Try.func19, Try.ntmps19
              go_wp2
              go_ret
              exact ⟨ret_bool HD.out.symm, b1⟩
            · have HD := Lib.hid (hd.trans (show _ = false by simp [h1, h2, h3, h4, h5, h6]))
              clear hd
              go_enter Try.func19, Try.ntmps19
              go_wp2
              go_ret
              exact ⟨ret_bool HD.out.symm, b1⟩
          · have HD := Lib.hid (hd.trans (show _ = false by simp [h1, h2, h3, h4, h5]))
            clear hd
            go_enter Try.func19, Try.ntmps19
            go_wp2
            go_ret
            exact ⟨ret_bool HD.out.symm, b1⟩
        · have HD := Lib.hid (hd.trans (show _ = false by simp [h1, h2, h3, h4]))
          clear hd
          go_enter Try.func19, Try.ntmps19
          go_wp2
          go_ret
          exact ⟨ret_bool HD.out.symm, b1⟩
      · have HD := Lib.hid (hd.trans (show _ = false by simp [h1, h2, h3]))
        clear hd
        go_enter Try.func19, Try.ntmps19
        go_wp2
        go_ret
        exact ⟨ret_bool HD.out.symm, b1⟩
    · have HD := Lib.hid (hd.trans (show _ = false by simp [h1, h2]))
      clear hd
      go_enter Try.func19, Try.ntmps19
      go_wp2
      go_ret
      exact ⟨ret_bool HD.out.symm, b1⟩
  · have HD := Lib.hid (hd.trans (show _ = false by simp [h1]))
    clear hd
    go_enter Try.func19, Try.ntmps19
    go_wp2
    go_ret
    exact ⟨ret_bool HD.out.symm, b1⟩

set_option maxHeartbeats 1000000 in
theorem dequal_any (l l' : List Dg) (A A' : Option Addr) (n n' c c' : Nat) (w : World) (h : DRd w A n l) (h' : DRd w A' n' l') (hn : n ≤ 1000) (hn' : n' ≤ 1000) :
    Calls Try.prog 20 #[.slice A n c, .slice A' n' c'] w fun e w' => e = .returned (.bool (decide (l = l'))) ∧ ∃ q, w' = w.drewN q := by
  have HL := Lib.hid h.len
  have HL' := Lib.hid h'.len
  by_cases hnn : n = n'
  · subst hnn
    go_enter Try.func20, Try.ntmps20
    go_wp2
    go_loopw [13] (fun i wr => ∃ k q : Nat, k ≤ n ∧ i = .int .i64 k ∧ l.take k = l'.take k ∧ wr = w.drewN q) (fun i _ => n - (intOf i).toNat)
    case atStart => exact ⟨0, 0, by omega, rfl, rfl, rfl⟩
    case round =>
      obtain ⟨k, q, hk, rfl, hno, rfl⟩ := hrel
      have HN := Lib.hid hno
      clear hno
      by_cases hlt : k < n
      · obtain ⟨b, o, x, e1, hb, hx, c0, c1, c2⟩ := h.at hlt
        obtain ⟨b', o', y, e2, hb', hy, d0, d1, d2⟩ := h'.at hlt
        subst e1 e2
        have HX := Lib.hid hx
        have HY := Lib.hid hy
        clear hx hy
        have hk0 : (0 : Int) ≤ (k : Int) := by omega
        have heq := fun w => eq_dg x y w
        have hgd := guard_dg
        rcases hxy : eqD x y
        · have hne : l ≠ l' := fun e => by
            have h1 := HX.out
            rw [e, HY.out] at h1
            injection h1 with h1
            rw [h1] at hxy
            simp [eqD] at hxy
          have HNE := Lib.hid hne
          rw [hxy] at heq
          clear hne hxy
          go_wp2
          go_quiet (fail)
          go_wp2
          go_ret
          exact ⟨ret_bool (decide_eq_false HNE.out).symm, q + nq, by simp⟩
        · have hex : x = y := of_decide_eq_true hxy
          have HXY := Lib.hid hex
          rw [hxy] at heq
          clear hex hxy
          go_wp2
          go_quiet (fail)
          go_wp2
          go_roundw
          case rel => exact ⟨k + 1, q + nq, by omega, by go_num, by rw [take_more HX.out, take_more HY.out, HN.out, HXY.out], by simp⟩
          case measure => simp [intOf]; omega
      · have he : l = l' := by
          have h1 := HN.out
          rwa [List.take_of_length_le (by have := HL.out; omega), List.take_of_length_le (by have := HL'.out; omega)] at h1
        have HE := Lib.hid he
        clear he
        go_wp2
        go_ret
        exact ⟨ret_bool (decide_eq_true HE.out).symm, q, rfl⟩
  · have t1 : ((n : Int) != (n' : Int)) = true := by rw [bne_iff_ne]; omega
    have HNE : Hid (l ≠ l') := Lib.hid fun e => by
      have h1 := HL.out
      rw [e, HL'.out] at h1
      exact hnn h1.symm
    clear hnn
    go_enter Try.func20, Try.ntmps20
    go_wp2
    go_ret
    exact ⟨ret_bool (decide_eq_false HNE.out).symm, 0, rfl⟩
theorem dsame_any (l l' : List Dg) (A A' : Option Addr) (n n' c c' : Nat) (w : World) (h : DRd w A n l) (h' : DRd w A' n' l') (hn : n ≤ 1000) (hn' : n' ≤ 1000) : Calls Try.prog 10 #[.slice A n c, .slice A' n' c'] w fun e w' => e = .returned (.bool (decide (l = l'))) ∧ Below w.heap.size w w' := by
  go_enter Try.func10, Try.ntmps10
  go_wp2_with (go_at_call 20; refine (dequal_any l l' A A' n n' c c' w h h' hn hn').mono ?_; rintro e w2 ⟨rfl, q, rfl⟩)
  go_ret
  exact ⟨rfl, below_dn (Below.refl _ _) q⟩

/-- a predicate on digests that captures one variable, in whatever later world -/
def MeantG (base g : Nat) (cp : Array Value) (q : Int → Bool) (w : World) : Prop :=
  ∀ (x : Dg) (W : World), Below base w W → Calls Try.prog g (#[dgv x] ++ cp) W fun e w' => e = .returned (.bool (q x.node)) ∧ Below W.heap.size W w'
theorem degKnown : ∀ args w, (callFunc 37 args).run Try.prog w = .ok (.enter 37 args) w := enters_of Try.func37 (by kernel_rfl) rfl
theorem dmeant_known {base b : Nat} {node : Int} {w : World} (hb : b < base) (hw : base ≤ w.heap.size) (hc : w.cell? ⟨b, 0, none⟩ = some (.int .i64 node)) : MeantG base 37 #[.pointer (some ⟨b, 0, none⟩)] (fun y => y == node) w := fun x W hbel => by
  have h1 := (hbel.cell (p := ⟨b, 0, none⟩) hb).trans hc
  have h2 := (World.cell?_alloc_lt W (.cells #[.int .i64 x.node, .int .i64 x.gen, .int .i64 x.ver] 34) ⟨b, 0, none⟩ (by have := hbel.size; show b < _; omega)).trans h1
  clear h1 hc
  show Calls Try.prog 37 #[dgv x, .pointer (some ⟨b, 0, none⟩)] W _
  simp only [dgv]
  go_enter Try.func37, Try.ntmps37
  go_wp2
  go_ret
  exact ⟨rfl, (Below.refl _ _).alloc (Nat.le_refl _) _⟩
/-- where the first one is whose endpoint is meant -/
def FoundG (q : Int → Bool) (l : List Dg) (i : Int) : Prop :=
  (i = -1 ∧ ∀ y ∈ l, q y.node = false) ∨ ∃ (k : Nat) (x : Dg), i = k ∧ l[k]? = some x ∧ q x.node = true ∧ ∀ y ∈ l.take k, q y.node = false
theorem dfound_find {l : List Dg} {node i : Int} (h : FoundG (fun y => y == node) l i) : (i = -1 ∧ D.find l node = none) ∨ ∃ (k : Nat) (x : Dg), i = k ∧ l[k]? = some x ∧ D.find l node = some x := by
  rcases h with ⟨rfl, h⟩ | ⟨k, x, rfl, hx, he, hno⟩
  · exact Or.inl ⟨rfl, dfind_none fun y hy => by simpa using h y hy⟩
  · exact Or.inr ⟨k, x, rfl, hx, dfind_at hx (by simpa using he) fun y hy => by simpa using hno y hy⟩
set_option maxHeartbeats 1000000 in
theorem didx_any (l : List Dg) (A : Option Addr) (n c : Nat) (q : Int → Bool) (g : Nat) (bp : Value) (eg : ∀ args w, (callFunc g args).run Try.prog w = .ok (.enter g args) w) (w : World) (h : DRd w A n l) (hn : n ≤ 1000) (hp : MeantG w.heap.size g #[bp] q w) :
    Calls Try.prog 36 #[.slice A n c, .func (.func g) #[] #[bp]] w fun e w' => (∃ i, e = .returned (.int .i64 i) ∧ FoundG q l i) ∧ Below w.heap.size w w' := by
  have hl := h.len
  have HL := Lib.hid hl
  have HP := Lib.hid hp
  clear hl hp
  go_enter Try.func36, Try.ntmps36
  go_wp2
  go_loopw [8] (fun i wr => ∃ k : Nat, k ≤ n ∧ i = .int .i64 k ∧ (∀ y ∈ l.take k, q y.node = false) ∧ Below w.heap.size w wr) (fun i _ => n - (intOf i).toNat)
  case atStart => exact ⟨0, by omega, rfl, by simp, Below.refl _ _⟩
  case round =>
    obtain ⟨k, hk, rfl, hno, hbel⟩ := hrel
    have HN := Lib.hid hno
    have hbs := hbel.size
    clear hno
    by_cases hlt : k < n
    · obtain ⟨b, o, x, e1, hb, hx, c0, c1, c2⟩ := (h.belowH hbel).at hlt
      subst e1
      have HX := Lib.hid hx
      clear hx
      have hk0 : (0 : Int) ≤ (k : Int) := by omega
      go_wp2_with fail
      refine (HP.out x _ hbel).mono ?_
      rintro e w2 ⟨rfl, hb2⟩
      have HB2 := Lib.hid hb2
      clear hb2
      rcases hpx : q x.node
      · have HPX := Lib.hid hpx
        clear hpx
        go_wp2
        go_roundw
        case rel =>
          refine ⟨k + 1, by omega, by go_num, fun y hy => ?_, hbel.trans (HB2.out.mono hbs)⟩
          rw [take_more HX.out] at hy
          rcases List.mem_append.1 hy with hy | hy
          · exact HN.out y hy
          · obtain rfl : y = x := by simpa using hy
            exact HPX.out
        case measure => simp [intOf]; omega
      · have HPX := Lib.hid hpx
        clear hpx
        go_wp2
        go_ret
        exact ⟨⟨_, rfl, Or.inr ⟨k, x, rfl, HX.out, HPX.out, HN.out⟩⟩, hbel.trans (HB2.out.mono hbs)⟩
    · go_wp2
      go_ret
      exact ⟨⟨_, rfl, Or.inl ⟨rfl, by have := HN.out; rwa [List.take_of_length_le (by have := HL.out; omega)] at this⟩⟩, hbel⟩

set_option maxHeartbeats 2000000 in
theorem dknown_any (l : List Dg) (node : Int) (A : Option Addr) (n c : Nat) (w : World) (h : DRd w A n l) (hn : n ≤ 1000) :
    Calls Try.prog 31 #[.slice A n c, .int .i64 node] w fun e w' => e = .returned (dgv (D.known l node)) ∧ Below w.heap.size w w' := by
  have HL := Lib.hid h.len
  have b1 : Below w.heap.size w (w.alloc (.cells #[.int .i64 node] 3)) := (Below.refl _ _).alloc (Nat.le_refl _) _
  have x1 := Box.new w #[.int .i64 node] 3
  have hse : (w.alloc (.cells #[.int .i64 node] 3)).heap.size = w.heap.size + 1 := by simp
  have b2 := b1.alloc b1.size (.cells #[.int .i64 0, .int .i64 0, .int .i64 0] 34)
  have x2 := Box.new (w.alloc (.cells #[.int .i64 node] 3)) #[.int .i64 0, .int .i64 0, .int .i64 0] 34
  rw [hse] at x2
  have hs2 : w.heap.size + 1 < ((w.alloc (.cells #[.int .i64 node] 3)).alloc (.cells #[.int .i64 0, .int .i64 0, .int .i64 0] 34)).heap.size := by simp
  have k1 := (x1.alloc (.cells #[.int .i64 0, .int .i64 0, .int .i64 0] 34)).at 0 rfl
  have h2 := (h.allocH (.cells #[.int .i64 node] 3)).allocH (.cells #[.int .i64 0, .int .i64 0, .int .i64 0] 34)
  have HB2 := Lib.hid b2
  have HX2 := Lib.hid x2
  have HK1 := Lib.hid k1
  clear b1 x1 hse b2 x2 k1 h
  go_enter Try.func31, Try.ntmps31
  go_wp2_with fail
  generalize (w.alloc (.cells #[.int .i64 node] 3)).alloc (.cells #[.int .i64 0, .int .i64 0, .int .i64 0] 34) = w2 at *
  refine (didx_any l A n c (fun y => y == node) _ _ degKnown w2 h2 hn (dmeant_known (b := w.heap.size) (by omega) (Nat.le_refl _) HK1.out)).mono ?_
  rintro e w3 ⟨⟨i, rfl, hfo⟩, hb3⟩
  have X3 := HX2.out.below hb3 hs2
  have b3 : Below w.heap.size w w3 := HB2.out.trans (hb3.mono (by omega))
  have h3 := h2.belowH hb3
  have y0 := X3.at 0 rfl
  have y1 := X3.at 1 rfl
  have y2 := X3.at 2 rfl
  have yf := X3.cold
  have z := X3.lt
  clear hb3 h2 HB2 HX2 HK1
  rcases dfound_find hfo with ⟨rfl, hg⟩ | ⟨k, x, rfl, hx, hg⟩
  · have HG := Lib.hid hg
    clear hg hfo
    go_wp2
    refine bodyPost_ret (v := dgv ⟨0, 0, 0⟩) (by simp [results, Try.results31, go_sem, y0, y1, y2, z, dgv]; try rfl) rfl ⟨?_, ?_⟩
    · unfold D.known; rw [HG.out]; rfl
    · repeat (first | (with_reducible exact b3) | (with_reducible refine below_set ?_ (by omega) _))
  · have hkn : k < n := by have h9 : k < l.length := (List.getElem?_eq_some_iff.1 hx).1; have := HL.out; omega
    obtain ⟨b, o, x', e1, hb, hx', c0, c1, c2⟩ := h3.at hkn
    obtain rfl : x' = x := by rw [hx] at hx'; simpa using hx'.symm
    subst e1
    have HG := Lib.hid hg
    clear hg hfo hx hx'
    have hk0 : (0 : Int) ≤ (k : Int) := by omega
    go_wp2
    refine bodyPost_ret (v := dgv x') (by simp [results, Try.results31, go_sem, y0, y1, y2, z, dgv]; try rfl) rfl ⟨?_, ?_⟩
    · unfold D.known; rw [HG.out]; rfl
    · repeat (first | (with_reducible exact b3) | (with_reducible refine below_set ?_ (by omega) _))
end Go.Proofs.Ytoemefoppkgfaaa
