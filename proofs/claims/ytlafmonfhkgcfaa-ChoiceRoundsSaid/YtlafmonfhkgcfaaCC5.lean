/- Package choice: Rising. -/
import Derived.Test.YtlafmonfhkgcfaaCC4
import Derived.Lib.RowBridge
namespace Go.Proofs.Ytlafmonfhkgcfaa
set_option linter.unusedVariables false
set_option linter.unusedSimpArgs false
open Go.RowKit Go.Shelf Go.Sort
/-- what is sorted, and has each once, rises -/
theorem compact_up (d : Array Int) (hs : ∀ i j, i ≤ j → j < d.size → d[i]! ≤ d[j]!) : ∀ m, m ≤ d.size → Ch.Up (Lib.compactUpTo d m) ∧ ∀ y, y ∈ Lib.compactUpTo d m ↔ ∃ j, j < m ∧ d[j]! = y
  | 0, _ => by simp [Lib.compactUpTo, Ch.Up]
  | m + 1, h => by
    obtain ⟨hu, hm⟩ := compact_up d hs m (by omega)
    rw [Lib.compactUpTo_succ]
    have hk : Lib.keeps d m = decide (m = 0 ∨ d[m]! ≠ d[m - 1]!) := rfl
    by_cases hc : m = 0 ∨ d[m]! ≠ d[m - 1]!
    · rw [hk, decide_eq_true hc, if_pos rfl]
      constructor
      · unfold Ch.Up at *
        rw [List.pairwise_append]
        refine ⟨hu, List.pairwise_singleton _ _, fun a ha b hb => ?_⟩
        obtain rfl : b = d[m]! := by simpa using hb
        obtain ⟨j, hj, rfl⟩ := (hm a).1 ha
        have h1 := hs j (m - 1) (by omega) (by omega)
        have h2 := hs (m - 1) m (by omega) (by omega)
        rcases hc with hc | hc
        · omega
        · omega
      · intro y
        rw [List.mem_append, hm y]
        constructor
        · rintro (⟨j, hj, e⟩ | hy)
          · exact ⟨j, by omega, e⟩
          · exact ⟨m, by omega, by simpa using (List.mem_singleton.1 hy).symm⟩
        · rintro ⟨j, hj, e⟩
          by_cases hjm : j = m
          · subst hjm; exact .inr (by simp [← e])
          · exact .inl ⟨j, by omega, e⟩
    · rw [hk, decide_eq_false hc, if_neg (by simp), List.append_nil]
      refine ⟨hu, fun y => ?_⟩
      rw [hm y]
      constructor
      · rintro ⟨j, hj, e⟩
        exact ⟨j, by omega, e⟩
      · rintro ⟨j, hj, e⟩
        by_cases hjm : j = m
        · subst hjm
          refine ⟨j - 1, by omega, ?_⟩
          have : ¬ (d[j]! ≠ d[j - 1]!) := fun h => hc (.inr h)
          rw [← e]; exact (Classical.not_not.1 this).symm
        · exact ⟨j, by omega, e⟩
theorem sorted_le (l : List Int) : ∀ i j, i ≤ j → j < (l.mergeSort fun x y => decide (x ≤ y)).toArray.size → (l.mergeSort fun x y => decide (x ≤ y)).toArray[i]! ≤ (l.mergeSort fun x y => decide (x ≤ y)).toArray[j]! := by
  have hp := List.pairwise_mergeSort (le := fun x y : Int => decide (x ≤ y)) (by intro a b c; simp; omega) (by intro a b; simp; omega) l
  intro i j hij hj
  have hj' : j < (l.mergeSort fun x y => decide (x ≤ y)).length := by simpa using hj
  rcases Nat.lt_or_ge i j with h | h
  · have := List.pairwise_iff_getElem.1 hp i j (by omega) hj' h
    rw [getElem!_pos _ i (by simp at hj ⊢; omega), getElem!_pos _ j hj]
    simpa using this
  · obtain rfl : i = j := by omega
    exact Int.le_refl _
theorem compact_rising (l : List Int) : Lib.compact (l.mergeSort fun x y => decide (x ≤ y)) = Ch.rising l := by
  obtain ⟨hu, hm⟩ := compact_up _ (sorted_le l) (l.mergeSort fun x y => decide (x ≤ y)).length (by simp)
  refine Ch.up_ext hu (Ch.rising_up l) fun y => ?_
  refine (hm y).trans (Iff.trans ?_ Ch.rising_mem.symm)
  rw [← List.mem_mergeSort (le := fun x y : Int => decide (x ≤ y)) (l := l), List.mem_iff_getElem]
  constructor
  · rintro ⟨j, hj, e⟩
    refine ⟨j, hj, ?_⟩
    rw [getElem!_pos _ j (by simpa using hj)] at e
    simpa using e
  · rintro ⟨j, hj, e⟩
    refine ⟨j, hj, ?_⟩
    rw [getElem!_pos _ j (by simpa using hj)]
    simpa using e
theorem ccollect_any (Bs : Nat) (A : Option Addr) (len cap : Nat) (l : List Int) (hlen : len ≤ 1000000) (w : World) (hBs : Bs < w.heap.size) (hc : w.cell? ⟨Bs, 0, none⟩ = some (.slice A len cap)) (hr : Rd w w.heap.size 1 A len (I l)) :
    Calls Try.prog 32 #[.func (.func 34) #[] #[.pointer (some ⟨Bs, 0, none⟩)]] w fun e W' => ∃ v, e = .returned v ∧ W'.ownsRow w.heap.size 3 1 v l.length (I l) ∧ (v = .slice none 0 0 ↔ l = []) ∧ Below w.heap.size w W' := by
  have ha := (callsIn_wide (n := 6)).1 (cappseq_in Fence.wide 6 trivial trivial rfl (by omega) Bs A len cap l hlen w hBs hc hr)
  go_enter Try.func32, Try.ntmps32
  go_wp2_with fail
  refine ha.mono ?_
  rintro e w2 ⟨v, rfl, h⟩
  have H := Lib.hid h
  clear h
  go_wp2
  go_ret
  exact ⟨v, rfl, H.out⟩
theorem csort_any (blk off cap : Nat) (zs : List Int) (w : World) (hH : Holds (Value.int .i64) w blk off zs.toArray) (hblk : blk < w.heap.size) (hsz : zs.length < 4611686018427387904) :
    Calls Try.prog 33 #[.slice (some ⟨blk, off, none⟩) zs.length cap] w fun e w' =>
      e = .returned (.tuple #[]) ∧ ∃ n os, w' = grow (putRow (Value.int .i64) (Sort.ahead w n) blk off (zs.mergeSort fun x y => decide (x ≤ y)).toArray) os := Any.slices_Sort_int lays189 blk off cap zs w hH hblk hsz
theorem csort_none (p : Option Addr) (cap : Nat) (w : World) : Calls Try.prog 33 #[.slice p 0 cap] w fun e w' => e = .returned (.tuple #[]) ∧ w' = w := Any.slices_Sort_int_none lays189 p cap w
theorem ccompact_any (blk off cap : Nat) (zs : List Int) (w : World) (hH : Holds (Value.int .i64) w blk off zs.toArray) (hsz : zs.length ≤ 9223372036854775807) (hcap : zs.length ≤ cap) :
    Calls Try.prog 27 #[.slice (some ⟨blk, off, none⟩) zs.length cap] w fun e w' => e = .returned (.slice (some ⟨blk, off, none⟩) (Lib.compact zs).length cap) ∧ ∃ q, w' = putRow (Value.int .i64) (Sort.ahead w q) blk off (Lib.compact zs ++ List.replicate (zs.length - (Lib.compact zs).length) 0).toArray := Any.slices_Compact_int laysNm220 blk off cap zs w hH hsz hcap
theorem ccompact_empty (a : Option Addr) (cap : Nat) (w : World) : Calls Try.prog 27 #[.slice a 0 cap] w fun e w' => e = .returned (.slice a 0 cap) ∧ w' = w := Any.slices_Compact_int_empty laysNm220 a cap w
/-- what an own row is in memory, that the library's words take it up -/
theorem own_holds {w : World} {base n c : Nat} {A : Option Addr} {l : List Int} (h : w.ownsRow base 3 1 (.slice A n c) n (I l)) (hn : 0 < n) :
    ∃ g cur, A = some ⟨g, 0, none⟩ ∧ base ≤ g ∧ w.heap[g]? = some (.cells cur 3 (0, 0)) ∧ n ≤ c ∧ c ≤ maxLen ∧ cur.size = c * 1 ∧ l.length = n ∧ Holds (Value.int .i64) w g 0 l.toArray := by
  have hl := ilen (Rd.of_own h)
  rcases h.2 with ⟨h', h0, _⟩ | ⟨g, cap, cur, hv, hb, hg, h1, h2, h3, h4⟩
  · omega
  · simp only [Value.slice.injEq] at hv
    obtain ⟨rfl, _, rfl⟩ := hv
    refine ⟨g, cur, rfl, hb, hg, h1, h2, h3, hl, holds_of_blockI hg ?_⟩
    rw [hl]
    simpa [I] using h4
theorem below_sorted {B g n : Nat} {a w : World} {os : Array Obj} (d : Array Int) (h : Below B a w) (hb : B ≤ g) (hw : B ≤ w.heap.size) : Below B a (grow (putRow (Value.int .i64) (Sort.ahead w n) g 0 d) os) :=
  h.grown (grownBy_sortedI d) hw (fun k e => by cases e; exact hb)
set_option maxHeartbeats 2000000 in
theorem csorted_any (Bs : Nat) (A : Option Addr) (len cap : Nat) (l : List Int) (hlen : len ≤ 1000000) (w : World) (hBs : Bs < w.heap.size) (hc : w.cell? ⟨Bs, 0, none⟩ = some (.slice A len cap)) (hr : Rd w w.heap.size 1 A len (I l)) :
    Calls Try.prog 28 #[.func (.func 34) #[] #[.pointer (some ⟨Bs, 0, none⟩)]] w fun e w' => ∃ A' n c, e = .returned (.slice A' n c) ∧ n = len ∧ w'.ownsRow w.heap.size 3 1 (.slice A' n c) n (I (l.mergeSort fun x y => decide (x ≤ y))) ∧ Below w.heap.size w w' := by
  have HL := Lib.hid (ilen hr)
  have ha := ccollect_any Bs A len cap l hlen w hBs hc hr
  go_enter Try.func28, Try.ntmps28
  go_wp2_with fail
  refine ha.mono ?_
  clear ha hr hc
  rintro e w2 ⟨v, rfl, hown, hnil, hb⟩
  obtain ⟨A2, c2, rfl⟩ := own_slice hown
  rw [HL.out] at hown
  have hbs := hb.size
  clear hnil
  rw [HL.out]
  by_cases h0 : len = 0
  · have e : Hid (l = []) := Lib.hid (List.eq_nil_of_length_eq_zero (by rw [HL.out]; exact h0))
    subst h0
    have HO := Lib.hid hown
    clear hown
    go_wp2_with fail
    refine (csort_none A2 c2 w2).mono ?_
    rintro e w3 ⟨rfl, rfl⟩
    go_wp2
    go_ret
    exact ⟨_, _, _, rfl, rfl, by have := HO.out; rw [e.out] at this ⊢; simpa using this, hb⟩
  · obtain ⟨g, cur, rfl, hg, hgc, h1, h2, h3, hl, hH⟩ := own_holds hown (by omega)
    have cs := csort_any g 0 c2 l w2 hH (Array.getElem?_eq_some_iff.1 hgc).1 (by omega)
    rw [HL.out] at cs
    have G := Lib.hid (And.intro hgc (And.intro h2 h3))
    clear hgc h2 h3 hl hH hown
    go_wp2_with fail
    refine cs.mono ?_
    rintro e w3 ⟨rfl, nn, os, hw3⟩
    have ho : w3.ownsRow w.heap.size 3 1 (.slice (some ⟨g, 0, none⟩) len c2) len (I (l.mergeSort fun x y => decide (x ≤ y))) := by
      rw [hw3]
      have := ownsRow_sortedI (n := nn) (os := os) (ss := l) (ts := l.mergeSort fun x y => decide (x ≤ y)) (by simp) hg G.out.1 (by rw [HL.out]; exact h1) G.out.2.1 G.out.2.2
      rw [HL.out] at this
      exact this
    have hb3 : Below w.heap.size w w3 := by rw [hw3]; exact below_sorted _ hb hg hbs
    clear hw3 cs G
    go_wp2
    go_ret
    exact ⟨_, _, _, rfl, rfl, ho, hb3⟩
set_option maxHeartbeats 2000000 in
theorem crising_any (l : List Int) (A : Option Addr) (n c : Nat) (w : World) (h : Rd w w.heap.size 1 A n (I l)) (hn : n ≤ 1000) :
    Calls Try.prog 18 #[.slice A n c] w (ReadI (Ch.rising l) w) := by
  have HL := Lib.hid (ilen h)
  have D := Box.new w #[.slice A n c] 22
  have b := (Below.refl w.heap.size w).alloc (Nat.le_refl _) (.cells #[.slice A n c] 22)
  replace h := h.belowH b
  have hv := (callsIn_wide (n := 6)).1 (cvalues_in Fence.wide 6 trivial rfl A n c w)
  go_enter Try.func18, Try.ntmps18
  go_wp2_with fail
  refine hv.mono ?_
  rintro e w1 ⟨rfl, rfl⟩
  clear hv
  have d0 := D.at 0 rfl
  have hlt := D.lt
  generalize w.alloc (.cells #[.slice A n c] 22) = wa at *
  have cs := csorted_any w.heap.size A n c l (by omega) wa hlt d0 h
  have bs := b.size
  clear h d0 D
  go_wp2_with fail
  refine cs.mono ?_
  clear cs
  rintro e w2 ⟨A2, n2, c2, rfl, hn2, hown, hb2⟩
  have hb2s := hb2.size
  have E := Lib.hid (compact_rising l)
  obtain ⟨s, hs⟩ : ∃ s, (l.mergeSort fun x y => decide (x ≤ y)) = s := ⟨_, rfl⟩
  have SL : Hid (s.length = n) := Lib.hid (by rw [← hs]; simp [HL.out])
  rw [hs] at E hown
  clear hs
  by_cases h0 : n2 = 0
  · have e : Hid (Ch.rising l = []) := Lib.hid (by
      have : l = [] := List.eq_nil_of_length_eq_zero (by rw [HL.out]; omega)
      rw [this]; rfl)
    subst h0
    have HO := Lib.hid hown
    clear hown hn2
    go_wp2_with fail
    refine (ccompact_empty A2 c2 w2).mono ?_
    rintro e w3 ⟨rfl, rfl⟩
    go_wp2
    go_ret
    exact ⟨⟨_, _, _, rfl, by rw [e.out]; exact Rd.zero _ _ _ _, own_cap HO.out⟩, b.trans (hb2.mono (by omega))⟩
  · obtain ⟨g, cur, rfl, hg, hgc, h1, h2, h3, hl, hH⟩ := own_holds hown (by omega)
    have cs := ccompact_any g 0 c2 s w2 hH (by omega) (by omega)
    rw [hl] at cs
    have hle : Hid ((Lib.compact s).length ≤ n2) := Lib.hid (by have := Lib.compact_length_le s; omega)
    have G := Lib.hid (And.intro hgc (And.intro h2 (And.intro h3 hl)))
    have CC := Lib.hid h1
    clear hgc h2 h3 hl hH hown hn2
    obtain ⟨z, hz⟩ : ∃ z, Lib.compact s = z := ⟨_, rfl⟩
    rw [hz] at E hle cs
    obtain ⟨k, hk⟩ : ∃ k, z.length = k := ⟨_, rfl⟩
    rw [hk] at cs hle
    have K := Lib.hid hk
    clear hk hz
    go_wp2_with fail
    refine cs.mono ?_
    clear cs
    rintro e w3 ⟨rfl, q, hw3⟩
    have ho : w3.ownsRow wa.heap.size 3 1 (.slice (some ⟨g, 0, none⟩) n2 c2) n2 (I (z ++ List.replicate (n2 - k) 0)) := by
      rw [hw3]
      have := ownsRow_sortedI (n := q) (os := #[]) (ss := s) (ts := z ++ List.replicate (n2 - k) 0) (by have := hle.out; have := K.out; have := G.out.2.2.2; simp; omega) hg G.out.1 (by rw [G.out.2.2.2]; exact h1) G.out.2.1 G.out.2.2.1
      rw [G.out.2.2.2, grow_empty] at this
      exact this
    have hb3 : Below wa.heap.size wa w3 := by
      rw [hw3, ← grow_empty (putRow _ _ _ _ _)]
      exact below_sorted _ hb2 hg hb2s
    clear hw3 G
    have hr := (Rd.of_own ho).take1 hle.out
    have e1 : (I (z ++ List.replicate (n2 - k) 0)).take k = I (Ch.rising l) := by
      rw [I_take, List.take_append_of_le_length (by rw [K.out]; exact Nat.le_refl _), List.take_of_length_le (by rw [K.out]; exact Nat.le_refl _), E.out]
    rw [e1] at hr
    go_wp2
    go_ret
    exact ⟨⟨_, k, c2, rfl, hr, by have := hle.out; omega, (own_cap ho).2⟩, b.trans (hb3.mono (by omega))⟩
end Go.Proofs.Ytlafmonfhkgcfaa
