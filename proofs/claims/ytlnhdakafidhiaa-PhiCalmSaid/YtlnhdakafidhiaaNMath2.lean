/- Plain mathematics of windows: what stays as arrivals come (no program). -/
import Derived.Test.YtlnhdakafidhiaaNMath
namespace Go.Proofs.Ytlnhdakafidhiaa
set_option linter.unusedVariables false
set_option linter.unusedSimpArgs false
namespace N
/-- behind i arrivals, none of a gap above high -/
structure Inv (x : Wi) (i : Nat) (now high : Int) : Prop where
  right : right x
  len : x.gaps.length = min (i - 1) 16
  gaps : ∀ g ∈ x.gaps, 1 ≤ g ∧ g ≤ high
  last : x.last = if i = 0 then -1 else now
theorem Inv.new {high : Int} : Inv N.new 0 0 high := ⟨right_new, rfl, by simp [N.new], rfl⟩
theorem Inv.may {x : Wi} {i : Nat} {now high s : Int} (h : Inv x i now high) (h0 : 0 ≤ now) (hs : 0 ≤ s) (hb : now + s ≤ 1099511627776) : may x (now + s) := by
  refine ⟨h.right, by omega, ?_, hb⟩
  rw [h.last]
  split <;> omega
theorem Inv.next {x : Wi} {i : Nat} {now high s most : Int} (h : Inv x i now high) (h0 : 0 ≤ now) (hs : 0 ≤ s) (hb : now + s ≤ 1099511627776) (hh : high = max 1 most) : Inv (next x (now + s) most) (i + 1) (now + s) high := by
  have hm := h.may h0 hs hb
  refine ⟨next_right hm, ?_, ?_, by rw [if_neg (by omega)]; rfl⟩
  · show (keep (more x (now + s) most)).length = _
    rw [keep_length, more_length, h.last, h.len]
    rcases Nat.eq_zero_or_pos i with rfl | hi
    · rfl
    · rw [if_neg (by rw [if_neg (by omega)]; omega)]
      omega
  · intro g hg
    have hm : g ∈ more x (now + s) most := List.mem_of_mem_drop hg
    unfold more at hm
    split at hm
    · exact h.gaps g hm
    · rcases List.mem_append.1 hm with hm | hm
      · exact h.gaps g hm
      · obtain rfl : g = gap (now + s - x.last) most := by simpa using hm
        unfold gap
        omega
theorem Inv.mean {x : Wi} {i : Nat} {now high most : Int} (h : Inv x i now high) (hh : high = max 1 most) : 1 ≤ N.mean x most ∧ N.mean x most ≤ high := by
  unfold N.mean
  by_cases h0 : x.gaps.length = 0
  · rw [if_pos h0]; omega
  · rw [if_neg h0]
    have := R.mean_high (k := high) h0 fun g hg => by
      have := h.gaps g hg
      unfold R.pin
      omega
    omega
/-- behind i arrivals at one distance -/
structure Even (x : Wi) (i : Nat) (t step G : Int) : Prop where
  right : right x
  len : x.gaps.length = min (i - 1) 16
  gaps : ∀ g ∈ x.gaps, g = G
  last : x.last = if i = 0 then -1 else t - step
theorem Even.new {step G : Int} : Even N.new 0 0 step G := ⟨right_new, rfl, by simp [N.new], rfl⟩
theorem Even.may {x : Wi} {i : Nat} {t step G : Int} (h : Even x i t step G) (h0 : 0 ≤ t) (hs : 0 ≤ step) (hb : t ≤ 1099511627776) : may x t := by
  refine ⟨h.right, h0, ?_, hb⟩
  rw [h.last]
  split <;> omega
theorem Even.next {x : Wi} {i : Nat} {t step most G : Int} (h : Even x i t step G) (h0 : 0 ≤ t) (hs : 0 ≤ step) (hb : t ≤ 1099511627776) (hge : i ≠ 0 → step ≤ t) (hG : max 1 (min step most) = G) : Even (next x t most) (i + 1) (t + step) step G := by
  have hm := h.may h0 hs hb
  refine ⟨next_right hm, ?_, ?_, by rw [if_neg (by omega)]; show t = _; omega⟩
  · show (keep (more x t most)).length = _
    rw [keep_length, more_length, h.last, h.len]
    rcases Nat.eq_zero_or_pos i with rfl | hi
    · rfl
    · have hge2 := hge (by omega)
      rw [if_neg (by rw [if_neg (by omega)]; omega)]
      omega
  · intro g hg
    have hm : g ∈ more x t most := List.mem_of_mem_drop hg
    unfold more at hm
    split at hm
    · exact h.gaps g hm
    · rename_i hx
      rcases List.mem_append.1 hm with hm | hm
      · exact h.gaps g hm
      · obtain rfl : g = gap (t - x.last) most := by simpa using hm
        have hi : i ≠ 0 := fun e => hx (by rw [h.last, if_pos e]; omega)
        unfold gap
        rw [h.last, if_neg hi, show t - (t - step) = step by omega]
        exact hG
/-- what comes at one distance -/
theorem steady_mean {l : List Int} {g : Int} (h0 : l.length ≠ 0) (h : ∀ x ∈ l, x = g) (h1 : 1 ≤ g) (h2 : g ≤ 1125899906842624) : max 1 (R.mean l) = g := by
  rw [R.mean_same (k := g) h0 fun x hx => by rw [h x hx]; unfold R.pin; omega]
  omega
/-- two windows behind the same arrivals -/
structure Both (ga : List Int) (x y : Wi) (k : Nat) (now : Int) : Prop where
  rx : N.right x
  ry : N.right y
  lx : x.last = now
  ly : y.last = now
  gs : ∃ gs : List Int, gs.length = k ∧ x.gaps = keep (ga ++ gs) ∧ y.gaps = keep gs
theorem Both.start {x y : Wi} {now : Int} (hx : N.right x) (hy : N.right y) (lx : x.last = now) (ly : y.last = now) (e : y.gaps = []) : Both x.gaps x y 0 now :=
  ⟨hx, hy, lx, ly, [], rfl, by rw [List.append_nil, keep_short hx.2.2.1], by rw [e]; rfl⟩
theorem Both.mayx {ga : List Int} {x y : Wi} {k : Nat} {now s : Int} (h : Both ga x y k now) (h0 : 0 ≤ now) (hs : 0 ≤ s) (hb : now + s ≤ 1099511627776) : may x (now + s) := ⟨h.rx, by omega, by rw [h.lx]; omega, hb⟩
theorem Both.mayy {ga : List Int} {x y : Wi} {k : Nat} {now s : Int} (h : Both ga x y k now) (h0 : 0 ≤ now) (hs : 0 ≤ s) (hb : now + s ≤ 1099511627776) : may y (now + s) := ⟨h.ry, by omega, by rw [h.ly]; omega, hb⟩
theorem Both.next {ga : List Int} {x y : Wi} {k : Nat} {now s most : Int} (h : Both ga x y k now) (h0 : 0 ≤ now) (hs : 0 ≤ s) (hb : now + s ≤ 1099511627776) : Both ga (next x (now + s) most) (next y (now + s) most) (k + 1) (now + s) := by
  obtain ⟨gs, hl, e1, e2⟩ := h.gs
  refine ⟨next_right (h.mayx h0 hs hb), next_right (h.mayy h0 hs hb), rfl, rfl, gs ++ [gap s most], by simp [hl], ?_, ?_⟩
  · show keep (more x (now + s) most) = _
    unfold more
    rw [if_neg (by rw [h.lx]; omega), h.lx, e1, show now + s - now = s by omega, keep_snoc, List.append_assoc]
  · show keep (more y (now + s) most) = _
    unfold more
    rw [if_neg (by rw [h.ly]; omega), h.ly, e2, show now + s - now = s by omega, keep_snoc]
theorem Both.done {ga : List Int} {x y : Wi} {now : Int} (h : Both ga x y 16 now) : x = y ∧ x.gaps.length = 16 := by
  obtain ⟨gs, hl, e1, e2⟩ := h.gs
  have e : x.gaps = y.gaps := by rw [e1, e2, keep_tail (by omega)]
  obtain ⟨xl, xg⟩ := x
  obtain ⟨yl, yg⟩ := y
  have h1 : xl = now := h.lx
  have h2 : yl = now := h.ly
  refine ⟨by rw [h1, h2]; simp only at e; rw [e], ?_⟩
  rw [e1, keep_length, List.length_append]
  omega
theorem mean_boot {x : Wi} (h : x.gaps.length ≠ 0) (b c : Int) : mean x b = mean x c := by unfold mean; rw [if_neg h, if_neg h]
end N
end Go.Proofs.Ytlnhdakafidhiaa
