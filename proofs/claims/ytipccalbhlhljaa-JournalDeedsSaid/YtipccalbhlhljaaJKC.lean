/- KC1 KC2 (merged). -/
import Derived.Lib.SliceRun
import Derived.Laws.Slices
import Derived.Test.YtipccalbhlhljaaJKRefB
import Derived.Test.YtipccalbhlhljaaJKRef7
namespace Go.Proofs.Ytipccalbhlhljaa
set_option linter.unusedVariables false
set_option linter.unusedSimpArgs false
open Go.RowKit
set_option maxHeartbeats 1000000 in
theorem kright_any (u : Kv) (w : World) (h : KRd w u) :
    Calls Try.prog 41 #[kval u] w (BoolK (decide (K.right u.x)) w) := by
  have hlen := h.len
  obtain ⟨⟨l, f, o⟩, A, n, c⟩ := u
  simp only at hlen
  simp only [kval]
  have X := Box.new w #[.slice A n c, .int .i64 f, .bool o] 34
  have b := (Below.refl w.heap.size w).alloc (Nat.le_refl _) (.cells #[.slice A n c, .int .i64 f, .bool o] 34)
  have IFF : Hid (K.right ⟨l, f, o⟩ ↔ n ≤ 64 ∧ -1 ≤ f) := Lib.hid (by unfold K.right; simp only [hlen])
  clear h hlen
  go_enter Try.func41, Try.ntmps41
  have hh : ∀ v : Bool, (n ≤ 64 ∧ -1 ≤ f ↔ v = true) → BoolK (decide (K.right ⟨l, f, o⟩)) w (.returned (.bool v)) (w.alloc (.cells #[.slice A n c, .int .i64 f, .bool o] 34)) := fun v hv => by
    refine ⟨ret_bool ?_, b⟩
    have h := IFF.out.trans hv
    cases v
    · exact (decide_eq_false fun hr => by simpa using h.1 hr).symm
    · exact (decide_eq_true (h.2 rfl)).symm
  have HH := Lib.hid hh
  clear hh
  go_wp2
  all_goals go_ret
  all_goals exact HH.out _ (by simp; omega)

/-- what stands against a deed -/
def kstand (d : Dk) : Int := if ¬ K.right d then 1 else if d.down then 9 else 0
theorem kstand_no {d : Dk} (h : ¬ K.right d) : kstand d = 1 := by unfold kstand; rw [if_pos h]
theorem kstand_down {l : List (List UInt8)} {f : Int} (h : K.right ⟨l, f, true⟩) : kstand ⟨l, f, true⟩ = 9 := by unfold kstand; rw [if_neg (Classical.not_not.2 h)]; rfl
theorem kstand_ok {l : List (List UInt8)} {f : Int} (h : K.right ⟨l, f, false⟩) : kstand ⟨l, f, false⟩ = 0 := by unfold kstand; rw [if_neg (Classical.not_not.2 h)]; rfl
theorem asked_stand {d : Dk} {n : Nat} (hl : d.secs.length = n) (i : Int) : K.asked d i = if kstand d ≠ 0 then kstand d else if i < 0 ∨ (n : Int) ≤ i then 1 else 0 := by
  obtain ⟨l, f, o⟩ := d
  unfold K.asked kstand
  simp only at hl
  simp only [hl]
  by_cases r : K.right ⟨l, f, o⟩ <;> cases o <;> simp [r]
set_option maxHeartbeats 1000000 in
theorem kworks_any (u : Kv) (w : World) (h : KRd w u) :
    Calls Try.prog 63 #[kval u] w (IntK (kstand u.x) w) := by
  have hR := kright_any u (w.alloc (.cells (kcells u) 34)) (h.alloc _)
  obtain ⟨⟨l, f, o⟩, A, n, c⟩ := u
  simp only [kval, kcells] at hR ⊢
  have X := Box.new w #[.slice A n c, .int .i64 f, .bool o] 34
  have b := (Below.refl w.heap.size w).alloc (Nat.le_refl _) (.cells #[.slice A n c, .int .i64 f, .bool o] 34)
  clear h
  go_enter Try.func63, Try.ntmps63
  go_wp2_with fail
  refine hR.mono ?_
  rintro _ w2 ⟨rfl, b2⟩
  have Y := X.below b2 (by simp)
  replace b := b.trans (b2.mono b.size)
  clear hR X b2
  have y2 := Y.at 2 rfl
  by_cases r : K.right ⟨l, f, o⟩
  · have r' := decide_eq_true r
    rw [r']
    clear r'
    cases o
    · have E := Lib.hid (kstand_ok r)
      clear r
      go_wp2
      go_ret
      exact ⟨ret_int E.out.symm, b⟩
    · have E := Lib.hid (kstand_down r)
      clear r
      go_wp2
      go_ret
      exact ⟨ret_int E.out.symm, b⟩
  · have r' := decide_eq_false r
    rw [r']
    have E := Lib.hid (kstand_no r)
    clear r r'
    go_wp2
    go_ret
    exact ⟨ret_int E.out.symm, b⟩

set_option maxHeartbeats 1000000 in
theorem kreach_any (u : Kv) (i : Int) (w : World) (h : KRd w u) :
    Calls Try.prog 58 #[kval u, .int .i64 i] w (IntK (K.asked u.x i) w) := by
  have hlen := h.len
  have hR := kworks_any u (w.alloc (.cells (kcells u) 34)) (h.alloc _)
  obtain ⟨⟨l, f, o⟩, A, n, c⟩ := u
  simp only at hlen
  simp only [kval, kcells] at hR ⊢
  have X := Box.new w #[.slice A n c, .int .i64 f, .bool o] 34
  have b := (Below.refl w.heap.size w).alloc (Nat.le_refl _) (.cells #[.slice A n c, .int .i64 f, .bool o] 34)
  have HL := Lib.hid hlen
  clear h hlen
  have D : Hid (K.asked ⟨l, f, o⟩ i = if kstand ⟨l, f, o⟩ ≠ 0 then kstand ⟨l, f, o⟩ else if i < 0 ∨ (n : Int) ≤ i then 1 else 0) := Lib.hid (asked_stand HL.out i)
  generalize kstand ⟨l, f, o⟩ = z at *
  go_enter Try.func58, Try.ntmps58
  go_wp2_with fail
  refine hR.mono ?_
  rintro _ w2 ⟨rfl, b2⟩
  have Y := X.below b2 (by simp)
  replace b := b.trans (b2.mono b.size)
  clear hR X b2
  have y0 := Y.at 0 rfl
  by_cases hz : z = 0
  · subst hz
    by_cases i0 : i < 0
    · have ANS : Hid (IntK (K.asked ⟨l, f, o⟩ i) w (.returned (.int .i64 1)) w2) := Lib.hid ⟨ret_int (by rw [D.out]; simp [i0]), b⟩
      go_wp2
      go_ret
      exact ANS.out
    · by_cases i1 : (n : Int) ≤ i
      · have ANS : Hid (IntK (K.asked ⟨l, f, o⟩ i) w (.returned (.int .i64 1)) w2) := Lib.hid ⟨ret_int (by rw [D.out]; simp [i1]), b⟩
        go_wp2
        go_ret
        exact ANS.out
      · have ANS : Hid (IntK (K.asked ⟨l, f, o⟩ i) w (.returned (.int .i64 0)) w2) := Lib.hid ⟨ret_int (by rw [D.out]; simp [i0]; omega), b⟩
        go_wp2
        go_ret
        exact ANS.out
  · have t1 : (z != 0) = true := bne_iff_ne.2 hz
    have ANS : Hid (IntK (K.asked ⟨l, f, o⟩ i) w (.returned (.int .i64 z)) w2) := Lib.hid ⟨ret_int (by rw [D.out, if_pos hz]), b⟩
    clear hz
    go_wp2
    go_ret
    exact ANS.out

theorem kburns_any (f : Int) {z : Bool} (hz : decide (f ≠ -1 ∧ f < 64) = z) (w : World) : Calls Try.prog 59 #[.int .i64 f] w fun e w' => e = .returned (.bool z) ∧ w = w' := by
  have HZ := Lib.hid hz
  clear hz
  by_cases h : f = -1
  · have HD : Hid (z = false) := Lib.hid (by rw [← HZ.out]; exact decide_eq_false (by omega))
    have t1 : (f != -1) = false := by simp [h]
    clear h
    go_enter Try.func59, Try.ntmps59
    go_wp2
    go_ret
    exact ⟨ret_bool HD.out.symm, rfl⟩
  · have t1 : (f != -1) = true := bne_iff_ne.2 h
    by_cases h2 : f < 64
    · have HD : Hid (z = true) := Lib.hid (by rw [← HZ.out]; exact decide_eq_true ⟨h, h2⟩)
      clear h
      go_enter Try.func59, Try.ntmps59
      go_wp2
      go_ret
      exact ⟨ret_bool HD.out.symm, rfl⟩
    · have HD : Hid (z = false) := Lib.hid (by rw [← HZ.out]; exact decide_eq_false (by omega))
      clear h
      go_enter Try.func59, Try.ntmps59
      go_wp2
      go_ret
      exact ⟨ret_bool HD.out.symm, rfl⟩

/-- sectors that were made -/
def MadeS (l : List (List UInt8)) (n : Nat) (w : World) (e : Ending) (w' : World) : Prop :=
  ∃ (A : Option Addr) (c : Nat), e = .returned (.slice A n c) ∧ w'.ownsRow w.heap.size 24 64 (.slice A n c) n (S l) ∧ Below w.heap.size w w'
theorem kclone_any (l : List (List UInt8)) (hwf : ∀ s ∈ l, s.length = 64) (A : Option Addr) (n c : Nat) (hl : l.length = n) (w : World) (h : Rd w w.heap.size 64 A n (S l)) (hn : n * 64 ≤ 140737488355328) :
    Calls Try.prog 56 #[.slice A n c] w (MadeS l n w) := by
  have HL := Lib.hid hl
  clear hl hwf
  rcases A with _ | a
  · have hnil := Lib.run_eql_slice_nil (P := Try.prog) w 32 24 none n c 0 0 Try.underlying32
    have h0 : n = 0 ∧ l = [] := by
      rcases h.shape with ⟨h1, h2⟩ | ⟨_, b, o, e⟩
      · refine ⟨h1, List.eq_nil_of_length_eq_zero (by have := HL.out; omega)⟩
      · cases e
    obtain ⟨rfl, rfl⟩ := h0
    go_enter Try.func56, Try.ntmps56
    go_wp2
    go_ret
    exact ⟨none, 0, rfl, World.ownsRow_nil _ _ _ _, Below.refl _ _⟩
  · have hnil := Lib.run_eql_slice_nil (P := Try.prog) w 32 24 (some a) n c 0 0 Try.underlying32
    go_enter Try.func56, Try.ntmps56
    go_wp2_with (at_builtin; refine app_law0 secT rfl (.tmp 5) (.tmp 6) rfl w.heap.size rfl (litS w) rfl (h.alloc (Nat.le_refl _) _) (S_one l) (by omega) (by omega) (by simp) ?_; rintro A1 c1 w1 ⟨hown1, hg1, _, _⟩)
    go_ret
    exact ⟨A1, c1, rfl, hown1, below_app ((Below.refl _ _).alloc (Nat.le_refl _) _) (litS w) hg1 (Nat.le_refl _) (by simp)⟩

set_option maxHeartbeats 2000000 in
theorem kown_any (u : Kv) (w : World) (h : KRd w u) (hn : u.n * 64 ≤ 140737488355328) : Calls Try.prog 57 #[kval u] w (CopyR u w) := by
  have hl := h.len
  obtain ⟨⟨l, f, o⟩, A, n, c⟩ := u
  obtain ⟨h, hw, hc, hm⟩ := h
  simp only [K.wf] at h hw hc hm hn hl
  simp only [kval]
  have X := (Box.new w #[.slice A n c, .int .i64 f, .bool o] 34).alloc (.cells #[.slice none 0 0, .int .i64 0, .bool false] 34)
  have Z := Box.new (w.alloc (.cells #[.slice A n c, .int .i64 f, .bool o] 34)) #[.slice none 0 0, .int .i64 0, .bool false] 34
  rw [show (w.alloc (.cells #[.slice A n c, .int .i64 f, .bool o] 34)).heap.size = w.heap.size + 1 by simp] at Z
  have hb := ((Below.refl w.heap.size w).alloc (Nat.le_refl _) (.cells #[.slice A n c, .int .i64 f, .bool o] 34)).alloc (by simp) (.cells #[.slice none 0 0, .int .i64 0, .bool false] 34)
  have HS : Hid (((w.alloc (.cells #[.slice A n c, .int .i64 f, .bool o] 34)).alloc (.cells #[.slice none 0 0, .int .i64 0, .bool false] 34)).heap.size = w.heap.size + 2) := Lib.hid (by simp)
  replace h := h.belowH hb
  have y0 := X.at 0 rfl
  have y1 := X.at 1 rfl
  have y2 := X.at 2 rfl
  go_enter Try.func57, Try.ntmps57
  go_wp2
  generalize (w.alloc (.cells #[.slice A n c, .int .i64 f, .bool o] 34)).alloc (.cells #[.slice none 0 0, .int .i64 0, .bool false] 34) = w1 at *
  have HSZ : Hid (w1.heap.size = w.heap.size + 2) := HS
  refine wp_region_held_drew (S := (fun w' => w'.cell? ⟨w.heap.size, 0, none⟩ = some (.slice A n c) ∧ w'.cell? ⟨w.heap.size, 1, none⟩ = some (.int .i64 f) ∧ w'.cell? ⟨w.heap.size, 2, none⟩ = some (.bool o))) (by kernel_rfl) (by first | exact ⟨y0, y1, y2⟩ | exact ⟨X2.at 0 rfl, X2.at 1 rfl, X2.at 2 rfl⟩ | exact ⟨(((X2.other (by omega) _).other (by omega) _).other (by omega) _).at 0 rfl, (((X2.other (by omega) _).other (by omega) _).other (by omega) _).at 1 rfl, (((X2.other (by omega) _).other (by omega) _).other (by omega) _).at 2 rfl⟩) (fun hHeld0 => ?_)
  refine tk 0 3 rfl hHeld0 ?_
  refine tk 1 4 rfl hHeld0 ?_
  refine tk 3 6 rfl hHeld0 ?_
  refine tk 4 7 rfl hHeld0 ?_
  refine tk 5 8 rfl hHeld0 ?_
  refine tk 6 9 rfl hHeld0 ?_
  refine wpAnyH_ready (rs := [2]) (by kernel_rfl) (by simp) (AllReadyH.cons (o := ⟨some 5, _, _, _, _, _⟩) rfl (fun K hK => ?_) AllReadyH.nil)
  go_simp
  (refine (kclone_any l hw A n c hl w1.drew h hn).mono ?_; rintro e w2 ⟨A2, c2, rfl, hown, hb2⟩; have hsz := HS.out; have hb2' : Below w1.heap.size w1 w2 := (Below.refl _ _).drew.trans hb2; have X2 := X.below hb2' (by omega); have Z2 := Z.below hb2' (by omega); have hown' : w2.ownsRow w1.heap.size 24 64 (.slice A2 n c2) n (S l) := hown; have z0 := Z2.at 0 rfl; have z1 := Z2.at 1 rfl; have z2 := Z2.at 2 rfl; have zf := Z2.cold; have z := Z2.lt; have hb3 := hb.trans (hb2'.mono hb.size); clear hb2 hb2' hb hsz hown y0 y1 y2 X Z h hl hw; have a0 := X2.at 0 rfl; have a1 := X2.at 1 rfl; have a2 := X2.at 2 rfl)
  go_simp
  refine hK.out _ _ (by first | exact ⟨y0, y1, y2⟩ | exact ⟨X2.at 0 rfl, X2.at 1 rfl, X2.at 2 rfl⟩ | exact ⟨(((X2.other (by omega) _).other (by omega) _).other (by omega) _).at 0 rfl, (((X2.other (by omega) _).other (by omega) _).other (by omega) _).at 1 rfl, (((X2.other (by omega) _).other (by omega) _).other (by omega) _).at 2 rfl⟩) (fun hHeld1 => ?_)
  clear hK hHeld0 K
  try simp only [Act.put, sA, sB, sC]
  refine tk 7 10 rfl hHeld1 ?_
  refine wpAnyH_ready (rs := [8]) (by kernel_rfl) (by simp) (AllReadyH.cons (o := ⟨none, _, _, _, _, _⟩) rfl (fun K hK => ?_) AllReadyH.nil)
  go_simp
  (skip)
  go_simp
  refine hK.out _ _ (by first | exact ⟨y0, y1, y2⟩ | exact ⟨X2.at 0 rfl, X2.at 1 rfl, X2.at 2 rfl⟩ | exact ⟨(((X2.other (by omega) _).other (by omega) _).other (by omega) _).at 0 rfl, (((X2.other (by omega) _).other (by omega) _).other (by omega) _).at 1 rfl, (((X2.other (by omega) _).other (by omega) _).other (by omega) _).at 2 rfl⟩) (fun hHeld2 => ?_)
  clear hK hHeld1 K
  try simp only [Act.put, sA, sB, sC]
  refine wpAnyH_done (by kernel_rfl) ?_ _
  go_wp2
  have hz := HSZ.out
  have Z3 := ((Z2.set 0 (.slice A2 n c2)).set 1 (.int .i64 f)).set 2 (.bool o)
  have q0 := Z3.at 0 rfl
  have q1 := Z3.at 1 rfl
  have q2 := Z3.at 2 rfl
  refine bodyPost_ret (v := .agg #[.slice A2 n c2, .int .i64 f, .bool o]) (by simp [results, Try.results57, go_sem, z0, z1, z2, z]; try rfl) rfl ⟨⟨A2, c2, rfl, ?_⟩, ?_⟩
  · refine own_mono ?_ (show w.heap.size ≤ w1.heap.size by omega)
    repeat (first | (with_reducible exact hown') | (with_reducible refine ownsRow_setCell_below ?_ (by show w.heap.size + 1 < _; omega) _))
  · repeat (first | (with_reducible exact hb3) | (with_reducible refine below_set ?_ (by omega) _))
end Go.Proofs.Ytipccalbhlhljaa

namespace Go.Proofs.Ytipccalbhlhljaa
set_option linter.unusedVariables false
set_option linter.unusedSimpArgs false
open Go.RowKit
/-- the end of a sector, changed -/
theorem S_tail {l : List (List UInt8)} (hl : ∀ s ∈ l, s.length = 64) {k j : Nat} {s v : List UInt8} (hs : l[k]? = some s) (hj : j < 64) (hv : v.length = 64 - j) : laid (S l) (k * 64 + j) (U v) = S (l.set k (s.take j ++ v)) := by
  have h64 := hl s (List.mem_of_getElem? hs)
  have hk : k < l.length := (List.getElem?_eq_some_iff.1 hs).1
  have h64' : (s.take j ++ v).length = 64 := by rw [List.length_append, List.length_take, h64, hv]; omega
  have hU : (U v).length = 64 - j := by rw [U_length, hv]
  have hS := S_length l hl
  refine S_ext (m := l.length) (by rw [laid_length, hS]) (by rw [S_length _ (set_all hl h64'), List.length_set]) fun q r hq hr => ?_
  rw [S_set_get hl h64' hk hq hr]
  by_cases e : q = k
  · subst e
    rw [if_pos rfl, U_get]
    by_cases hrj : r < j
    · rw [laid_out _ _ _ _ (by omega), S_at l hl hs r hr, U_get, List.getElem?_append_left (by rw [List.length_take, h64]; omega), List.getElem?_take, if_pos hrj]
    · obtain ⟨d, rfl⟩ : ∃ d, r = j + d := ⟨r - j, by omega⟩
      rw [show q * 64 + (j + d) = q * 64 + j + d by omega, laid_in _ _ _ _ (by omega) (by omega), U_get, List.getElem?_append_right (by rw [List.length_take]; omega), List.length_take, h64, show j + d - min j 64 = d by omega]
  · rw [if_neg e, laid_out _ _ _ _ (by omega)]
theorem own_tail {base n cap g : Nat} {e : TypeId} {w : World} {l : List (List UInt8)} (h : w.ownsRow base e 64 (.slice (some ⟨g, 0, none⟩) n cap) n (S l)) (hl : ∀ s ∈ l, s.length = 64) {k j : Nat} {s : List UInt8} (hs : l[k]? = some s) (hj : j < 64) :
    (w.setCells g (k * 64 + j) (List.replicate (64 - j) (.int .u8 0))).ownsRow base e 64 (.slice (some ⟨g, 0, none⟩) n cap) n (S (l.set k (K.torn s j))) := by
  have e0 : List.replicate (64 - j) (Value.int .u8 0) = U (List.replicate (64 - j) 0) := by simp [U]
  rw [e0]
  unfold K.torn
  rw [← S_tail hl hs hj (v := List.replicate (64 - j) 0) (by simp)]
  exact own_laid _ _ _ _ h
theorem run_tail (w : World) (g k j : Nat) (hj : j < 64) : (Instr.sliceAt 24 (.pointer (some ⟨g, k * 64, none⟩)) (some (.int .i64 (j : Int))) none none).run Try.prog w = .ok (.slice (some ⟨g, k * 64 + j, none⟩) (64 - j) (64 - j)) w := by
  have hA : Try.prog.arrayLen 24 = 64 := by kernel_rfl
  have hE : Try.prog.elem 24 = 5 := by kernel_rfl
  rw [run_sliceAt_array_l w 24 ⟨g, k * 64, none⟩ (by rw [hA, hE]; exact Try.underlying24) .i64 (j : Int) (by omega) (by rw [hA]; omega), hA, hE]
  have hz : (sizeOf 5).run Try.prog w = .ok 1 w := by simp [Try.sizeOf5]
  rw [hz]
  simp only [Result.andThen_ok, slicedAt, Int.toNat_natCast]
  rw [if_neg (by omega)]
  simp [Addr.add]

end Go.Proofs.Ytipccalbhlhljaa

