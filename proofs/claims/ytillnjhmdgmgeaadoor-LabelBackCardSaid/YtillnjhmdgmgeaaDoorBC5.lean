/- Package label: a text's name, a name's text, is one name under another one. -/
import Derived.Test.YtillnjhmdgmgeaaDoorBC4
namespace Go.Proofs.YtillnjhmdgmgeaaDoor
set_option linter.unusedVariables false
set_option linter.unusedSimpArgs false
open Go.RowKit Go.Shelf
namespace Lab
theorem trim_is (t : List UInt8) : Lib.trimSuffix t [46] = trim t := by
  unfold Lib.trimSuffix Lib.hasSuffix trim
  by_cases h : t.getLast? = some 46
  · rw [if_pos h]
    obtain ⟨u, rfl⟩ := List.getLast?_eq_some_iff.1 h
    have h2 : ([46] : List UInt8).isSuffixOf (u ++ [46]) = true := List.isSuffixOf_iff_suffix.2 (List.suffix_append _ _)
    rw [if_pos h2, List.dropLast_concat]
    simp
  · rw [if_neg h, if_neg]
    intro h2
    obtain ⟨u, hu⟩ := List.isSuffixOf_iff_suffix.1 h2
    exact h (List.getLast?_eq_some_iff.2 ⟨u, hu.symm⟩)
theorem trim_nil {t : List UInt8} (h : trim t = []) : of t = ([0], 0) := by
  unfold of
  rw [if_pos]
  unfold trim at h
  split at h
  · rename_i h1
    obtain ⟨u, rfl⟩ := List.getLast?_eq_some_iff.1 h1
    rw [List.dropLast_concat] at h
    subst h
    exact Or.inr rfl
  · exact Or.inl h
theorem trim_ne {t : List UInt8} (h : trim t ≠ []) : of t = join (parts (trim t)) := by
  unfold of
  rw [if_neg]
  rintro (h1 | h1)
  · exact h (by rw [h1]; rfl)
  · exact h (by rw [h1]; rfl)
theorem trim_len (t : List UInt8) : (trim t).length ≤ t.length := by unfold trim; split <;> simp
theorem join_dots : ∀ (x : List UInt8) (r : List (List UInt8)), Lib.join (x :: r) [46] ++ [46] = dots (x :: r)
  | x, r => by
    rw [Lib.join_cons]
    have h : ∀ r : List (List UInt8), Lib.joinTail [46] r ++ [46] = [46] ++ dots r := by
      intro r
      induction r with
      | nil => rfl
      | cons y r ih =>
        show ([46] ++ y) ++ Lib.joinTail [46] r ++ [46] = [46] ++ (dot y ++ dots r)
        rw [List.append_assoc, ih]
        simp [dot]
    show x ++ Lib.joinTail [46] r ++ [46] = dot x ++ dots r
    rw [List.append_assoc, h r]
    simp [dot]
theorem join_shown {l : List (List UInt8)} (h : l ≠ []) : Lib.join l [46] ++ [46] = shown l := by
  cases l with
  | nil => exact absurd rfl h
  | cons x r => unfold shown; rw [if_neg (by simp), join_dots]
theorem bad_not {l : List (List UInt8)} (h : ∀ x ∈ l, ¬ 46 ∈ x) : bad l = false := by
  unfold bad
  rw [List.any_eq_false]
  intro x hx
  simpa using h x hx
theorem parts_lens : ∀ (n : Nat) (t : List UInt8), t.length ≤ n → ∀ x ∈ parts t, x.length ≤ n
  | 0, t, h, x, hx => by
    obtain rfl : t = [] := List.eq_nil_of_length_eq_zero (by omega)
    obtain rfl : x = [] := by simpa [parts] using hx
    exact Nat.le_refl _
  | n + 1, t, h, x, hx => by
    by_cases hd : 46 ∈ t
    · obtain ⟨k, a, b, _, rfl, _, ha⟩ := idx_yes hd
      rw [parts_cut ha] at hx
      simp at h
      rcases List.mem_cons.1 hx with rfl | hx
      · omega
      · have := parts_lens n b (by omega) x hx; omega
    · rw [parts_one hd] at hx
      obtain rfl : x = t := by simpa using hx
      exact h
theorem under_is {a b : List UInt8} (ha : right a = true) (hb : right b = true) : under a b = (decide ((labels (lower b)).length ≤ (labels (lower a)).length) && decide ((labels (lower a)).drop ((labels (lower a)).length - (labels (lower b)).length) = labels (lower b))) := by
  obtain ⟨l, ol, rfl⟩ := right_iff.1 ha
  obtain ⟨m, om, rfl⟩ := right_iff.1 hb
  rw [lower_names ol, lower_names om, labels_names (ok_lows ol), labels_names (ok_lows om)]
  have h := under_names ol om
  by_cases hs : lows m <:+ lows l
  · rw [h.2 hs, decide_eq_true hs.length_le, decide_eq_true (List.suffix_iff_eq_drop.1 hs).symm]
    rfl
  · have h1 : under (names l) (names m) = false := by
      cases hu : under (names l) (names m) with
      | false => rfl
      | true => exact absurd (h.1 hu) hs
    rw [h1]
    by_cases h2 : (lows m).length ≤ (lows l).length
    · have h3 : decide ((lows l).drop ((lows l).length - (lows m).length) = lows m) = false := decide_eq_false (fun e => hs (List.suffix_iff_eq_drop.2 e.symm))
      rw [h3]; simp
    · rw [decide_eq_false h2]; rfl
theorem under_not {a b : List UInt8} (h : right a = false ∨ right b = false) : under a b = false := by
  unfold under
  rcases h with h | h <;> rw [h] <;> simp
end Lab
theorem map_strB : ∀ l : List (List UInt8), (l.map strB).map (·.data.toList) = l
  | [] => rfl
  | x :: l => by
    show x :: (l.map strB).map (·.data.toList) = x :: l
    rw [map_strB l]
theorem ldotted (x : List UInt8) (w : World) : Calls Tryd.prog 30 #[.string (strB x)] w fun e w' => e = .returned (.bool (decide (46 ∈ x))) ∧ w' = w := by
  have hc := strings_Contains_one (strB x) 46 w
  have e : decide (0 ≤ Lib.indexByte (strB x).data.toList 46) = decide (46 ∈ x) := by
    show decide (0 ≤ Lib.indexByte x 46) = _
    by_cases h : 46 ∈ x
    · obtain ⟨k, _, _, hk, _⟩ := Lab.idx_yes h
      rw [hk, decide_eq_true h, decide_eq_true (by omega)]
    · rw [Lab.idx_no h, decide_eq_false h]; rfl
  rw [e] at hc
  go_enter Tryd.func30, Tryd.ntmps30
  go_wp2_with fail
  refine hc.mono ?_
  rintro e w1 ⟨rfl, rfl⟩
  go_wp2
  go_ret
  exact ⟨rfl, rfl⟩
theorem egDotted : ∀ args w, (callFunc 30 args).run Tryd.prog w = .ok (.enter 30 args) w := enters_of Tryd.func30 (by kernel_rfl) rfl
theorem lfindT (l : List (List UInt8)) (A : Option Addr) (n c B : Nat) (w : World) (h : Rd w B 1 A n (Tt l)) (hn : n ≤ 1000000) :
    Calls Tryd.prog 37 #[.slice A n c, .func (.func 30) #[] #[]] w fun e w' => (∃ i : Int, e = .returned (.int .i64 i) ∧ decide (0 ≤ i) = Lab.bad l) ∧ w = w' := by
  have hl : l.length = n := by have := h.len1; rwa [Tt_len] at this
  have HL := Lib.hid hl
  clear hl
  have eg := egDotted
  go_enter Tryd.func37, Tryd.ntmps37
  go_wp2
  go_loop [8] (fun i => ∃ k : Nat, k ≤ n ∧ i = .int .i64 k ∧ Hid (∀ y ∈ l.take k, ¬ 46 ∈ y)) (fun i => n - (intOf i).toNat)
  case atStart => exact ⟨0, by omega, rfl, Lib.hid (by simp)⟩
  case round =>
    obtain ⟨k, hk, rfl, HN⟩ := hrel
    by_cases hlt : k < n
    · obtain ⟨b, o, x, e1, hb, hx, c0⟩ := h.atT hlt
      subst e1
      have HX := Lib.hid hx
      clear hx
      go_wp2_with fail
      refine (ldotted x _).mono ?_
      rintro e w2 ⟨rfl, rfl⟩
      by_cases hd : 46 ∈ x
      · have g1 : decide (46 ∈ x) = true := decide_eq_true hd
        have HB := Lib.hid (Lab.bad_at HX.out hd)
        rw [g1]
        clear hd g1
        go_wp2
        go_ret
        exact ⟨⟨_, rfl, by rw [HB.out]; exact decide_eq_true (by omega)⟩, rfl⟩
      · have g1 : decide (46 ∈ x) = false := decide_eq_false hd
        have HN2 : Hid (∀ y ∈ l.take (k + 1), ¬ 46 ∈ y) := Lib.hid (by
          rw [take_more HX.out]
          intro y hy
          rcases List.mem_append.1 hy with hy | hy
          · exact HN.out y hy
          · obtain rfl : y = x := by simpa using hy
            exact hd)
        rw [g1]
        clear hd g1
        go_wp2
        go_round
        case rel => exact ⟨k + 1, by omega, by go_num, HN2⟩
        case measure => simp [intOf]; omega
    · have HA : Hid (Lab.bad l = false) := Lib.hid (Lab.bad_not (by have := HN.out; rwa [List.take_of_length_le (by have := HL.out; omega)] at this))
      go_wp2
      go_ret
      exact ⟨⟨_, rfl, by rw [HA.out]; rfl⟩, rfl⟩
theorem lhasT (l : List (List UInt8)) (A : Option Addr) (n c B : Nat) (w : World) (h : Rd w B 1 A n (Tt l)) (hn : n ≤ 1000000) :
    Calls Tryd.prog 29 #[.slice A n c, .func (.func 30) #[] #[]] w fun e w' => e = .returned (.bool (Lab.bad l)) ∧ w' = w := by
  go_enter Tryd.func29, Tryd.ntmps29
  go_wp2_with fail
  refine (lfindT l A n c B w h hn).mono ?_
  rintro e w1 ⟨⟨i, rfl, hi⟩, rfl⟩
  have HI := Lib.hid hi
  clear hi
  go_wp2
  go_ret
  exact ⟨ret_bool HI.out, rfl⟩
theorem lequalT (l l' : List (List UInt8)) (A A' : Option Addr) (n n' c c' B B' : Nat) (w : World) (h : Rd w B 1 A n (Tt l)) (h' : Rd w B' 1 A' n' (Tt l')) (hn : n ≤ 1000000) (hn' : n' ≤ 1000000) :
    Calls Tryd.prog 33 #[.slice A n c, .slice A' n' c'] w fun e w' => e = .returned (.bool (decide (l = l'))) ∧ ∃ q, w' = w.drewN q := by
  have hl : l.length = n := by have := h.len1; rwa [Tt_len] at this
  have hl' : l'.length = n' := by have := h'.len1; rwa [Tt_len] at this
  by_cases hnn : n = n'
  · by_cases h0 : n = 0
    · subst h0
      subst hnn
      refine (slices_Equal_string_empty A A' c 0 c' w (by omega)).mono ?_
      rintro e w1 ⟨rfl, rfl⟩
      obtain rfl : l = [] := List.eq_nil_of_length_eq_zero hl
      obtain rfl : l' = [] := List.eq_nil_of_length_eq_zero hl'
      exact ⟨rfl, 0, rfl⟩
    · obtain ⟨b, o, e, hb, hc⟩ := h.at1 (k := 0) (by omega)
      obtain ⟨b', o', e', hb', hc'⟩ := h'.at1 (k := 0) (by omega)
      subst e e'
      have key : ∀ (m : List (List UInt8)) (w : World) (b o n : Nat), m.length = n → (∀ k, k < n → w.cell? ⟨b, o + k, none⟩ = (Tt m)[k]?) → ∀ j, j < (m.map strB).length → w.cell? ⟨b, o + j, none⟩ = some (.string ((m.map strB).getD j ByteArray.empty)) := by
        intro m w b o n hm hcc j hj
        rw [List.length_map] at hj
        have h1 : m[j]? = some m[j] := List.getElem?_eq_getElem hj
        rw [hcc j (by omega), Tt_get, h1]
        simp [tc, List.getD, h1]
      refine (slices_Equal_string b o n c b' o' n' c' (l.map strB) (l'.map strB) w (by simp; omega) (by simp; omega) (by omega) (by omega) (key l w b o n hl hc) (key l' w b' o' n' hl' hc')).mono ?_
      rintro e w1 ⟨rfl, hq⟩
      refine ⟨?_, hq⟩
      rw [List.take_of_length_le (by simp; omega), List.take_of_length_le (by simp; omega)]
      have inj : ∀ (a b : List (List UInt8)), a.map strB = b.map strB → a = b := by
        intro a
        induction a with
        | nil => intro b hb; cases b with | nil => rfl | cons _ _ => cases hb
        | cons x a ih =>
          intro b hb
          cases b with
          | nil => cases hb
          | cons y b =>
            simp only [List.map_cons, List.cons.injEq] at hb
            rw [strB_inj hb.1, ih b hb.2]
      by_cases hll : l = l'
      · rw [decide_eq_true hll, decide_eq_true (by rw [hll])]
      · rw [decide_eq_false hll, decide_eq_false (fun e => hll (inj _ _ e))]
  · refine (slices_Equal_string_lens A A' n c n' c' w hnn).mono ?_
    rintro e w1 ⟨rfl, rfl⟩
    refine ⟨?_, 0, rfl⟩
    rw [decide_eq_false (fun e => hnn (by rw [← hl, ← hl', e]))]
theorem blsplit_seq (n : Nat) (hn : 1 ≤ n) (b m : Nat) (hb : b + 2 < m) (s : List UInt8) (hs : s.length ≤ 1000000) (w : World) (hm : m ≤ w.heap.size) (h1 : Boxed w b 9 (.string (strB s))) (h2 : Boxed w (b + 1) 9 (.string ⟨#[46]⟩)) (h3 : Boxed w (b + 1 + 1) 3 (.int .i64 0)) :
    SeqC n Tryd.prog 44 #[.pointer (some ⟨b + 1, 0, none⟩), .pointer (some ⟨b, 0, none⟩), .pointer (some ⟨b + 1 + 1, 0, none⟩)] encsB b m (Lab.parts s) w := fun lp J Jx W hW _ hJc hY h0 =>
  blsplit1_in n hn lp b b m ⟨Nat.le_refl _, hb⟩ s hs J Jx hJc hY W (Boxed.keep h1 hW h1.lt) (Boxed.keep h2 hW h2.lt) (Boxed.keep h3 hW h3.lt) h0
set_option maxHeartbeats 1000000 in
theorem blof_any (s : List UInt8) (hs : s.length ≤ 100000) (w : World) : Calls Tryd.prog 9 #[.string (strB s)] w (TxE (Lab.of s).1 (Lab.of s).2 w) := by
  have ht := strings_TrimSuffix (strB s) ⟨#[46]⟩ w (by rw [strB_sz]; omega)
  have e : (⟨(Lib.trimSuffix (strB s).data.toList (⟨#[46]⟩ : ByteArray).data.toList).toArray⟩ : ByteArray) = strB (Lab.trim s) := by
    show strB (Lib.trimSuffix s [46]) = _
    rw [Lab.trim_is]
  rw [e] at ht
  have htl := Lab.trim_len s
  obtain ⟨t, hte⟩ : ∃ t, Lab.trim s = t := ⟨_, rfl⟩
  rw [hte] at ht htl
  go_enter Tryd.func9, Tryd.ntmps9
  go_wp2_with fail
  refine ht.mono ?_
  rintro e w1 ⟨rfl, rfl⟩
  clear ht e
  by_cases h0 : t = []
  · have EZ := Lib.hid (Lab.trim_nil (t := s) (by rw [hte, h0]))
    have s1 : (strB t == (⟨#[]⟩ : ByteArray)) = true := by rw [h0]; rfl
    have s2 : t.isEmpty = true := by rw [h0]; rfl
    clear h0 hte
    go_wp2_with fail
    refine (bljoin_any [] none 0 0 w1 (Rd.zero _ _ _ _) (by omega) (by simp)).mono ?_
    rintro e w2 ⟨rfl, hb⟩
    go_wp2
    go_ret2
    exact ⟨by rw [EZ.out]; rfl, hb⟩
  · have EZ : Hid (Lab.of s = Lab.join (Lab.parts t)) := Lib.hid (by rw [← hte]; exact Lab.trim_ne (by rw [hte]; exact h0))
    have s1 : (strB t == (⟨#[]⟩ : ByteArray)) = false := by have h1 := strB_beq t []; rw [decide_eq_false h0] at h1; exact h1
    have s2 : t.isEmpty = false := by cases t with | nil => exact absurd rfl h0 | cons a b => rfl
    have HP := Lib.hid (Lab.parts_lens 100000 t (by omega))
    clear h0 hte
    go_wp2_with fail
    refine ((callsIn_wide (n := 4)).1 (blsplit_in 4 (by omega) t w1)).mono ?_
    rintro e w2 ⟨rfl, rfl⟩
    have b1 := ((Boxed.new w1 9 (.string (strB t))).alloc (.cells #[.string ⟨#[46]⟩] 9)).alloc (.cells #[.int .i64 0] 3)
    have b2 := (Boxed.new (w1.alloc (.cells #[.string (strB t)] 9)) 9 (.string ⟨#[46]⟩)).alloc (.cells #[.int .i64 0] 3)
    have b3 := Boxed.new ((w1.alloc (.cells #[.string (strB t)] 9)).alloc (.cells #[.string ⟨#[46]⟩] 9)) 3 (.int .i64 0)
    have hb0 : Below w1.heap.size w1 (((w1.alloc (.cells #[.string (strB t)] 9)).alloc (.cells #[.string ⟨#[46]⟩] 9)).alloc (.cells #[.int .i64 0] 3)) := (((Below.refl _ w1).alloc (Nat.le_refl _) _).alloc (by simp) _).alloc (by simp; omega) _
    have hsz : (((w1.alloc (.cells #[.string (strB t)] 9)).alloc (.cells #[.string ⟨#[46]⟩] 9)).alloc (.cells #[.int .i64 0] 3)).heap.size = w1.heap.size + 3 := by simp
    simp only [World.size_alloc] at b1 b2 b3
    generalize ((w1.alloc (.cells #[.string (strB t)] 9)).alloc (.cells #[.string ⟨#[46]⟩] 9)).alloc (.cells #[.int .i64 0] 3) = W1 at *
    have cj := (callsIn_wide (n := 8)).1 (bljoin_in 8 (by omega) _ _ egSplit w1.heap.size (Lab.parts t) (fun x hx => by have := HP.out x hx; omega) W1 (by omega) (fun W hW => blsplit_seq _ (by omega) w1.heap.size W1.heap.size (by omega) t (by omega) W hW.size (Boxed.keep b1 hW (by omega)) (Boxed.keep b2 hW (by omega)) (Boxed.keep b3 hW (by omega))))
    clear b1 b2 b3
    go_wp2_with fail
    refine cj.mono ?_
    rintro e w3 ⟨rfl, hb⟩
    clear cj
    go_wp2
    go_ret2
    exact ⟨by rw [EZ.out]; rfl, hb0.trans hb⟩
set_option maxHeartbeats 1000000 in
theorem bltext_any (s : List UInt8) (hs : s.length ≤ 100000) (w : World) : Calls Tryd.prog 11 #[.string (strB s)] w (TxE (Lab.text s).1 (Lab.text s).2 w) := by
  cases hc : Lab.cut s with
  | none =>
    have EZ := Lib.hid (Lab.text_none hc)
    have HR : Hid (Lab.right s = false) := Lib.hid (by unfold Lab.right; rw [hc]; rfl)
    clear hc
    go_enter Tryd.func11, Tryd.ntmps11
    go_wp2_with fail
    refine (cright_at HR.out (by omega) w).mono ?_
    rintro e w1 ⟨rfl, h1⟩
    go_wp2
    go_ret2
    exact ⟨by rw [EZ.out]; rfl, h1⟩
  | some l =>
    have HR : Hid (Lab.right s = true) := Lib.hid (by unfold Lab.right; rw [hc]; rfl)
    have HL : Hid (Lab.labels s = l) := Lib.hid (by unfold Lab.labels; rw [hc]; rfl)
    have OL := Lib.hid (Lab.cut_some hc).1
    have EZ := Lib.hid (Lab.text_some hc)
    have hll := Lab.ok_few OL.out
    clear hc
    go_enter Tryd.func11, Tryd.ntmps11
    go_wp2_with fail
    refine (cright_at HR.out (by omega) w).mono ?_
    rintro e w1 ⟨rfl, b0⟩
    go_wp2_with fail
    refine (clabels_at HL.out hs w1).mono ?_
    rintro e w2 ⟨⟨A, n, c, rfl, hn, R, hnc, hc2⟩, h1⟩
    replace b0 := b0.trans (h1.mono b0.size)
    have HN := Lib.hid hn
    have hn3 : n ≤ 254 := by omega
    clear h1 hn
    go_wp2_with fail
    refine (lhasT l A n c _ w2 R (by omega)).mono ?_
    rintro e w3 ⟨rfl, rfl⟩
    cases hb : Lab.bad l with
    | true =>
      have EZ2 : Hid (Lab.text s = ([], 3)) := Lib.hid (by rw [EZ.out, if_pos hb])
      clear hb
      go_wp2
      go_ret2
      exact ⟨by rw [EZ2.out]; rfl, b0⟩
    | false =>
      have EZ2 : Hid (Lab.text s = (Lab.shown l, 0)) := Lib.hid (by rw [EZ.out, if_neg (by rw [hb]; simp)])
      clear hb
      have hlen : (Lib.join l [46]).length ≤ 1000 := by
        cases l with
        | nil => simp [Lib.join]
        | cons x r =>
          have h5 := congrArg List.length (Lab.join_dots x r)
          rw [List.length_append, Lab.dots_len] at h5
          have h6 := OL.out.2
          rw [Lab.names_len] at h6
          simp only [List.length_cons, List.length_nil] at h5
          omega
      have SH : Hid (Lib.join l [46] ++ [46] = Lab.shown l) := Lib.hid (by
        cases l with
        | nil => rfl
        | cons x r => exact Lab.join_shown (by simp))
      have cj : Calls Tryd.prog 31 #[.slice A n c, .string ⟨#[46]⟩] w3 fun e w' => e = .returned (.string (strB (Lib.join l [46]))) ∧ Below w3.heap.size w3 w' := by
        by_cases h0 : n = 0
        · obtain rfl : l = [] := List.eq_nil_of_length_eq_zero (by have := HN.out; omega)
          subst h0
          refine (strings_Join_none A c _ w3).mono ?_
          rintro e w4 ⟨rfl, rfl⟩
          exact ⟨rfl, Below.refl _ _⟩
        · obtain ⟨b, o, e, hb, hcc⟩ := R.at1 (k := 0) (by omega)
          subst e
          have hln := HN.out
          have h7 := strings_Join b o c (l.map strB) ⟨#[46]⟩ w3 (fun j x hx => by
            rw [List.getElem?_map] at hx
            obtain ⟨y, hy, rfl⟩ := Option.map_eq_some_iff.1 hx
            have hj := (List.getElem?_eq_some_iff.1 hy).1
            rw [hcc j (by omega), Tt_get, hy]
            rfl) hb (by simp; omega) (by simp; omega) (by
              have e9 : (l.map strB).map (·.data.toList) = l := map_strB l
              rw [e9]
              show (Lib.join l [46]).length ≤ _
              omega)
          rw [List.length_map, ← hln] at h7
          refine h7.mono ?_
          rintro e w4 ⟨rfl, hb4⟩
          refine ⟨?_, hb4⟩
          have e9 : (l.map strB).map (·.data.toList) = l := map_strB l
          rw [e9]
          rfl
      obtain ⟨j, hj⟩ : ∃ j, Lib.join l [46] = j := ⟨_, rfl⟩
      rw [hj] at cj hlen SH
      have T2 : ∀ w, (Op.stringOp .add (strB j) (⟨#[46]⟩ : ByteArray)).run Tryd.prog w = .ok (.string (strB (j ++ [46]))) w := fun w => run_two (a := j) (b := [46]) (by simp; omega)
      clear hj
      go_wp2_with fail
      refine cj.mono ?_
      rintro e w4 ⟨rfl, h1⟩
      replace b0 := b0.trans (h1.mono b0.size)
      clear h1 cj
      have T3 := T2 w4
      go_wp2
      go_ret2
      exact ⟨by rw [EZ2.out, ← SH.out]; rfl, b0⟩
set_option maxHeartbeats 2000000 in
theorem blunder_any (a b : List UInt8) (ha : a.length ≤ 100000) (hb : b.length ≤ 100000) (w : World) : Calls Tryd.prog 22 #[.string (strB a), .string (strB b)] w (BoB (Lab.under a b) w) := by
  have b0 := Below.refl w.heap.size w
  cases hra : Lab.right a with
  | false =>
    have EZ := Lib.hid (Lab.under_not (b := b) (Or.inl hra))
    have HRA := Lib.hid hra
    clear hra
    go_enter Tryd.func22, Tryd.ntmps22
    go_wp2_with fail
    refine (cright_at HRA.out (by omega) w).mono ?_
    rintro e w1 ⟨rfl, h1⟩
    go_wp2
    go_ret
    exact ⟨ret_bool EZ.out.symm, h1⟩
  | true =>
    cases hrb : Lab.right b with
    | false =>
      have EZ := Lib.hid (Lab.under_not (a := a) (Or.inr hrb))
      have HRA := Lib.hid hra
      have HRB := Lib.hid hrb
      clear hra hrb
      go_enter Tryd.func22, Tryd.ntmps22
      go_wp2_with fail
      refine (cright_at HRA.out (by omega) w).mono ?_
      rintro e w1 ⟨rfl, h1⟩
      replace b0 := b0.trans (h1.mono b0.size)
      clear h1
      go_wp2_with fail
      refine (cright_at HRB.out (by omega) w1).mono ?_
      rintro e w2 ⟨rfl, h1⟩
      replace b0 := b0.trans (h1.mono b0.size)
      go_wp2
      go_ret
      exact ⟨ret_bool EZ.out.symm, b0⟩
    | true =>
      have EZ := Lib.hid (Lab.under_is hra hrb)
      have HRA := Lib.hid hra
      have HRB := Lib.hid hrb
      obtain ⟨ta, hta⟩ : ∃ z, Lab.lower a = z := ⟨_, rfl⟩
      obtain ⟨tb, htb⟩ : ∃ z, Lab.lower b = z := ⟨_, rfl⟩
      have hal : ta.length ≤ 100000 := by rw [← hta, Lab.lower_len]; exact ha
      have hbl : tb.length ≤ 100000 := by rw [← htb, Lab.lower_len]; exact hb
      obtain ⟨l, hl⟩ : ∃ z, Lab.labels ta = z := ⟨_, rfl⟩
      obtain ⟨m, hm⟩ : ∃ z, Lab.labels tb = z := ⟨_, rfl⟩
      have hlf : l.length ≤ 254 := by
        rw [← hl, ← hta]
        obtain ⟨la, ola, rfl⟩ := Lab.right_iff.1 hra
        rw [Lab.lower_names ola, Lab.labels_names (Lab.ok_lows ola)]
        exact Lab.ok_few (Lab.ok_lows ola)
      have hmf : m.length ≤ 254 := by
        rw [← hm, ← htb]
        obtain ⟨lb, olb, rfl⟩ := Lab.right_iff.1 hrb
        rw [Lab.lower_names olb, Lab.labels_names (Lab.ok_lows olb)]
        exact Lab.ok_few (Lab.ok_lows olb)
      rw [hta, htb, hl, hm] at EZ
      have HTA := Lib.hid hta
      have HTB := Lib.hid htb
      have HLA := Lib.hid hl
      have HLB := Lib.hid hm
      clear hra hrb hta htb hl hm
      go_enter Tryd.func22, Tryd.ntmps22
      go_wp2_with fail
      refine (cright_at HRA.out (by omega) w).mono ?_
      rintro e w1 ⟨rfl, h1⟩
      replace b0 := b0.trans (h1.mono b0.size)
      clear h1
      go_wp2_with fail
      refine (cright_at HRB.out (by omega) w1).mono ?_
      rintro e w2 ⟨rfl, h1⟩
      replace b0 := b0.trans (h1.mono b0.size)
      clear h1
      go_wp2_with fail
      refine (clower_at HTA.out ha w2).mono ?_
      rintro e w3 ⟨rfl, h1⟩
      replace b0 := b0.trans (h1.mono b0.size)
      clear h1
      go_wp2_with fail
      refine (clabels_at HLA.out hal w3).mono ?_
      rintro e w4 ⟨⟨A1, n1, c1, rfl, hn1, R1, hc1, hd1⟩, h1⟩
      replace b0 := b0.trans (h1.mono b0.size)
      have hn3 : n1 ≤ 254 := by omega
      have HN1 := Lib.hid hn1
      clear h1 hn1
      go_wp2_with fail
      refine (clower_at HTB.out hb w4).mono ?_
      rintro e w5 ⟨rfl, h1⟩
      replace b0 := b0.trans (h1.mono b0.size)
      replace R1 := R1.belowH h1
      clear h1
      go_wp2_with fail
      refine (clabels_at HLB.out hbl w5).mono ?_
      rintro e w6 ⟨⟨A2, n2, c2, rfl, hn2, R2, hc2, hd2⟩, h1⟩
      replace b0 := b0.trans (h1.mono b0.size)
      replace R1 := R1.belowH h1
      have hn4 : n2 ≤ 254 := by omega
      have HN2 := Lib.hid hn2
      clear h1 hn2 hlf hmf
      have u1 : IntKind.i64.wrap ((n1 : Int) - (n2 : Int)) = (n1 : Int) - (n2 : Int) := i64_of (by omega) (by omega)
      have u2 : wrap64 ((n1 : Int) - (n2 : Int)) = (n1 : Int) - (n2 : Int) := w64_of (by omega) (by omega)
      by_cases hlt : n1 < n2
      · have EZ2 : Hid (Lab.under a b = false) := Lib.hid (by rw [EZ.out, decide_eq_false (by have := HN1.out; have := HN2.out; omega)]; rfl)
        have g1 : decide (0 ≤ (n1 : Int) - (n2 : Int)) = false := decide_eq_false (by omega)
        obtain ⟨dn, hdn⟩ : ∃ z : Int, (n1 : Int) - (n2 : Int) = z := ⟨_, rfl⟩
        rw [hdn] at u1 u2 g1
        have U := Lib.hid hdn
        have u3 : IntKind.i64.wrap ((n1 : Int) - (n2 : Int)) = dn := by rw [hdn]; exact u1
        have u4 : wrap64 ((n1 : Int) - (n2 : Int)) = dn := by rw [hdn]; exact u2
        clear hlt hdn u1 u2
        go_wp2
        go_ret
        exact ⟨ret_bool EZ2.out.symm, b0⟩
      · have g1 : decide (0 ≤ (n1 : Int) - (n2 : Int)) = true := decide_eq_true (by omega)
        have EZ2 : Hid (Lab.under a b = decide (l.drop (n1 - n2) = m)) := Lib.hid (by rw [EZ.out, decide_eq_true (by have := HN1.out; have := HN2.out; omega), ← HN1.out, ← HN2.out]; rfl)
        have CU := fun w => run_cut_l (P := Tryd.prog) strT w A1 n1 c1 (n1 - n2) ((n1 : Int) - (n2 : Int)) (by omega) (by omega)
        have RC := R1.cut1 (cap := c1) (k := n1 - n2) (by omega) hc1
        rw [← Tt_drop] at RC
        obtain ⟨d, hd⟩ : ∃ d, l.drop (n1 - n2) = d := ⟨_, rfl⟩
        rw [hd] at RC EZ2
        obtain ⟨A3, hA3⟩ : ∃ A3, cutA A1 c1 (n1 - n2) 1 = A3 := ⟨_, rfl⟩
        rw [hA3] at RC CU
        obtain ⟨dn, hdn⟩ : ∃ z : Int, (n1 : Int) - (n2 : Int) = z := ⟨_, rfl⟩
        rw [hdn] at u1 u2 g1
        simp only [hdn] at CU
        have u3 : IntKind.i64.wrap ((n1 : Int) - (n2 : Int)) = dn := by rw [hdn]; exact u1
        have u4 : wrap64 ((n1 : Int) - (n2 : Int)) = dn := by rw [hdn]; exact u2
        clear hd hA3 R1 hdn u1 u2
        go_wp2_with fail
        refine (lequalT d m A3 A2 _ n2 _ c2 _ _ w6 RC R2 (by omega) (by omega)).mono ?_
        rintro e w7 ⟨rfl, q, rfl⟩
        clear u3 u4 CU g1
        go_wp2
        go_ret
        exact ⟨ret_bool EZ2.out.symm, kdrewB b0 _⟩
end Go.Proofs.YtillnjhmdgmgeaaDoor
