/- The walk of window's law on arrivals. -/
import Derived.Test.YtmhlhhfolbeifaaNAlive
import Derived.Test.YtmhlhhfolbeifaaNRows
import Derived.Test.YtmhlhhfolbeifaaRRows
import Derived.Deep.DeepCutAuto
namespace Go.Proofs.Ytmhlhhfolbeifaa
set_option linter.unusedVariables false
set_option linter.unusedSimpArgs false
open Go.RowKit

theorem step_app_law0 {P : Program} {t e : TypeId} {z : Value} {size bytes : Nat} {ops : Array Oper} {o : Oper} {a : Act} {w : World} {K : Act → World → Prop} {Q : Exit → Act → World → Prop} {E : Prop} (T : SlT P t e z size bytes) (hgd : o.guard = none) (s x : Operand)
    (ho : o.op = .call { callee := .builtin .append, args := #[s, x], argTypes := #[t, t] })
    (base : Nat) {v : Value} (hs : a.eval s = v) (hown : w.ownsRow base e size v 0 [])
    {B : Nat} {A : Option Addr} {m c : Nat} {news : List Value} (hx : a.eval x = .slice A m c) (hr : Rd w B size A m news) (h1 : ∀ u ∈ news, u.oneCell' = true)
    (hb : m * bytes ≤ 140737488355328) (hl : m ≤ 140737488355328) (hbase : base ≤ w.heap.size)
    (h : ∀ A' c' w', Appd w w' base e size v (.slice A' m c') 0 m [] news → K (a.put o.dst (.slice A' m c')) w') :
    if Region.wanted o (yielded ops a.tmps) = true then Oper.wp P o a w K Q else E :=
  step_app_law T hgd s x ho base hs hown hx hr h1 (by rw [Nat.zero_add]; exact hb) (by rw [Nat.zero_add]; exact hl) hbase (by rw [Nat.zero_add]; exact h)

theorem arr_len {x y : Wi} {now most er : Int} (h : arr x now most = (y, er)) {k : Nat} (hx : x.gaps.length ≤ k) (hk : 16 ≤ k := by omega) : y.gaps.length ≤ k := by
  unfold arr at h
  split at h
  · injection h with h1 h2
    subst h1
    show (N.keep _).length ≤ k
    rw [N.keep_length]
    omega
  · injection h with h1 h2
    subst h1
    exact hx
theorem wrd_set {w : World} {u : Wv} (h : WRd w u) {b : Nat} (hne : ∀ bk o, u.A = some ⟨bk, o, none⟩ → bk ≠ b) (o1 o2 : Nat) (v1 v2 : Value) : WRd ((w.setCell ⟨b, o1, none⟩ v1).setCell ⟨b, o2, none⟩ v2) u :=
  ⟨((h.1.other hne v1).other hne v2).more (by simp), h.2⟩

set_option maxHeartbeats 8000000 in
set_option maxRecDepth 100000 in
theorem law_WindowArrives (u v : Wv) (p q r : Int) (W : World) (w0 : WIn W u) (w1 : WIn W v) (w2 : Three p q r) :
    Calls Try.prog 3 #[wval u, wval v, .agg #[.int .i64 p, .int .i64 q, .int .i64 r]] W fun e w' => e = .returned (.bool true) ∧ Below W.heap.size W w' := by
  obtain ⟨⟨last, l⟩, A, n, c⟩ := u
  obtain ⟨⟨last', l'⟩, A', n', c'⟩ := v
  obtain ⟨Ru, hlb⟩ := w0
  obtain ⟨Rv, _⟩ := w1
  obtain ⟨bp, bq, br⟩ := w2
  simp only at hlb
  simp only [wval]
  have P := ((Box.new W #[.int .i64 last, .slice A n c] 24).alloc (.cells #[.int .i64 last', .slice A' n' c'] 24)).alloc (.cells #[.int .i64 p, .int .i64 q, .int .i64 r] 25)
  have Q := (Box.new (W.alloc (.cells #[.int .i64 last, .slice A n c] 24)) #[.int .i64 last', .slice A' n' c'] 24).alloc (.cells #[.int .i64 p, .int .i64 q, .int .i64 r] 25)
  have H := Box.new ((W.alloc (.cells #[.int .i64 last, .slice A n c] 24)).alloc (.cells #[.int .i64 last', .slice A' n' c'] 24)) #[.int .i64 p, .int .i64 q, .int .i64 r] 25
  rw [show (W.alloc (.cells #[.int .i64 last, .slice A n c] 24)).heap.size = W.heap.size + 1 by simp] at Q
  rw [show ((W.alloc (.cells #[.int .i64 last, .slice A n c] 24)).alloc (.cells #[.int .i64 last', .slice A' n' c'] 24)).heap.size = W.heap.size + 1 + 1 by simp] at H
  have b := (((Below.refl W.heap.size W).alloc (Nat.le_refl _) (.cells #[.int .i64 last, .slice A n c] 24)).alloc (by simp) (.cells #[.int .i64 last', .slice A' n' c'] 24)).alloc (by simp; omega) (.cells #[.int .i64 p, .int .i64 q, .int .i64 r] 25)
  go_enter Try.func3, Try.ntmps3
  go_wp2_with fail
  generalize ((W.alloc (.cells #[.int .i64 last, .slice A n c] 24)).alloc (.cells #[.int .i64 last', .slice A' n' c'] 24)).alloc (.cells #[.int .i64 p, .int .i64 q, .int .i64 r] 25) = w1 at *
  refine (nalive_any _).mono ?_
  rintro e w2 ⟨rfl, hb⟩
  replace P := P.belowH hb
  replace Q := Q.belowH hb
  replace H := H.belowH hb
  replace b := b.trans (hb.mono b.size)
  clear hb
  have p0 := P.at 0 rfl
  have p1 := P.at 1 rfl
  have q1 := Q.at 1 rfl
  by_cases hn : 200 < n
  · go_wp2
    go_ret
    exact ⟨rfl, b⟩
  by_cases hn' : 200 < n'
  · go_wp2
    go_ret
    exact ⟨rfl, b⟩
  go_upto_region 5 with fail
  clear p0 p1 q1
  go_cut [7] (fun s7 wx => ∃ (bo : Nat) (Ao : Option Addr) (co : Nat), s7 = .pointer (some ⟨bo, 0, none⟩) ∧ Box wx bo 24 #[.int .i64 last, .slice Ao n co] ∧ WRd wx ⟨⟨last, l⟩, Ao, n, co⟩ ∧ Box wx W.heap.size 24 #[.int .i64 last, .slice A n c] ∧ Box wx (W.heap.size + 1) 24 #[.int .i64 last', .slice A' n' c'] ∧ Box wx (W.heap.size + 1 + 1) 25 #[.int .i64 p, .int .i64 q, .int .i64 r] ∧ Below W.heap.size W wx)
  case first =>
    replace P := P.drew
    replace Q := Q.drew
    replace H := H.drew
    replace b := b.drew
    refine wp_region_held_drew (S := (fun w' => w'.cell? ⟨W.heap.size, 0, none⟩ = some (.int .i64 last) ∧ w'.cell? ⟨W.heap.size, 1, none⟩ = some (.slice A n c))) (by kernel_rfl) (by exact ⟨P.at 0 rfl, P.at 1 rfl⟩) (fun hHeld0 => ?_)
    generalize w2.drew = wa at *
    have hPl := P.lt
    have hQl := Q.lt
    have hHl := H.lt
    refine tk 0 24 rfl hHeld0 ?_
    refine tk 1 25 rfl hHeld0 ?_
    refine tk 3 27 rfl hHeld0 ?_
    refine tk 4 28 rfl hHeld0 ?_
    refine wpAnyH_ready (rs := [2, 7]) (by kernel_rfl) (by simp) (AllReadyH.cons (o := ⟨some 26, _, _, _, _, _⟩) rfl (fun K hK => ?_) (AllReadyH.cons (o := ⟨some 7, _, _, _, _, _⟩) rfl (fun K hK => ?_) AllReadyH.nil))
    · skip
      go_simp
      replace P := P.alloc (.cells #[] 3)
      replace Q := Q.alloc (.cells #[] 3)
      replace H := H.alloc (.cells #[] 3)
      have own := litN wa
      replace b := b.alloc b.size (.cells #[] 3)
      have hLb : Value.ownBlock (.slice (some ⟨wa.heap.size, 0, none⟩) 0 0) = some (wa.heap.size) := rfl
      have hsz_wbx : (wa.alloc (.cells #[] 3)).heap.size = wa.heap.size + 1 := by simp
      refine hK.out _ _ (by exact ⟨P.at 0 rfl, P.at 1 rfl⟩) (fun hHeld1 => ?_)
      clear hK hHeld0 K
      try simp only [Act.put, sA, sB, sC]
      generalize wa.alloc (.cells #[] 3) = wbx at *
      refine wpAnyH_ready (rs := [5, 7]) (by kernel_rfl) (by simp) (AllReadyH.cons (o := ⟨some 29, _, _, _, _, _⟩) rfl (fun K hK => ?_) (AllReadyH.cons (o := ⟨some 7, _, _, _, _, _⟩) rfl (fun K hK => ?_) AllReadyH.nil))
      · skip
        have RU : Rd wbx wbx.heap.size 1 A n (I l) := (Ru.belowH b).1
        have hbW := b.size
        refine step_app_law0 i64N rfl (.tmp 26) (.tmp 28) (by rfl) (wa.heap.size) (by rfl) own (by rfl) RU (I_one _) (by omega) (by omega) (by omega) ?_
        rintro A2 c2 wcx ⟨hown, hg, hloc, _⟩
        rw [List.nil_append] at hown
        have hba := below_app (Below.refl (wa.heap.size) wbx) own hg (Nat.le_refl _) (by omega)
        have hcap := own_cap hown
        have R2 : WRd wcx ⟨⟨last, l⟩, A2, n, c2⟩ := ⟨Rd.of_own hown, hcap.1, hcap.2⟩
        replace P := P.below hba (by omega)
        replace Q := Q.below hba (by omega)
        replace H := H.below hba (by omega)
        replace b := b.trans (hba.mono (by omega))
        have hgs := hba.size
        go_simp
        refine hK.out _ _ (by exact ⟨P.at 0 rfl, P.at 1 rfl⟩) (fun hHeld2 => ?_)
        clear hK hHeld1 K
        try simp only [Act.put, sA, sB, sC]
        refine tk 6 30 rfl hHeld2 ?_
        refine wpAnyH_ready (rs := [7]) (by kernel_rfl) (by simp) (AllReadyH.cons (o := ⟨some 7, _, _, _, _, _⟩) rfl (fun K hK => ?_) AllReadyH.nil)
        go_simp
        have O := Box.new wcx #[.int .i64 0, .slice none 0 0] 24
        replace P := P.alloc (.cells #[.int .i64 0, .slice none 0 0] 24)
        replace Q := Q.alloc (.cells #[.int .i64 0, .slice none 0 0] 24)
        replace H := H.alloc (.cells #[.int .i64 0, .slice none 0 0] 24)
        have hfar : ∀ bk o, A2 = some ⟨bk, o, none⟩ → bk ≠ wcx.heap.size := fun bk o hA e => by have h9 := (hown.lt bk (by subst hA; rfl)).2; omega
        replace R2 := R2.alloc (.cells #[.int .i64 0, .slice none 0 0] 24)
        replace b := b.alloc b.size (.cells #[.int .i64 0, .slice none 0 0] 24)
        have hsz_wdx : (wcx.alloc (.cells #[.int .i64 0, .slice none 0 0] 24)).heap.size = wcx.heap.size + 1 := by simp
        refine hK.out _ _ (by exact ⟨P.at 0 rfl, P.at 1 rfl⟩) (fun hHeld3 => ?_)
        clear hK hHeld2 K
        try simp only [Act.put, sA, sB, sC]
        generalize wcx.alloc (.cells #[.int .i64 0, .slice none 0 0] 24) = wdx at *
        refine wpAnyH_ready (rs := [8]) (by kernel_rfl) (by simp) (AllReadyH.cons (o := ⟨none, _, _, _, _, _⟩) rfl (fun K hK => ?_) AllReadyH.nil)
        have k0 := O.at 0 rfl
        have k1 := O.at 1 rfl
        have kc := O.cold
        go_simp
        replace O := O.two (u0 := .int .i64 last) (u1 := .slice A2 n c2)
        replace P := (P.other (show W.heap.size ≠ wcx.heap.size by omega) (o := 0) (.int .i64 last)).other (show W.heap.size ≠ wcx.heap.size by omega) (o := 1) (.slice A2 n c2)
        replace Q := (Q.other (show W.heap.size + 1 ≠ wcx.heap.size by omega) (o := 0) (.int .i64 last)).other (show W.heap.size + 1 ≠ wcx.heap.size by omega) (o := 1) (.slice A2 n c2)
        replace H := (H.other (show W.heap.size + 1 + 1 ≠ wcx.heap.size by omega) (o := 0) (.int .i64 last)).other (show W.heap.size + 1 + 1 ≠ wcx.heap.size by omega) (o := 1) (.slice A2 n c2)
        replace R2 := wrd_set R2 hfar 0 1 (.int .i64 last) (.slice A2 n c2)
        replace b := below_set (o := 1) (below_set (o := 0) b (show W.heap.size ≤ wcx.heap.size by omega) (.int .i64 last)) (show W.heap.size ≤ wcx.heap.size by omega) (.slice A2 n c2)
        clear k0 k1 kc
        refine hK.out _ _ (by exact ⟨P.at 0 rfl, P.at 1 rfl⟩) (fun hHeld4 => ?_)
        clear hK hHeld3 K
        try simp only [Act.put, sA, sB, sC]
        generalize (wdx.setCell ⟨wcx.heap.size, 0, none⟩ (.int .i64 last)).setCell ⟨wcx.heap.size, 1, none⟩ (.slice A2 n c2) = wex at *
        refine wpAnyH_done (by kernel_rfl) ?_ _
        clear hHeld4
        go_wp2_with fail
        go_meet
        exact ⟨_, A2, c2, rfl, O, R2, P, Q, H, b⟩
      · skip
        go_simp
        have O := Box.new wbx #[.int .i64 0, .slice none 0 0] 24
        rw [hsz_wbx] at O
        replace P := P.alloc (.cells #[.int .i64 0, .slice none 0 0] 24)
        replace Q := Q.alloc (.cells #[.int .i64 0, .slice none 0 0] 24)
        replace H := H.alloc (.cells #[.int .i64 0, .slice none 0 0] 24)
        replace own := own.alloc (.cells #[.int .i64 0, .slice none 0 0] 24)
        replace b := b.alloc b.size (.cells #[.int .i64 0, .slice none 0 0] 24)
        have hsz_wcx : (wbx.alloc (.cells #[.int .i64 0, .slice none 0 0] 24)).heap.size = wa.heap.size + 1 + 1 := by simp [hsz_wbx]
        refine hK.out _ _ (by exact ⟨P.at 0 rfl, P.at 1 rfl⟩) (fun hHeld2 => ?_)
        clear hK hHeld1 K
        try simp only [Act.put, sA, sB, sC]
        generalize wbx.alloc (.cells #[.int .i64 0, .slice none 0 0] 24) = wcx at *
        refine wpAnyH_ready (rs := [5]) (by kernel_rfl) (by simp) (AllReadyH.cons (o := ⟨some 29, _, _, _, _, _⟩) rfl (fun K hK => ?_) AllReadyH.nil)
        have RU : Rd wcx wcx.heap.size 1 A n (I l) := (Ru.belowH b).1
        have hbW := b.size
        refine step_app_law0 i64N rfl (.tmp 26) (.tmp 28) (by rfl) (wa.heap.size) (by rfl) own (by rfl) RU (I_one _) (by omega) (by omega) (by omega) ?_
        rintro A2 c2 wdx ⟨hown, hg, hloc, _⟩
        rw [List.nil_append] at hown
        have hba := below_app (Below.refl (wa.heap.size) wcx) own hg (Nat.le_refl _) (by omega)
        have hcap := own_cap hown
        have R2 : WRd wdx ⟨⟨last, l⟩, A2, n, c2⟩ := ⟨Rd.of_own hown, hcap.1, hcap.2⟩
        replace O := O.grown hg (by rw [hLb]; intro e; injection e with e; omega)
        have hfar : ∀ bk o, A2 = some ⟨bk, o, none⟩ → bk ≠ wa.heap.size + 1 := fun bk o hA e => by
          subst hA
          have h8 : Value.ownBlock (.slice (some ⟨bk, o, none⟩) n c2) = some bk := rfl
          rw [h8] at hloc
          rcases hloc with h9 | h9
          · rw [hLb] at h9; injection h9 with h9; omega
          · injection h9 with h9; omega
        replace P := P.below hba (by omega)
        replace Q := Q.below hba (by omega)
        replace H := H.below hba (by omega)
        replace b := b.trans (hba.mono (by omega))
        have hgs := hba.size
        go_simp
        refine hK.out _ _ (by exact ⟨P.at 0 rfl, P.at 1 rfl⟩) (fun hHeld3 => ?_)
        clear hK hHeld2 K
        try simp only [Act.put, sA, sB, sC]
        refine tk 6 30 rfl hHeld3 ?_
        refine wpAnyH_ready (rs := [8]) (by kernel_rfl) (by simp) (AllReadyH.cons (o := ⟨none, _, _, _, _, _⟩) rfl (fun K hK => ?_) AllReadyH.nil)
        have k0 := O.at 0 rfl
        have k1 := O.at 1 rfl
        have kc := O.cold
        go_simp
        replace O := O.two (u0 := .int .i64 last) (u1 := .slice A2 n c2)
        replace P := (P.other (show W.heap.size ≠ wa.heap.size + 1 by omega) (o := 0) (.int .i64 last)).other (show W.heap.size ≠ wa.heap.size + 1 by omega) (o := 1) (.slice A2 n c2)
        replace Q := (Q.other (show W.heap.size + 1 ≠ wa.heap.size + 1 by omega) (o := 0) (.int .i64 last)).other (show W.heap.size + 1 ≠ wa.heap.size + 1 by omega) (o := 1) (.slice A2 n c2)
        replace H := (H.other (show W.heap.size + 1 + 1 ≠ wa.heap.size + 1 by omega) (o := 0) (.int .i64 last)).other (show W.heap.size + 1 + 1 ≠ wa.heap.size + 1 by omega) (o := 1) (.slice A2 n c2)
        replace R2 := wrd_set R2 hfar 0 1 (.int .i64 last) (.slice A2 n c2)
        replace b := below_set (o := 1) (below_set (o := 0) b (show W.heap.size ≤ wa.heap.size + 1 by omega) (.int .i64 last)) (show W.heap.size ≤ wa.heap.size + 1 by omega) (.slice A2 n c2)
        clear k0 k1 kc
        refine hK.out _ _ (by exact ⟨P.at 0 rfl, P.at 1 rfl⟩) (fun hHeld4 => ?_)
        clear hK hHeld3 K
        try simp only [Act.put, sA, sB, sC]
        generalize (wdx.setCell ⟨wa.heap.size + 1, 0, none⟩ (.int .i64 last)).setCell ⟨wa.heap.size + 1, 1, none⟩ (.slice A2 n c2) = wex at *
        refine wpAnyH_done (by kernel_rfl) ?_ _
        clear hHeld4
        go_wp2_with fail
        go_meet
        exact ⟨_, A2, c2, rfl, O, R2, P, Q, H, b⟩
    · skip
      go_simp
      have O := Box.new wa #[.int .i64 0, .slice none 0 0] 24
      replace P := P.alloc (.cells #[.int .i64 0, .slice none 0 0] 24)
      replace Q := Q.alloc (.cells #[.int .i64 0, .slice none 0 0] 24)
      replace H := H.alloc (.cells #[.int .i64 0, .slice none 0 0] 24)
      replace b := b.alloc b.size (.cells #[.int .i64 0, .slice none 0 0] 24)
      have hsz_wbx : (wa.alloc (.cells #[.int .i64 0, .slice none 0 0] 24)).heap.size = wa.heap.size + 1 := by simp
      refine hK.out _ _ (by exact ⟨P.at 0 rfl, P.at 1 rfl⟩) (fun hHeld1 => ?_)
      clear hK hHeld0 K
      try simp only [Act.put, sA, sB, sC]
      generalize wa.alloc (.cells #[.int .i64 0, .slice none 0 0] 24) = wbx at *
      refine wpAnyH_ready (rs := [2]) (by kernel_rfl) (by simp) (AllReadyH.cons (o := ⟨some 26, _, _, _, _, _⟩) rfl (fun K hK => ?_) AllReadyH.nil)
      go_simp
      replace P := P.alloc (.cells #[] 3)
      replace Q := Q.alloc (.cells #[] 3)
      replace H := H.alloc (.cells #[] 3)
      replace O := O.alloc (.cells #[] 3)
      have own := litN wbx
      rw [hsz_wbx] at own
      replace b := b.alloc b.size (.cells #[] 3)
      have hLb : Value.ownBlock (.slice (some ⟨wa.heap.size + 1, 0, none⟩) 0 0) = some (wa.heap.size + 1) := rfl
      have hsz_wcx : (wbx.alloc (.cells #[] 3)).heap.size = wa.heap.size + 1 + 1 := by simp [hsz_wbx]
      refine hK.out _ _ (by exact ⟨P.at 0 rfl, P.at 1 rfl⟩) (fun hHeld2 => ?_)
      clear hK hHeld1 K
      try simp only [Act.put, sA, sB, sC]
      generalize wbx.alloc (.cells #[] 3) = wcx at *
      refine wpAnyH_ready (rs := [5]) (by kernel_rfl) (by simp) (AllReadyH.cons (o := ⟨some 29, _, _, _, _, _⟩) rfl (fun K hK => ?_) AllReadyH.nil)
      have RU : Rd wcx wcx.heap.size 1 A n (I l) := (Ru.belowH b).1
      have hbW := b.size
      refine step_app_law0 i64N rfl (.tmp 26) (.tmp 28) (by rfl) (wa.heap.size + 1) (by rfl) own (by rfl) RU (I_one _) (by omega) (by omega) (by omega) ?_
      rintro A2 c2 wdx ⟨hown, hg, hloc, _⟩
      rw [List.nil_append] at hown
      have hba := below_app (Below.refl (wa.heap.size + 1) wcx) own hg (Nat.le_refl _) (by omega)
      have hcap := own_cap hown
      have R2 : WRd wdx ⟨⟨last, l⟩, A2, n, c2⟩ := ⟨Rd.of_own hown, hcap.1, hcap.2⟩
      replace O := O.grown hg (by rw [hLb]; intro e; injection e with e; omega)
      have hfar : ∀ bk o, A2 = some ⟨bk, o, none⟩ → bk ≠ wa.heap.size := fun bk o hA e => by
        subst hA
        have h8 : Value.ownBlock (.slice (some ⟨bk, o, none⟩) n c2) = some bk := rfl
        rw [h8] at hloc
        rcases hloc with h9 | h9
        · rw [hLb] at h9; injection h9 with h9; omega
        · injection h9 with h9; omega
      replace P := P.below hba (by omega)
      replace Q := Q.below hba (by omega)
      replace H := H.below hba (by omega)
      replace b := b.trans (hba.mono (by omega))
      have hgs := hba.size
      go_simp
      refine hK.out _ _ (by exact ⟨P.at 0 rfl, P.at 1 rfl⟩) (fun hHeld3 => ?_)
      clear hK hHeld2 K
      try simp only [Act.put, sA, sB, sC]
      refine tk 6 30 rfl hHeld3 ?_
      refine wpAnyH_ready (rs := [8]) (by kernel_rfl) (by simp) (AllReadyH.cons (o := ⟨none, _, _, _, _, _⟩) rfl (fun K hK => ?_) AllReadyH.nil)
      have k0 := O.at 0 rfl
      have k1 := O.at 1 rfl
      have kc := O.cold
      go_simp
      replace O := O.two (u0 := .int .i64 last) (u1 := .slice A2 n c2)
      replace P := (P.other (show W.heap.size ≠ wa.heap.size by omega) (o := 0) (.int .i64 last)).other (show W.heap.size ≠ wa.heap.size by omega) (o := 1) (.slice A2 n c2)
      replace Q := (Q.other (show W.heap.size + 1 ≠ wa.heap.size by omega) (o := 0) (.int .i64 last)).other (show W.heap.size + 1 ≠ wa.heap.size by omega) (o := 1) (.slice A2 n c2)
      replace H := (H.other (show W.heap.size + 1 + 1 ≠ wa.heap.size by omega) (o := 0) (.int .i64 last)).other (show W.heap.size + 1 + 1 ≠ wa.heap.size by omega) (o := 1) (.slice A2 n c2)
      replace R2 := wrd_set R2 hfar 0 1 (.int .i64 last) (.slice A2 n c2)
      replace b := below_set (o := 1) (below_set (o := 0) b (show W.heap.size ≤ wa.heap.size by omega) (.int .i64 last)) (show W.heap.size ≤ wa.heap.size by omega) (.slice A2 n c2)
      clear k0 k1 kc
      refine hK.out _ _ (by exact ⟨P.at 0 rfl, P.at 1 rfl⟩) (fun hHeld4 => ?_)
      clear hK hHeld3 K
      try simp only [Act.put, sA, sB, sC]
      generalize (wdx.setCell ⟨wa.heap.size, 0, none⟩ (.int .i64 last)).setCell ⟨wa.heap.size, 1, none⟩ (.slice A2 n c2) = wex at *
      refine wpAnyH_done (by kernel_rfl) ?_ _
      clear hHeld4
      go_wp2_with fail
      go_meet
      exact ⟨_, A2, c2, rfl, O, R2, P, Q, H, b⟩
  case rest =>
    clear P Q H b
    obtain ⟨bo, Ao, co, rfl, O, Ro, P, Q, H, b⟩ := hcut
    replace Ru := Ru.belowH b
    replace Rv := Rv.belowH b
    have hnu : l.length = n := wv_len Ru
    obtain ⟨⟨y, er⟩, hy⟩ : ∃ z, arr ⟨last, l⟩ p q = z := ⟨_, rfl⟩
    have hyl : y.gaps.length ≤ 200 := arr_len hy (by show l.length ≤ 200; omega)
    have HY := Lib.hid hy
    clear hy hnu
    obtain ⟨m, hm⟩ : ∃ m, N.mean ⟨last, l⟩ r = m := ⟨_, rfl⟩
    have HM := Lib.hid hm
    clear hm
    obtain ⟨rb, hrb⟩ : ∃ rb, N.rightB ⟨last, l⟩ = rb := ⟨_, rfl⟩
    have HRB := Lib.hid hrb
    clear hrb
    obtain ⟨sb, hsb⟩ : ∃ sb, decide ((⟨last, l⟩ : Wi) = ⟨last', l'⟩) = sb := ⟨_, rfl⟩
    have HSB := Lib.hid hsb
    clear hsb
    unfold In64 at bp bq br
    have o0 := O.at 0 rfl
    have o1 := O.at 1 rfl
    have h0 := H.at 0 rfl
    have h1 := H.at 1 rfl
    go_wp2_with fail
    refine (narrive_at Ao n co p q bp bq HY.out _ Ro (by omega)).mono ?_
    rintro e w3 ⟨⟨A8, n8, c8, rfl, R8, _⟩, hb⟩
    clear o0 o1 h0 h1
    replace O := O.belowH hb
    replace P := P.belowH hb
    replace Q := Q.belowH hb
    replace H := H.belowH hb
    replace Ro := Ro.belowH hb
    replace Ru := Ru.belowH hb
    replace Rv := Rv.belowH hb
    replace b := b.trans (hb.mono b.size)
    clear hb
    have X := Box.new w3 #[.int .i64 y.last, .slice A8 n8 c8] 24
    replace R8 := R8.alloc (.cells #[.int .i64 y.last, .slice A8 n8 c8] 24)
    replace O := O.alloc (.cells #[.int .i64 y.last, .slice A8 n8 c8] 24)
    replace P := P.alloc (.cells #[.int .i64 y.last, .slice A8 n8 c8] 24)
    replace Q := Q.alloc (.cells #[.int .i64 y.last, .slice A8 n8 c8] 24)
    replace H := H.alloc (.cells #[.int .i64 y.last, .slice A8 n8 c8] 24)
    replace Ro := Ro.alloc (.cells #[.int .i64 y.last, .slice A8 n8 c8] 24)
    replace Ru := Ru.alloc (.cells #[.int .i64 y.last, .slice A8 n8 c8] 24)
    replace Rv := Rv.alloc (.cells #[.int .i64 y.last, .slice A8 n8 c8] 24)
    replace b := b.alloc b.size (.cells #[.int .i64 y.last, .slice A8 n8 c8] 24)
    have p0 := P.at 0 rfl
    have p1 := P.at 1 rfl
    have h0 := H.at 0 rfl
    have h1 := H.at 1 rfl
    (try dsimp only)
    go_wp2_with fail
    generalize w3.alloc (.cells #[.int .i64 y.last, .slice A8 n8 c8] 24) = w4 at *
    refine (rnarrive_at A n c p q bp bq HY.out _ Ru).mono ?_
    rintro e w5 ⟨⟨A10, n10, c10, rfl, R10, _⟩, hb⟩
    clear p0 p1 h0 h1
    replace O := O.belowH hb
    replace P := P.belowH hb
    replace Q := Q.belowH hb
    replace H := H.belowH hb
    replace Ro := Ro.belowH hb
    replace Ru := Ru.belowH hb
    replace Rv := Rv.belowH hb
    replace X := X.belowH hb
    replace R8 := R8.belowH hb
    replace b := b.trans (hb.mono b.size)
    clear hb
    have Y := Box.new w5 #[.int .i64 y.last, .slice A10 n10 c10] 24
    replace R10 := R10.alloc (.cells #[.int .i64 y.last, .slice A10 n10 c10] 24)
    replace O := O.alloc (.cells #[.int .i64 y.last, .slice A10 n10 c10] 24)
    replace P := P.alloc (.cells #[.int .i64 y.last, .slice A10 n10 c10] 24)
    replace Q := Q.alloc (.cells #[.int .i64 y.last, .slice A10 n10 c10] 24)
    replace H := H.alloc (.cells #[.int .i64 y.last, .slice A10 n10 c10] 24)
    replace Ro := Ro.alloc (.cells #[.int .i64 y.last, .slice A10 n10 c10] 24)
    replace Ru := Ru.alloc (.cells #[.int .i64 y.last, .slice A10 n10 c10] 24)
    replace Rv := Rv.alloc (.cells #[.int .i64 y.last, .slice A10 n10 c10] 24)
    replace X := X.alloc (.cells #[.int .i64 y.last, .slice A10 n10 c10] 24)
    replace R8 := R8.alloc (.cells #[.int .i64 y.last, .slice A10 n10 c10] 24)
    replace b := b.alloc b.size (.cells #[.int .i64 y.last, .slice A10 n10 c10] 24)
    (try dsimp only)
    go_upto_region 8 with fail
    generalize w5.alloc (.cells #[.int .i64 y.last, .slice A10 n10 c10] 24) = w6 at *
    have l8 : n8 ≤ 200 := wv_le R8 hyl
    replace O := O.drew
    replace P := P.drew
    replace Q := Q.drew
    replace H := H.drew
    replace X := X.drew
    replace Y := Y.drew
    replace Ro := Ro.drew
    replace Ru := Ru.drew
    replace Rv := Rv.drew
    replace R8 := R8.drew
    replace R10 := R10.drew
    replace b := b.drew
    have x0 := X.at 0 rfl
    have x1 := X.at 1 rfl
    have y0 := Y.at 0 rfl
    have y1 := Y.at 1 rfl
    have p0 := P.at 0 rfl
    have p1 := P.at 1 rfl
    have q0 := Q.at 0 rfl
    have q1 := Q.at 1 rfl
    have o0 := O.at 0 rfl
    have o1 := O.at 1 rfl
    have h2 := H.at 2 rfl
    refine wp_region_held_drew (S := (fun w' => (w'.cell? ⟨w3.heap.size, 0, none⟩ = some (.int .i64 y.last) ∧ w'.cell? ⟨w3.heap.size, 1, none⟩ = some (.slice A8 n8 c8)) ∧ (w'.cell? ⟨w5.heap.size, 0, none⟩ = some (.int .i64 y.last) ∧ w'.cell? ⟨w5.heap.size, 1, none⟩ = some (.slice A10 n10 c10)) ∧ (w'.cell? ⟨W.heap.size, 0, none⟩ = some (.int .i64 last) ∧ w'.cell? ⟨W.heap.size, 1, none⟩ = some (.slice A n c)) ∧ (w'.cell? ⟨W.heap.size + 1, 0, none⟩ = some (.int .i64 last') ∧ w'.cell? ⟨W.heap.size + 1, 1, none⟩ = some (.slice A' n' c')) ∧ (w'.cell? ⟨bo, 0, none⟩ = some (.int .i64 last) ∧ w'.cell? ⟨bo, 1, none⟩ = some (.slice Ao n co)) ∧ w'.cell? ⟨W.heap.size + 1 + 1, 2, none⟩ = some (.int .i64 r))) (by kernel_rfl) (by exact ⟨⟨x0, x1⟩, ⟨y0, y1⟩, ⟨p0, p1⟩, ⟨q0, q1⟩, ⟨o0, o1⟩, h2⟩) (fun hHeld0 => ?_)
    refine tk 0 49 rfl hHeld0 ?_
    refine tk 1 50 rfl hHeld0 ?_
    refine wpAnyH_ready (rs := [2]) (by kernel_rfl) (by simp) (AllReadyH.cons (o := ⟨some 51, _, _, _, _, _⟩) rfl (fun K hK => ?_) AllReadyH.nil)
    go_simp
    (refine (rnsame_at A8 n8 c8 A10 n10 c10 (decide_eq_true rfl) _ R8 R10 (by omega)).mono ?_; rintro e wa ⟨rfl, hb⟩; replace O := O.belowH hb; replace P := P.belowH hb; replace Q := Q.belowH hb; replace H := H.belowH hb; replace X := X.belowH hb; replace Y := Y.belowH hb; replace Ro := Ro.belowH hb; replace Ru := Ru.belowH hb; replace Rv := Rv.belowH hb; replace R8 := R8.belowH hb; replace R10 := R10.belowH hb; replace b := b.trans (hb.mono b.size); clear hb x0 x1 y0 y1 p0 p1 q0 q1 o0 o1 h2; have x0 := X.at 0 rfl; have x1 := X.at 1 rfl; have y0 := Y.at 0 rfl; have y1 := Y.at 1 rfl; have p0 := P.at 0 rfl; have p1 := P.at 1 rfl; have q0 := Q.at 0 rfl; have q1 := Q.at 1 rfl; have o0 := O.at 0 rfl; have o1 := O.at 1 rfl; have h2 := H.at 2 rfl)
    go_simp
    refine hK.out _ _ (by exact ⟨⟨x0, x1⟩, ⟨y0, y1⟩, ⟨p0, p1⟩, ⟨q0, q1⟩, ⟨o0, o1⟩, h2⟩) (fun hHeld1 => ?_)
    clear hK hHeld0 K
    try simp only [Act.put, sA, sB, sC]
    refine tk 3 52 rfl hHeld1 ?_
    refine tk 4 53 rfl hHeld1 ?_
    refine tk 5 54 rfl hHeld1 ?_
    refine tk 6 55 rfl hHeld1 ?_
    refine tk 7 56 rfl hHeld1 ?_
    refine tk 8 57 rfl hHeld1 ?_
    refine tk 9 58 rfl hHeld1 ?_
    refine tk 10 59 rfl hHeld1 ?_
    refine tk 11 60 rfl hHeld1 ?_
    refine tk 13 62 rfl hHeld1 ?_
    refine tk 14 63 rfl hHeld1 ?_
    refine tk 15 64 rfl hHeld1 ?_
    refine wpAnyH_ready (rs := [12]) (by kernel_rfl) (by simp) (AllReadyH.cons (o := ⟨some 61, _, _, _, _, _⟩) rfl (fun K hK => ?_) AllReadyH.nil)
    go_simp
    (refine (nmean_at A n c r HM.out _ Ru (by omega)).mono ?_; rintro e wb ⟨rfl, hb⟩; replace O := O.belowH hb; replace P := P.belowH hb; replace Q := Q.belowH hb; replace H := H.belowH hb; replace X := X.belowH hb; replace Y := Y.belowH hb; replace Ro := Ro.belowH hb; replace Ru := Ru.belowH hb; replace Rv := Rv.belowH hb; replace R8 := R8.belowH hb; replace R10 := R10.belowH hb; replace b := b.trans (hb.mono b.size); clear hb x0 x1 y0 y1 p0 p1 q0 q1 o0 o1 h2; have x0 := X.at 0 rfl; have x1 := X.at 1 rfl; have y0 := Y.at 0 rfl; have y1 := Y.at 1 rfl; have p0 := P.at 0 rfl; have p1 := P.at 1 rfl; have q0 := Q.at 0 rfl; have q1 := Q.at 1 rfl; have o0 := O.at 0 rfl; have o1 := O.at 1 rfl; have h2 := H.at 2 rfl)
    go_simp
    refine hK.out _ _ (by exact ⟨⟨x0, x1⟩, ⟨y0, y1⟩, ⟨p0, p1⟩, ⟨q0, q1⟩, ⟨o0, o1⟩, h2⟩) (fun hHeld2 => ?_)
    clear hK hHeld1 K
    try simp only [Act.put, sA, sB, sC]
    refine wpAnyH_ready (rs := [16]) (by kernel_rfl) (by simp) (AllReadyH.cons (o := ⟨some 65, _, _, _, _, _⟩) rfl (fun K hK => ?_) AllReadyH.nil)
    go_simp
    (refine (rnmean_at A n c r HM.out _ Ru (by omega)).mono ?_; rintro e wd ⟨rfl, hb⟩; replace O := O.belowH hb; replace P := P.belowH hb; replace Q := Q.belowH hb; replace H := H.belowH hb; replace X := X.belowH hb; replace Y := Y.belowH hb; replace Ro := Ro.belowH hb; replace Ru := Ru.belowH hb; replace Rv := Rv.belowH hb; replace R8 := R8.belowH hb; replace R10 := R10.belowH hb; replace b := b.trans (hb.mono b.size); clear hb x0 x1 y0 y1 p0 p1 q0 q1 o0 o1 h2; have x0 := X.at 0 rfl; have x1 := X.at 1 rfl; have y0 := Y.at 0 rfl; have y1 := Y.at 1 rfl; have p0 := P.at 0 rfl; have p1 := P.at 1 rfl; have q0 := Q.at 0 rfl; have q1 := Q.at 1 rfl; have o0 := O.at 0 rfl; have o1 := O.at 1 rfl; have h2 := H.at 2 rfl)
    go_simp
    refine hK.out _ _ (by exact ⟨⟨x0, x1⟩, ⟨y0, y1⟩, ⟨p0, p1⟩, ⟨q0, q1⟩, ⟨o0, o1⟩, h2⟩) (fun hHeld3 => ?_)
    clear hK hHeld2 K
    try simp only [Act.put, sA, sB, sC]
    refine tk 17 66 rfl hHeld3 ?_
    refine tk 18 67 rfl hHeld3 ?_
    refine tk 19 68 rfl hHeld3 ?_
    refine tk 20 69 rfl hHeld3 ?_
    refine tk 22 71 rfl hHeld3 ?_
    refine wpAnyH_ready (rs := [21]) (by kernel_rfl) (by simp) (AllReadyH.cons (o := ⟨some 70, _, _, _, _, _⟩) rfl (fun K hK => ?_) AllReadyH.nil)
    go_simp
    (refine (nright_at A n c HRB.out _ Ru).mono ?_; rintro e we ⟨rfl, hb⟩; replace O := O.belowH hb; replace P := P.belowH hb; replace Q := Q.belowH hb; replace H := H.belowH hb; replace X := X.belowH hb; replace Y := Y.belowH hb; replace Ro := Ro.belowH hb; replace Ru := Ru.belowH hb; replace Rv := Rv.belowH hb; replace R8 := R8.belowH hb; replace R10 := R10.belowH hb; replace b := b.trans (hb.mono b.size); clear hb x0 x1 y0 y1 p0 p1 q0 q1 o0 o1 h2; have x0 := X.at 0 rfl; have x1 := X.at 1 rfl; have y0 := Y.at 0 rfl; have y1 := Y.at 1 rfl; have p0 := P.at 0 rfl; have p1 := P.at 1 rfl; have q0 := Q.at 0 rfl; have q1 := Q.at 1 rfl; have o0 := O.at 0 rfl; have o1 := O.at 1 rfl; have h2 := H.at 2 rfl)
    go_simp
    refine hK.out _ _ (by exact ⟨⟨x0, x1⟩, ⟨y0, y1⟩, ⟨p0, p1⟩, ⟨q0, q1⟩, ⟨o0, o1⟩, h2⟩) (fun hHeld4 => ?_)
    clear hK hHeld3 K
    try simp only [Act.put, sA, sB, sC]
    refine wpAnyH_ready (rs := [23]) (by kernel_rfl) (by simp) (AllReadyH.cons (o := ⟨some 72, _, _, _, _, _⟩) rfl (fun K hK => ?_) AllReadyH.nil)
    go_simp
    (refine (rnright_at A n c HRB.out _ Ru).mono ?_; rintro e wf ⟨rfl, hb⟩; replace O := O.belowH hb; replace P := P.belowH hb; replace Q := Q.belowH hb; replace H := H.belowH hb; replace X := X.belowH hb; replace Y := Y.belowH hb; replace Ro := Ro.belowH hb; replace Ru := Ru.belowH hb; replace Rv := Rv.belowH hb; replace R8 := R8.belowH hb; replace R10 := R10.belowH hb; replace b := b.trans (hb.mono b.size); clear hb x0 x1 y0 y1 p0 p1 q0 q1 o0 o1 h2; have x0 := X.at 0 rfl; have x1 := X.at 1 rfl; have y0 := Y.at 0 rfl; have y1 := Y.at 1 rfl; have p0 := P.at 0 rfl; have p1 := P.at 1 rfl; have q0 := Q.at 0 rfl; have q1 := Q.at 1 rfl; have o0 := O.at 0 rfl; have o1 := O.at 1 rfl; have h2 := H.at 2 rfl)
    go_simp
    refine hK.out _ _ (by exact ⟨⟨x0, x1⟩, ⟨y0, y1⟩, ⟨p0, p1⟩, ⟨q0, q1⟩, ⟨o0, o1⟩, h2⟩) (fun hHeld5 => ?_)
    clear hK hHeld4 K
    try simp only [Act.put, sA, sB, sC]
    refine tk 24 73 rfl hHeld5 ?_
    refine tk 25 74 rfl hHeld5 ?_
    refine tk 26 75 rfl hHeld5 ?_
    refine tk 27 76 rfl hHeld5 ?_
    refine tk 28 77 rfl hHeld5 ?_
    refine tk 30 79 rfl hHeld5 ?_
    refine tk 31 80 rfl hHeld5 ?_
    refine wpAnyH_ready (rs := [29]) (by kernel_rfl) (by simp) (AllReadyH.cons (o := ⟨some 78, _, _, _, _, _⟩) rfl (fun K hK => ?_) AllReadyH.nil)
    go_simp
    (refine (nsame_at A n c A' n' c' HSB.out _ Ru Rv (by omega)).mono ?_; rintro e wg ⟨rfl, hb⟩; replace O := O.belowH hb; replace P := P.belowH hb; replace Q := Q.belowH hb; replace H := H.belowH hb; replace X := X.belowH hb; replace Y := Y.belowH hb; replace Ro := Ro.belowH hb; replace Ru := Ru.belowH hb; replace Rv := Rv.belowH hb; replace R8 := R8.belowH hb; replace R10 := R10.belowH hb; replace b := b.trans (hb.mono b.size); clear hb x0 x1 y0 y1 p0 p1 q0 q1 o0 o1 h2; have x0 := X.at 0 rfl; have x1 := X.at 1 rfl; have y0 := Y.at 0 rfl; have y1 := Y.at 1 rfl; have p0 := P.at 0 rfl; have p1 := P.at 1 rfl; have q0 := Q.at 0 rfl; have q1 := Q.at 1 rfl; have o0 := O.at 0 rfl; have o1 := O.at 1 rfl; have h2 := H.at 2 rfl)
    go_simp
    refine hK.out _ _ (by exact ⟨⟨x0, x1⟩, ⟨y0, y1⟩, ⟨p0, p1⟩, ⟨q0, q1⟩, ⟨o0, o1⟩, h2⟩) (fun hHeld6 => ?_)
    clear hK hHeld5 K
    try simp only [Act.put, sA, sB, sC]
    refine wpAnyH_ready (rs := [32]) (by kernel_rfl) (by simp) (AllReadyH.cons (o := ⟨some 81, _, _, _, _, _⟩) rfl (fun K hK => ?_) AllReadyH.nil)
    go_simp
    (refine (rnsame_at A n c A' n' c' HSB.out _ Ru Rv (by omega)).mono ?_; rintro e wh ⟨rfl, hb⟩; replace O := O.belowH hb; replace P := P.belowH hb; replace Q := Q.belowH hb; replace H := H.belowH hb; replace X := X.belowH hb; replace Y := Y.belowH hb; replace Ro := Ro.belowH hb; replace Ru := Ru.belowH hb; replace Rv := Rv.belowH hb; replace R8 := R8.belowH hb; replace R10 := R10.belowH hb; replace b := b.trans (hb.mono b.size); clear hb x0 x1 y0 y1 p0 p1 q0 q1 o0 o1 h2; have x0 := X.at 0 rfl; have x1 := X.at 1 rfl; have y0 := Y.at 0 rfl; have y1 := Y.at 1 rfl; have p0 := P.at 0 rfl; have p1 := P.at 1 rfl; have q0 := Q.at 0 rfl; have q1 := Q.at 1 rfl; have o0 := O.at 0 rfl; have o1 := O.at 1 rfl; have h2 := H.at 2 rfl)
    go_simp
    refine hK.out _ _ (by exact ⟨⟨x0, x1⟩, ⟨y0, y1⟩, ⟨p0, p1⟩, ⟨q0, q1⟩, ⟨o0, o1⟩, h2⟩) (fun hHeld7 => ?_)
    clear hK hHeld6 K
    try simp only [Act.put, sA, sB, sC]
    refine tk 33 82 rfl hHeld7 ?_
    refine tk 34 83 rfl hHeld7 ?_
    refine tk 35 84 rfl hHeld7 ?_
    refine tk 36 85 rfl hHeld7 ?_
    refine tk 37 86 rfl hHeld7 ?_
    refine wpAnyH_ready (rs := [38]) (by kernel_rfl) (by simp) (AllReadyH.cons (o := ⟨some 87, _, _, _, _, _⟩) rfl (fun K hK => ?_) AllReadyH.nil)
    go_simp
    (refine (rnsame_at Ao n co A n c (decide_eq_true rfl) _ Ro Ru (by omega)).mono ?_; rintro e wi ⟨rfl, hb⟩; replace O := O.belowH hb; replace P := P.belowH hb; replace Q := Q.belowH hb; replace H := H.belowH hb; replace X := X.belowH hb; replace Y := Y.belowH hb; replace Ro := Ro.belowH hb; replace Ru := Ru.belowH hb; replace Rv := Rv.belowH hb; replace R8 := R8.belowH hb; replace R10 := R10.belowH hb; replace b := b.trans (hb.mono b.size); clear hb x0 x1 y0 y1 p0 p1 q0 q1 o0 o1 h2; have x0 := X.at 0 rfl; have x1 := X.at 1 rfl; have y0 := Y.at 0 rfl; have y1 := Y.at 1 rfl; have p0 := P.at 0 rfl; have p1 := P.at 1 rfl; have q0 := Q.at 0 rfl; have q1 := Q.at 1 rfl; have o0 := O.at 0 rfl; have o1 := O.at 1 rfl; have h2 := H.at 2 rfl)
    go_simp
    refine hK.out _ _ (by exact ⟨⟨x0, x1⟩, ⟨y0, y1⟩, ⟨p0, p1⟩, ⟨q0, q1⟩, ⟨o0, o1⟩, h2⟩) (fun hHeld8 => ?_)
    clear hK hHeld7 K
    try simp only [Act.put, sA, sB, sC]
    refine tk 39 88 rfl hHeld8 ?_
    refine tk 40 89 rfl hHeld8 ?_
    refine wpAnyH_ready (rs := [41]) (by kernel_rfl) (by simp) (AllReadyH.cons (o := ⟨some 90, _, _, _, _, _⟩) rfl (fun K hK => ?_) AllReadyH.nil)
    go_simp
    (refine (nnew_any _).mono ?_; rintro e wj ⟨⟨A1, n1, c1, rfl, R1⟩, hb⟩; replace O := O.belowH hb; replace P := P.belowH hb; replace Q := Q.belowH hb; replace H := H.belowH hb; replace X := X.belowH hb; replace Y := Y.belowH hb; replace Ro := Ro.belowH hb; replace Ru := Ru.belowH hb; replace Rv := Rv.belowH hb; replace R8 := R8.belowH hb; replace R10 := R10.belowH hb; replace b := b.trans (hb.mono b.size); clear hb x0 x1 y0 y1 p0 p1 q0 q1 o0 o1 h2; have x0 := X.at 0 rfl; have x1 := X.at 1 rfl; have y0 := Y.at 0 rfl; have y1 := Y.at 1 rfl; have p0 := P.at 0 rfl; have p1 := P.at 1 rfl; have q0 := Q.at 0 rfl; have q1 := Q.at 1 rfl; have o0 := O.at 0 rfl; have o1 := O.at 1 rfl; have h2 := H.at 2 rfl; have l1 : n1 ≤ 16 := wv_le R1 (by decide))
    go_simp
    refine hK.out _ _ (by exact ⟨⟨x0, x1⟩, ⟨y0, y1⟩, ⟨p0, p1⟩, ⟨q0, q1⟩, ⟨o0, o1⟩, h2⟩) (fun hHeld9 => ?_)
    clear hK hHeld8 K
    try simp only [Act.put, sA, sB, sC]
    refine wpAnyH_ready (rs := [42]) (by kernel_rfl) (by simp) (AllReadyH.cons (o := ⟨some 91, _, _, _, _, _⟩) rfl (fun K hK => ?_) AllReadyH.nil)
    go_simp
    (refine (rnnew_any _).mono ?_; rintro e wk ⟨⟨A2, n2, c2, rfl, R2⟩, hb⟩; replace O := O.belowH hb; replace P := P.belowH hb; replace Q := Q.belowH hb; replace H := H.belowH hb; replace X := X.belowH hb; replace Y := Y.belowH hb; replace Ro := Ro.belowH hb; replace Ru := Ru.belowH hb; replace Rv := Rv.belowH hb; replace R8 := R8.belowH hb; replace R10 := R10.belowH hb; replace R1 := R1.belowH hb; replace b := b.trans (hb.mono b.size); clear hb x0 x1 y0 y1 p0 p1 q0 q1 o0 o1 h2; have x0 := X.at 0 rfl; have x1 := X.at 1 rfl; have y0 := Y.at 0 rfl; have y1 := Y.at 1 rfl; have p0 := P.at 0 rfl; have p1 := P.at 1 rfl; have q0 := Q.at 0 rfl; have q1 := Q.at 1 rfl; have o0 := O.at 0 rfl; have o1 := O.at 1 rfl; have h2 := H.at 2 rfl)
    go_simp
    refine hK.out _ _ (by exact ⟨⟨x0, x1⟩, ⟨y0, y1⟩, ⟨p0, p1⟩, ⟨q0, q1⟩, ⟨o0, o1⟩, h2⟩) (fun hHeld10 => ?_)
    clear hK hHeld9 K
    try simp only [Act.put, sA, sB, sC]
    refine wpAnyH_ready (rs := [43]) (by kernel_rfl) (by simp) (AllReadyH.cons (o := ⟨some 92, _, _, _, _, _⟩) rfl (fun K hK => ?_) AllReadyH.nil)
    go_simp
    (refine (rnsame_at A1 n1 c1 A2 n2 c2 (decide_eq_true rfl) _ R1 R2 (by omega)).mono ?_; rintro e wl ⟨rfl, hb⟩; replace O := O.belowH hb; replace P := P.belowH hb; replace Q := Q.belowH hb; replace H := H.belowH hb; replace X := X.belowH hb; replace Y := Y.belowH hb; replace Ro := Ro.belowH hb; replace Ru := Ru.belowH hb; replace Rv := Rv.belowH hb; replace R8 := R8.belowH hb; replace R10 := R10.belowH hb; replace b := b.trans (hb.mono b.size); clear hb x0 x1 y0 y1 p0 p1 q0 q1 o0 o1 h2; have x0 := X.at 0 rfl; have x1 := X.at 1 rfl; have y0 := Y.at 0 rfl; have y1 := Y.at 1 rfl; have p0 := P.at 0 rfl; have p1 := P.at 1 rfl; have q0 := Q.at 0 rfl; have q1 := Q.at 1 rfl; have o0 := O.at 0 rfl; have o1 := O.at 1 rfl; have h2 := H.at 2 rfl)
    go_simp
    refine hK.out _ _ (by exact ⟨⟨x0, x1⟩, ⟨y0, y1⟩, ⟨p0, p1⟩, ⟨q0, q1⟩, ⟨o0, o1⟩, h2⟩) (fun hHeld11 => ?_)
    clear hK hHeld10 K
    try simp only [Act.put, sA, sB, sC]
    refine tk 44 93 rfl hHeld11 ?_
    refine tk 45 6 rfl hHeld11 ?_
    refine wpAnyH_done (by kernel_rfl) ?_ _
    go_wp2
    go_ret
    exact ⟨by simp, b⟩
end Go.Proofs.Ytmhlhhfolbeifaa
