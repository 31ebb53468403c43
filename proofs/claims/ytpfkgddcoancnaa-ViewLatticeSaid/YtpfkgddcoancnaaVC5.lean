/- The code's Same and Nodes on views. -/
import Derived.Test.YtpfkgddcoancnaaVC3
import Derived.Test.YtpfkgddcoancnaaVRef7
namespace Go.Proofs.Ytpfkgddcoancnaa
set_option linter.unusedVariables false
set_option linter.unusedSimpArgs false
open Go.RowKit

theorem nm_eq {x y : Nv} : (x.nm = y.nm) ↔ x.node = y.node ∧ x.v.s = y.v.s := by
  unfold Nv.nm
  constructor
  · intro h; injection h with h1 h2; exact ⟨h1, h2⟩
  · rintro ⟨h1, h2⟩; rw [h1, h2]
theorem vegSame : ∀ args w, (callFunc 40 args).run Try.prog w = .ok (.enter 40 args) w := enters_of Try.func40 (by kernel_rfl) rfl

set_option maxHeartbeats 1000000 in
theorem vsame1_any (x y : Nv) (w : World) (h : SRd w x.v) (h' : SRd w y.v) (hn : x.v.n ≤ 4000) (hn' : y.v.n ≤ 4000) :
    Calls Try.prog 40 #[nv x, nv y] w fun e w' => e = .returned (.bool (decide (x.nm = y.nm))) ∧ Below w.heap.size w w' := by
  have hd : decide (x.nm = y.nm) = (decide (x.node = y.node) && sameB x.v.s y.v.s) := by
    unfold sameB
    rw [← Bool.decide_and]
    exact decide_eq_decide.2 nm_eq
  obtain ⟨node, ⟨⟨g, t, tl⟩, At, nt, ct⟩⟩ := x
  obtain ⟨node', ⟨⟨g', t', tl'⟩, At', nt', ct'⟩⟩ := y
  simp only [nv]
  simp only at hn hn' h h' hd
  have hb := below2 w (.cells #[.int .i64 node, .int .i64 g, .int .i64 t, .slice At nt ct] 45) (.cells #[.int .i64 node', .int .i64 g', .int .i64 t', .slice At' nt' ct'] 45)
  have h1 := (h.allocH (.cells #[.int .i64 node, .int .i64 g, .int .i64 t, .slice At nt ct] 45)).allocH (.cells #[.int .i64 node', .int .i64 g', .int .i64 t', .slice At' nt' ct'] 45)
  have h2 := (h'.allocH (.cells #[.int .i64 node, .int .i64 g, .int .i64 t, .slice At nt ct] 45)).allocH (.cells #[.int .i64 node', .int .i64 g', .int .i64 t', .slice At' nt' ct'] 45)
  clear h h'
  by_cases e1 : node = node'
  · subst e1
    have HS : Hid (sameB ⟨g, t, tl⟩ ⟨g', t', tl'⟩ = decide (Nv.nm ⟨node, ⟨⟨g, t, tl⟩, At, nt, ct⟩⟩ = Nv.nm ⟨node, ⟨⟨g', t', tl'⟩, At', nt', ct'⟩⟩)) := Lib.hid (by rw [hd]; simp)
    clear hd
    go_enter Try.func40, Try.ntmps40
    go_wp2_with fail
    refine (ssame_any ⟨⟨g, t, tl⟩, At, nt, ct⟩ ⟨⟨g', t', tl'⟩, At', nt', ct'⟩ _ h1 h2 (by show nt * 32 ≤ _; omega) (by show nt' * 32 ≤ _; omega)).mono ?_
    rintro e w2 ⟨rfl, hb2⟩
    go_wp2
    go_ret
    exact ⟨ret_bool HS.out, hb.trans (hb2.mono hb.size)⟩
  · have HS : Hid (decide (Nv.nm ⟨node, ⟨⟨g, t, tl⟩, At, nt, ct⟩⟩ = Nv.nm ⟨node', ⟨⟨g', t', tl'⟩, At', nt', ct'⟩⟩) = false) := Lib.hid (by rw [hd]; simp [e1])
    have t1 : (node == node') = false := beq_eq_false_iff_ne.2 e1
    clear hd e1
    go_enter Try.func40, Try.ntmps40
    go_wp2
    go_ret
    exact ⟨ret_bool HS.out.symm, hb⟩

set_option maxHeartbeats 2000000 in
set_option maxRecDepth 20000 in
theorem veqf_any (U U' : Vw) (g : Nat) (eg : ∀ args w, (callFunc g args).run Try.prog w = .ok (.enter g args) w) (w : World) (h : VRd w U) (h' : VRd w U') (hn : U.n ≤ 1000) (hn' : U'.n ≤ 1000)
    (hp : ∀ (x y : Nv) (W : World), x ∈ U.l → y ∈ U'.l → SRd W x.v → SRd W y.v → Calls Try.prog g #[nv x, nv y] W fun e w' => e = .returned (.bool (decide (x.nm = y.nm))) ∧ Below W.heap.size W w') :
    Calls Try.prog 39 #[vval U, vval U', .func (.func g) #[] #[]] w fun e w' => e = .returned (.bool (decide (U.view = U'.view))) ∧ Below w.heap.size w w' := by
  obtain ⟨l, A, n, c⟩ := U
  obtain ⟨l', A', n', c'⟩ := U'
  have hl := h.len
  have hl' := h'.len
  simp only at hn hn' hl hl' hp
  have HL := Lib.hid hl
  have HL' := Lib.hid hl'
  have HP := Lib.hid hp
  clear hl hl' hp
  simp only [vval]
  by_cases hnn : n = n'
  · subst hnn
    go_enter Try.func39, Try.ntmps39
    go_wp2
    go_loopw [17] (fun i wr => ∃ k : Nat, k ≤ n ∧ i = .int .i64 k ∧ (l.take k).map Nv.nm = (l'.take k).map Nv.nm ∧ Below w.heap.size w wr) (fun i _ => n - (intOf i).toNat)
    case atStart => exact ⟨0, by omega, rfl, rfl, Below.refl _ _⟩
    case round =>
      obtain ⟨k, hk, rfl, hno, hbel⟩ := hrel
      have HN := Lib.hid hno
      have hbs := hbel.size
      clear hno
      by_cases hlt : k < n
      · obtain ⟨b, o, x, e1, hb, hx, hsx, c0, c1, c2, c3⟩ := (h.belowH hbel).at hlt
        obtain ⟨b', o', y, e2, hb', hy, hsy, d0, d1, d2, d3⟩ := (h'.belowH hbel).at hlt
        simp only at e1 e2 hx hy
        subst e1 e2
        have hk0 : (0 : Int) ≤ (k : Int) := by omega
        have HX := Lib.hid hx
        have HY := Lib.hid hy
        have hxl : x ∈ l := List.mem_of_getElem? hx
        have hyl : y ∈ l' := List.mem_of_getElem? hy
        clear hx hy
        have hbel4 := (hbel.alloc hbs (.cells #[.int .i64 x.node, .int .i64 x.v.s.gen, .int .i64 x.v.s.beat, .slice x.v.A x.v.n x.v.c] 45)).alloc (by simp; omega) (.cells #[.int .i64 y.node, .int .i64 y.v.s.gen, .int .i64 y.v.s.beat, .slice y.v.A y.v.n y.v.c] 45)
        have hsx4 := (hsx.allocH (.cells #[.int .i64 x.node, .int .i64 x.v.s.gen, .int .i64 x.v.s.beat, .slice x.v.A x.v.n x.v.c] 45)).allocH (.cells #[.int .i64 y.node, .int .i64 y.v.s.gen, .int .i64 y.v.s.beat, .slice y.v.A y.v.n y.v.c] 45)
        have hsy4 := (hsy.allocH (.cells #[.int .i64 x.node, .int .i64 x.v.s.gen, .int .i64 x.v.s.beat, .slice x.v.A x.v.n x.v.c] 45)).allocH (.cells #[.int .i64 y.node, .int .i64 y.v.s.gen, .int .i64 y.v.s.beat, .slice y.v.A y.v.n y.v.c] 45)
        replace d0 := (World.cell?_alloc_lt wr (.cells #[.int .i64 x.node, .int .i64 x.v.s.gen, .int .i64 x.v.s.beat, .slice x.v.A x.v.n x.v.c] 45) ⟨b', o' + k * 4, none⟩ hb').trans d0
        replace d1 := (World.cell?_alloc_lt wr (.cells #[.int .i64 x.node, .int .i64 x.v.s.gen, .int .i64 x.v.s.beat, .slice x.v.A x.v.n x.v.c] 45) ⟨b', o' + k * 4 + 1, none⟩ hb').trans d1
        replace d2 := (World.cell?_alloc_lt wr (.cells #[.int .i64 x.node, .int .i64 x.v.s.gen, .int .i64 x.v.s.beat, .slice x.v.A x.v.n x.v.c] 45) ⟨b', o' + k * 4 + 2, none⟩ hb').trans d2
        replace d3 := (World.cell?_alloc_lt wr (.cells #[.int .i64 x.node, .int .i64 x.v.s.gen, .int .i64 x.v.s.beat, .slice x.v.A x.v.n x.v.c] 45) ⟨b', o' + k * 4 + 3, none⟩ hb').trans d3
        clear hsx hsy
        have hd : decide (x.nm = y.nm) = true ∨ decide (x.nm = y.nm) = false := by cases decide (x.nm = y.nm) <;> simp
        go_wp2_with fail
        refine (HP.out x y _ hxl hyl hsx4 hsy4).mono ?_
        rintro e w2 ⟨rfl, hb2⟩
        have hbel5 := hbel4.trans (hb2.mono hbel4.size)
        clear hb2 hsx4 hsy4 hbel4 c0 c1 c2 c3 d0 d1 d2 d3
        rcases hd with hd | hd
        · have HE := Lib.hid (of_decide_eq_true hd)
          simp only [hd]
          clear hd
          go_wp2
          go_roundw
          case rel => exact ⟨k + 1, by omega, by go_num, by rw [take_more HX.out, take_more HY.out, List.map_append, List.map_append, HN.out, List.map_singleton, List.map_singleton, HE.out], hbel5⟩
          case measure => simp [intOf]; omega
        · have hne : decide (Vw.view ⟨l, some ⟨b, o, none⟩, n, c⟩ = Vw.view ⟨l', some ⟨b', o', none⟩, n, c'⟩) = false := decide_eq_false fun e => (of_decide_eq_false hd) (by
            have h1 := nm_at HX.out
            have h2 := nm_at HY.out
            rw [show l.map Nv.nm = l'.map Nv.nm from e, h2] at h1
            injection h1 with h1
            exact h1.symm)
          have HNE := Lib.hid hne
          simp only [hd]
          clear hne hd
          go_wp2
          go_ret
          exact ⟨ret_bool HNE.out.symm, hbel5⟩
      · have he : decide (Vw.view ⟨l, A, n, c⟩ = Vw.view ⟨l', A', n, c'⟩) = true := decide_eq_true (by
          have h1 := HN.out
          rwa [List.take_of_length_le (by have := HL.out; omega), List.take_of_length_le (by have := HL'.out; omega)] at h1)
        have HE := Lib.hid he
        clear he
        go_wp2
        go_ret
        exact ⟨ret_bool HE.out.symm, hbel⟩
  · have t1 : ((n : Int) != (n' : Int)) = true := by rw [bne_iff_ne]; omega
    have hne : decide (Vw.view ⟨l, A, n, c⟩ = Vw.view ⟨l', A', n', c'⟩) = false := decide_eq_false fun e => by
      have h1 := congrArg List.length (show l.map Nv.nm = l'.map Nv.nm from e)
      rw [List.length_map, List.length_map, HL.out, HL'.out] at h1
      exact hnn h1
    have HNE := Lib.hid hne
    clear hne hnn
    go_enter Try.func39, Try.ntmps39
    go_wp2
    go_ret
    exact ⟨ret_bool HNE.out.symm, Below.refl _ _⟩

theorem vsame_any (U U' : Vw) (w : World) (h : VRd w U) (h' : VRd w U') (hn : U.n ≤ 1000) (hn' : U'.n ≤ 1000) (hf : VFit U) (hf' : VFit U') : Calls Try.prog 18 #[vval U, vval U'] w fun e w' => e = .returned (.bool (decide (U.view = U'.view))) ∧ Below w.heap.size w w' := by
  have cp := veqf_any U U' _ vegSame w h h' hn hn' (fun x y W hx hy hsx hsy => vsame1_any x y W hsx hsy (hf x hx) (hf' y hy))
  have CP := Lib.hid cp
  clear cp h h'
  obtain ⟨l, A, n, c⟩ := U
  obtain ⟨l', A', n', c'⟩ := U'
  simp only [vval]
  go_enter Try.func18, Try.ntmps18
  go_wp2_with fail
  refine CP.out.mono ?_
  rintro e w2 ⟨rfl, hb⟩
  go_wp2
  go_ret
  exact ⟨rfl, hb⟩

set_option maxHeartbeats 1000000 in
theorem vnodes_any (U : Vw) (w : World) (h : VRd w U) (hn : U.n ≤ 1000) : Calls Try.prog 16 #[vval U] w fun e w' => ∃ A' c', e = .returned (.slice A' U.n c') ∧ w'.ownsRow w.heap.size 3 1 (.slice A' U.n c') U.n (I (U.l.map Nv.node)) ∧ Below w.heap.size w w' := by
  obtain ⟨l, A, n, c⟩ := U
  have hl := h.len
  simp only at hn hl
  have HL := Lib.hid hl
  clear hl
  simp only [vval]
  go_enter Try.func16, Try.ntmps16
  go_wp2_with (at_make; refine make0_law i64T rfl _ _ rfl w.heap.size rfl rfl (by omega) (by omega) (by omega) (Nat.le_refl _) ?_; intro A0 c0' w0 hown0 hg0)
  have b0 : Below w.heap.size w w0 := (Below.refl _ _).grown hg0 (Nat.le_refl _) (fun k hk => by cases hk)
  clear hg0
  go_loopw [3, 11] (fun v i wr => ∃ k A1 c1, k ≤ n ∧ v = .slice A1 k c1 ∧ i = .int .i64 k ∧ wr.ownsRow w.heap.size 3 1 (.slice A1 k c1) k (I ((l.take k).map Nv.node)) ∧ Below w.heap.size w wr) (fun _ i _ => n - (intOf i).toNat)
  case atStart => exact ⟨0, A0, c0', by omega, rfl, rfl, hown0, b0⟩
  case round =>
    obtain ⟨k, A1, c1, hk, rfl, rfl, hown, hbel⟩ := hrel
    have hbs := hbel.size
    by_cases hlt : k < n
    · obtain ⟨b, o, x, e1, hb, hx, hsx, d0, d1, d2, d3⟩ := (h.belowH hbel).at hlt
      have hk0 : (0 : Int) ≤ (k : Int) := by omega
      have htk : (l.take (k + 1)).map Nv.node = (l.take k).map Nv.node ++ [x.node] := by
        simp only at hx
        rw [take_more hx, List.map_append]; rfl
      have HTK := Lib.hid htk
      simp only at e1
      subst e1
      have hown1 := hown.alloc (.cells #[.int .i64 x.node, .int .i64 x.v.s.gen, .int .i64 x.v.s.beat, .slice x.v.A x.v.n x.v.c] 45)
      have hbel1 := hbel.alloc hbs (.cells #[.int .i64 x.node, .int .i64 x.v.s.gen, .int .i64 x.v.s.beat, .slice x.v.A x.v.n x.v.c] 45)
      have hr1 : Rd ((wr.alloc (.cells #[.int .i64 x.node, .int .i64 x.v.s.gen, .int .i64 x.v.s.beat, .slice x.v.A x.v.n x.v.c] 45)).alloc (.cells #[.int .i64 x.node] 3)) (wr.heap.size + 1 + 1) 1 (some ⟨wr.heap.size + 1, 0, none⟩) 1 [.int .i64 x.node] := by
        have h9 := Rd.one (wr.alloc (.cells #[.int .i64 x.node, .int .i64 x.v.s.gen, .int .i64 x.v.s.beat, .slice x.v.A x.v.n x.v.c] 45)) (.int .i64 x.node) 3
        rwa [show (wr.alloc (.cells #[.int .i64 x.node, .int .i64 x.v.s.gen, .int .i64 x.v.s.beat, .slice x.v.A x.v.n x.v.c] 45)).heap.size = wr.heap.size + 1 by simp] at h9
      clear htk hx hsx
      go_wp2_with (at_builtin; refine app_law i64T rfl (.tmp 15) (.tmp 18) rfl w.heap.size rfl (hown1.alloc _) rfl hr1 (one_int _ _) (by omega) (by omega) (by simp; omega) ?_; rintro A2 c2 w2 ⟨hown2, hg2, _, holdw2⟩)
      go_roundw
      case rel =>
        refine ⟨k + 1, A2, c2, by omega, rfl, by go_num, ?_, below_app (hbel1.alloc (by simp; omega) _) (hown1.alloc _) hg2 (Nat.le_refl _) (by simp; omega)⟩
        rw [HTK.out]
        simpa [I] using hown2
      case measure => simp [intOf]; omega
    · obtain rfl : k = n := by omega
      have htk : l.take k = l := List.take_of_length_le (by have := HL.out; omega)
      rw [htk] at hown
      have HO := Lib.hid hown
      clear htk hown
      go_wp2
      go_ret
      exact ⟨A1, c1, rfl, HO.out, hbel⟩
end Go.Proofs.Ytpfkgddcoancnaa
