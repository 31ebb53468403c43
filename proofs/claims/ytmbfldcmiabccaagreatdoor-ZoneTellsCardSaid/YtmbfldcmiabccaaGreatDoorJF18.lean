/- VRef7 VC5 OC7 OC8 OC9 OC10 (merged). -/
import Derived.Test.YtmbfldcmiabccaaGreatDoorJF08
import Derived.Test.YtmbfldcmiabccaaGreatDoorJF12
import Derived.Test.YtmbfldcmiabccaaGreatDoorJF13
import Derived.Test.YtmbfldcmiabccaaGreatDoorJF14
import Derived.Test.YtmbfldcmiabccaaGreatDoorJF16
import Derived.Test.YtmbfldcmiabccaaGreatDoorJF17
namespace Go.Proofs.YtmbfldcmiabccaaGreatDoor
set_option linter.unusedVariables false
set_option linter.unusedSimpArgs false
open Go.RowKit

theorem i64T : SlT Tryz.prog 23 3 (.int .i64 0) 1 8 := ⟨Tryz.underlying23, by kernel_rfl, rfl, by omega⟩

end Go.Proofs.YtmbfldcmiabccaaGreatDoor

namespace Go.Proofs.YtmbfldcmiabccaaGreatDoor
set_option linter.unusedVariables false
set_option linter.unusedSimpArgs false
open Go.RowKit

set_option maxHeartbeats 1000000 in
theorem vnodes_any (U : Vw) (w : World) (h : VRd w U) (hn : U.n ≤ 1000) : Calls Tryz.prog 28 #[vval U] w fun e w' => ∃ A' c', e = .returned (.slice A' U.n c') ∧ w'.ownsRow w.heap.size 3 1 (.slice A' U.n c') U.n (I (U.l.map Nv.node)) ∧ Below w.heap.size w w' := by
  obtain ⟨l, A, n, c⟩ := U
  have hl := h.len
  simp only at hn hl
  have HL := Lib.hid hl
  clear hl
  simp only [vval]
  go_enter Tryz.func28, Tryz.ntmps28
  go_wp2_with (at_make; refine make0_law i64T rfl _ _ rfl w.heap.size rfl rfl (by omega) (by omega) (by omega) (Nat.le_refl _) ?_; intro A0 c0' w0 hown0 hg0)
  have b0 : Below w.heap.size w w0 := (Below.refl _ _).grown hg0 (Nat.le_refl _) (fun k hk => by cases hk)
  clear hg0
  go_loopw [3, 11] (fun v i wr => ∃ k A1 c1, k ≤ n ∧ v = .slice A1 k c1 ∧ i = .int .i64 k ∧ wr.ownsRow w.heap.size 3 1 (.slice A1 k c1) k (I ((l.take k).map Nv.node)) ∧ Below w.heap.size w wr) (fun _ i _ => n - (intOf i).toNat)
  case atStart => exact ⟨0, A0, c0', by omega, rfl, rfl, hown0, b0⟩
  case round =>
    obtain ⟨k, A1, c1, hk, rfl, rfl, hown, hbel⟩ := hrel
    have hbs := hbel.size
    by_cases hlt : k < n
    · obtain ⟨b, o, x, e1, hb, hx, hsx, d0, d1, d2, d3⟩ := (h.belowH hbel).at hlt
      have hk0 : (0 : Int) ≤ (k : Int) := by omega
      have htk : (l.take (k + 1)).map Nv.node = (l.take k).map Nv.node ++ [x.node] := by
        simp only at hx
        rw [take_more hx, List.map_append]; rfl
      have HTK := Lib.hid htk
      simp only at e1
      subst e1
      have hown1 := hown.alloc (.cells #[.int .i64 x.node, .int .i64 x.v.s.gen, .int .i64 x.v.s.beat, .slice x.v.A x.v.n x.v.c] 53)
      have hbel1 := hbel.alloc hbs (.cells #[.int .i64 x.node, .int .i64 x.v.s.gen, .int .i64 x.v.s.beat, .slice x.v.A x.v.n x.v.c] 53)
      have hr1 : Rd ((wr.alloc (.cells #[.int .i64 x.node, .int .i64 x.v.s.gen, .int .i64 x.v.s.beat, .slice x.v.A x.v.n x.v.c] 53)).alloc (.cells #[.int .i64 x.node] 3)) (wr.heap.size + 1 + 1) 1 (some ⟨wr.heap.size + 1, 0, none⟩) 1 [.int .i64 x.node] := by
        have h9 := Rd.one (wr.alloc (.cells #[.int .i64 x.node, .int .i64 x.v.s.gen, .int .i64 x.v.s.beat, .slice x.v.A x.v.n x.v.c] 53)) (.int .i64 x.node) 3
        rwa [show (wr.alloc (.cells #[.int .i64 x.node, .int .i64 x.v.s.gen, .int .i64 x.v.s.beat, .slice x.v.A x.v.n x.v.c] 53)).heap.size = wr.heap.size + 1 by simp] at h9
      clear htk hx hsx
      go_wp2_with (at_builtin; refine app_law i64T rfl (.tmp 15) (.tmp 18) rfl w.heap.size rfl (hown1.alloc _) rfl hr1 (one_int _ _) (by omega) (by omega) (by simp; omega) ?_; rintro A2 c2 w2 ⟨hown2, hg2, _, holdw2⟩)
      go_roundw
      case rel =>
        refine ⟨k + 1, A2, c2, by omega, rfl, by go_num, ?_, below_app (hbel1.alloc (by simp; omega) _) (hown1.alloc _) hg2 (Nat.le_refl _) (by simp; omega)⟩
        rw [HTK.out]
        simpa [I] using hown2
      case measure => simp [intOf]; omega
    · obtain rfl : k = n := by omega
      have htk : l.take k = l := List.take_of_length_le (by have := HL.out; omega)
      rw [htk] at hown
      have HO := Lib.hid hown
      clear htk hown
      go_wp2
      go_ret
      exact ⟨A1, c1, rfl, HO.out, hbel⟩
end Go.Proofs.YtmbfldcmiabccaaGreatDoor

namespace Go.Proofs.YtmbfldcmiabccaaGreatDoor
set_option linter.unusedVariables false
set_option linter.unusedSimpArgs false
open Go.RowKit
def cnv (al : List Int) (x : Nv) : Bool := Zo.cnt al x.nm
/-- endpoints' states that were made -/
def MadeNv (L : List Nv) (w : World) (e : Ending) (w' : World) : Prop :=
  ∃ (A : Option Addr) (n c : Nat), e = .returned (.slice A n c) ∧ L.length = n ∧ w'.ownsRow w.heap.size 53 4 (.slice A n c) n (FC ncl L) ∧ Below w.heap.size w w'
theorem filter_atO {α : Type} {p : α → Bool} {l : List α} {k : Nat} {x : α} (h : l[k]? = some x) : (l.take (k + 1)).filter p = (l.take k).filter p ++ if p x = true then [x] else [] := by
  rw [take_more h, List.filter_append]
  cases hp : p x <;> simp [hp]
set_option maxHeartbeats 4000000 in
set_option maxRecDepth 20000 in
theorem ocounting_any (s : Sn) (w : World) (h : SnRd w s) (hok : SnOk s) : Calls Tryz.prog 29 #[snval s] w (MadeNv (s.v.l.filter (cnv s.al)) w) := by
  obtain ⟨⟨l, A0, n, c0⟩, al, B0, mm, d, dom⟩ := s
  have X := Box.new w #[.slice A0 n c0, .slice B0 mm d, .string (strB dom)] 25
  have b1 := (Below.refl w.heap.size w).alloc (Nat.le_refl _) (.cells #[.slice A0 n c0, .slice B0 mm d, .string (strB dom)] 25)
  have hs1 : w.heap.size < (w.alloc (.cells #[.slice A0 n c0, .slice B0 mm d, .string (strB dom)] 25)).heap.size := by simp
  have HL : Hid (l.length = n) := Lib.hid h.1.len
  have hn : n ≤ 1000 := hok.fit.1
  have HM : Hid (mm ≤ 1000) := Lib.hid hok.fit.2.2
  have HF : Hid (∀ x ∈ l, x.v.n ≤ 4000) := Lib.hid hok.fit.2.1
  have h0 := h.belowH b1
  clear h hok
  simp only [snval]
  go_enter Tryz.func29, Tryz.ntmps29
  go_upto_region 1 with fail
  generalize w.alloc (.cells #[.slice A0 n c0, .slice B0 mm d, .string (strB dom)] 25) = w0 at *
  have x0 := X.at 0 rfl
  go_wp2
  go_loopw [3, 9] (fun o i wr => ∃ (k m : Nat) (A1 : Option Addr) (c1 : Nat) (Q : List Nv), k ≤ n ∧ m ≤ k ∧ i = .int .i64 (k : Int) ∧ o = .slice A1 m c1 ∧ Hid (Q = (l.take k).filter (cnv al) ∧ Q.length = m) ∧ wr.ownsRow w0.heap.size 53 4 (.slice A1 m c1) m (FC ncl Q) ∧ Below w0.heap.size w0 wr) (fun _ i _ => n - (intOf i).toNat)
  case atStart => exact ⟨0, 0, none, 0, [], Nat.zero_le _, Nat.le_refl _, rfl, rfl, Lib.hid ⟨rfl, rfl⟩, World.ownsRow_nil _ _ _ _, Below.refl _ _⟩
  case round =>
    obtain ⟨k, m, A1, c1, Q, hk, hmk, rfl, rfl, HQ, own, b⟩ := hrel
    have bs := b.size
    by_cases hlt : k < n
    · have hr := h0.belowH b
      obtain ⟨bq, oq, x, e1, hbq, hx, hsx, d0, d1, d2, d3⟩ := hr.1.at hlt
      simp only at e1 hx
      have HX := Lib.hid hx
      have HFX := Lib.hid (HF.out x (List.mem_of_getElem? hx))
      have hra := hr.2
      have hk0 : (0 : Int) ≤ (k : Int) := by omega
      have X1 := X.below b hs1
      have hlx := X1.lt
      have Z1 := X1.alloc (.cells #[.int .i64 x.node, .int .i64 x.v.s.gen, .int .i64 x.v.s.beat, .slice x.v.A x.v.n x.v.c] 53)
      have Y1 := Box.new wr #[.int .i64 x.node, .int .i64 x.v.s.gen, .int .i64 x.v.s.beat, .slice x.v.A x.v.n x.v.c] 53
      have hra1 := (hra.alloc (Nat.le_refl _) (.cells #[.int .i64 x.node, .int .i64 x.v.s.gen, .int .i64 x.v.s.beat, .slice x.v.A x.v.n x.v.c] 53))
      have hsx1 := hsx.allocH (.cells #[.int .i64 x.node, .int .i64 x.v.s.gen, .int .i64 x.v.s.beat, .slice x.v.A x.v.n x.v.c] 53)
      have own1 := own.alloc (.cells #[.int .i64 x.node, .int .i64 x.v.s.gen, .int .i64 x.v.s.beat, .slice x.v.A x.v.n x.v.c] 53)
      have b2 := b.alloc bs (.cells #[.int .i64 x.node, .int .i64 x.v.s.gen, .int .i64 x.v.s.beat, .slice x.v.A x.v.n x.v.c] 53)
      have hsz1 : wr.heap.size < (wr.alloc (.cells #[.int .i64 x.node, .int .i64 x.v.s.gen, .int .i64 x.v.s.beat, .slice x.v.A x.v.n x.v.c] 53)).heap.size := by simp
      subst e1
      clear hx hr hra hsx own b x0 X1
      go_upto_region 5 with fail
      generalize wr.alloc (.cells #[.int .i64 x.node, .int .i64 x.v.s.gen, .int .i64 x.v.s.beat, .slice x.v.A x.v.n x.v.c] 53) = w1 at *
      obtain ⟨u, hu⟩ : ∃ u, decide (x.node ∈ al) = u := ⟨_, rfl⟩
      have C1 := ocontains_any al x.node B0 mm d _ w1 hra1 (by have := HM.out; omega)
      rw [hu] at C1
      have HU := Lib.hid hu
      have z1 := Z1.at 1 rfl
      have y0 := Y1.at 0 rfl
      have y3 := Y1.at 3 rfl
      clear hu d0 d1 d2 d3
      go_wp2_with fail
      refine C1.mono ?_
      clear C1
      rintro e w2 ⟨rfl, rfl⟩
      cases u with
      | false =>
        have HN2 : Hid (Q = (l.take (k + 1)).filter (cnv al)) := Lib.hid (by
          rw [filter_atO HX.out, if_neg (by show ¬ (decide (x.node ∈ al) && _) = true; rw [HU.out]; simp), List.append_nil]
          exact HQ.out.1)
        go_wp2
        go_roundw
        case rel => exact ⟨k + 1, m, A1, c1, Q, by omega, by omega, by go_num, rfl, Lib.hid ⟨HN2.out, HQ.out.2⟩, own1, b2⟩
        case measure => simp [intOf]; omega
      | true =>
        have C2 := yup_any x.v.s.apps x.v.A x.v.n x.v.c w1 (by exact hsx1) (by have := HFX.out; omega)
        obtain ⟨v, hv⟩ : ∃ v, Y.up x.v.s.apps = v := ⟨_, rfl⟩
        rw [hv] at C2
        have HV := Lib.hid hv
        clear hv
        go_wp2_with fail
        refine C2.mono ?_
        clear C2
        rintro e w3 ⟨rfl, hb3⟩
        have own3 := own_below own1 hb3
        have b3 := b2.trans (hb3.mono b2.size)
        have Y3 := Y1.belowH hb3
        have y0 := Y3.at 0 rfl
        have y1 := Y3.at 1 rfl
        have y2 := Y3.at 2 rfl
        have y3 := Y3.at 3 rfl
        clear hb3 own1 b2 hra1 hsx1 Z1 z1
        cases v with
        | false =>
          have HN2 : Hid (Q = (l.take (k + 1)).filter (cnv al)) := Lib.hid (by
            rw [filter_atO HX.out, if_neg (by show ¬ (decide (x.node ∈ al) && Y.up x.v.s.apps) = true; rw [HU.out, HV.out]; simp), List.append_nil]
            exact HQ.out.1)
          go_wp2
          go_roundw
          case rel => exact ⟨k + 1, m, A1, c1, Q, by omega, by omega, by go_num, rfl, Lib.hid ⟨HN2.out, HQ.out.2⟩, own3, b3⟩
          case measure => simp [intOf]; omega
        | true =>
          have HN2 : Hid (Q ++ [x] = (l.take (k + 1)).filter (cnv al)) := Lib.hid (by
            rw [filter_atO HX.out, if_pos (by show (decide (x.node ∈ al) && Y.up x.v.s.apps) = true; rw [HU.out, HV.out]; rfl)]
            rw [HQ.out.1])
          have hm2 : (m + 1) * 48 ≤ 140737488355328 := by omega
          go_wp2_with (at_builtin; refine pushF_law (f := ncl) (y := x) nmT ncl_len ncl_one rfl (.tmp 24) (.tmp 26) rfl w0.heap.size (by rfl) (by rfl) (by rfl) own3 hm2 (by omega) (by have := b3.size; omega) ?_; rintro A4 c4 w4 own4 hb4 _)
          go_roundw
          case rel => exact ⟨k + 1, m + 1, A4, c4, Q ++ [x], by omega, by omega, by go_num, rfl, Lib.hid ⟨HN2.out, by rw [List.length_append, HQ.out.2]; rfl⟩, own4, b3.trans hb4⟩
          case measure => simp [intOf]; omega
    · obtain rfl : k = n := by omega
      have HE : Hid (Q = l.filter (cnv al)) := Lib.hid (by have h1 := HQ.out.1; rwa [List.take_of_length_le (by have := HL.out; omega)] at h1)
      go_wp2
      go_ret
      exact ⟨A1, m, c1, rfl, by rw [← HE.out]; exact HQ.out.2, by rw [← HE.out]; exact own_mono own (by omega), b1.trans (b.mono (by omega))⟩
end Go.Proofs.YtmbfldcmiabccaaGreatDoor

namespace Go.Proofs.YtmbfldcmiabccaaGreatDoor
set_option linter.unusedVariables false
set_option linter.unusedSimpArgs false
open Go.RowKit
theorem cing_nv (s : Sn) : Zo.cing s.al s.v.view = (s.v.l.filter (cnv s.al)).map Nv.nm := by
  unfold Zo.cing Vw.view
  rw [List.filter_map]
  rfl
theorem counts_nv (s : Sn) : Zo.counts s.sc = (s.v.l.filter (cnv s.al)).map Nv.node := by
  rw [Zo.counts_cing]
  show (Zo.cing s.al s.v.view).map Nm.node = _
  rw [cing_nv, List.map_map]
  rfl
theorem made_vrd {s : Sn} {w w' : World} {A : Option Addr} {n c : Nat} (h : SnRd w s) (hb : Below w.heap.size w w') (ho : w'.ownsRow w.heap.size 53 4 (.slice A n c) n (FC ncl (s.v.l.filter (cnv s.al)))) : VRd w' ⟨s.v.l.filter (cnv s.al), A, n, c⟩ :=
  ⟨Rd.of_own ho, fun x hx => (h.1.2 x (List.mem_filter.1 hx).1).belowH hb⟩
set_option maxHeartbeats 2000000 in
theorem ocounts_any (s : Sn) (w : World) (h : SnRd w s) (ha : SnArg s) : Calls Tryz.prog 12 #[snval s] w (RdI (Zo.counts s.sc) w) := by
  have b1 := (Below.refl w.heap.size w).alloc (Nat.le_refl _) (.cells #[.slice s.v.A s.v.n s.v.c, .slice s.B s.m s.d, .string (strB s.dom)] 25)
  have X := Box.new w #[.slice s.v.A s.v.n s.v.c, .slice s.B s.m s.d, .string (strB s.dom)] 25
  have h1 := h.belowH b1
  have EC := Lib.hid (counts_nv s)
  have LN : Hid ((s.v.l.filter (cnv s.al)).length ≤ 1000) := Lib.hid (Nat.le_trans (List.length_filter_le _ _) (by have h1 := h.1.len; have := ha.ok.fit.1; omega))
  clear h
  simp only [snval]
  go_enter Tryz.func12, Tryz.ntmps12
  go_upto_region 1 with fail
  generalize w.alloc (.cells #[.slice s.v.A s.v.n s.v.c, .slice s.B s.m s.d, .string (strB s.dom)] 25) = w1 at *
  have x0 := X.at 0 rfl
  have x1 := X.at 1 rfl
  have x2 := X.at 2 rfl
  have C1 := ocounting_any s w1 h1 ha.ok
  simp only [snval] at C1
  go_wp2_with fail
  refine C1.mono ?_
  clear C1
  rintro e w2 ⟨A, n, c, rfl, hl, own, hb2⟩
  have V2 := made_vrd h1 hb2 own
  have C2 := vnodes_any ⟨s.v.l.filter (cnv s.al), A, n, c⟩ w2 V2 (by have h2 := LN.out; rw [hl] at h2; exact h2)
  have HL := Lib.hid hl
  simp only [vval] at C2
  clear own V2 hl
  go_wp2_with fail
  refine C2.mono ?_
  clear C2
  rintro e w3 ⟨A3, c3, rfl, own3, hb3⟩
  go_wp2
  go_ret
  refine ⟨A3, n, c3, rfl, ?_, ?_, own_cap own3, (b1.trans (hb2.mono b1.size)).trans (hb3.mono (by have := b1.size; have := hb2.size; omega))⟩
  · rw [EC.out, List.length_map]; exact HL.out
  · rw [EC.out]; exact Rd.of_own own3
theorem oishost_any (s : Sn) (node : Int) (name : List UInt8) (w : World) (ha : SnArg s) (hn : name.length ≤ 100000) : Calls Tryz.prog 35 #[snval s, .int .i64 node, .string (strB name)] w (BoB (Zo.hostIs s.dom name node) w) := by
  have b1 := (Below.refl w.heap.size w).alloc (Nat.le_refl _) (.cells #[.slice s.v.A s.v.n s.v.c, .slice s.B s.m s.d, .string (strB s.dom)] 25)
  have X := Box.new w #[.slice s.v.A s.v.n s.v.c, .slice s.B s.m s.d, .string (strB s.dom)] 25
  have E := Lib.hid (Zo.hostIs_same s.dom name node)
  have HS := hostN_shortO s.dom node
  obtain ⟨⟨t, ok⟩, et⟩ : ∃ z, Zo.hostN s.dom node = z := ⟨_, rfl⟩
  rw [et] at E HS
  simp only [snval]
  go_enter Tryz.func35, Tryz.ntmps35
  go_upto_region 1 with fail
  generalize w.alloc (.cells #[.slice s.v.A s.v.n s.v.c, .slice s.B s.m s.d, .string (strB s.dom)] 25) = w1 at *
  have x0 := X.at 0 rfl
  have x1 := X.at 1 rfl
  have x2 := X.at 2 rfl
  have C1 := ohost0_any (.slice s.v.A s.v.n s.v.c) (.slice s.B s.m s.d) rfl rfl s.dom node w1 ha.ok.dom
  rw [et] at C1
  clear et
  go_wp2_with fail
  refine C1.mono ?_
  clear C1
  rintro e w2 ⟨rfl, hb2⟩
  have C2 := blsame_any name t hn (by exact Nat.le_trans HS (by decide)) w2
  have E2 := E.out
  rw [E2] at C2
  clear E2
  go_wp2_with fail
  refine C2.mono ?_
  clear C2
  rintro e w3 ⟨rfl, hb3⟩
  go_wp2
  go_ret
  exact ⟨rfl, (b1.trans (hb2.mono b1.size)).trans (hb3.mono (by have := b1.size; have := hb2.size; omega))⟩
end Go.Proofs.YtmbfldcmiabccaaGreatDoor

namespace Go.Proofs.YtmbfldcmiabccaaGreatDoor
set_option linter.unusedVariables false
set_option linter.unusedSimpArgs false
open Go.RowKit
/-- services that were made -/
def MadeYo (L : List Svc) (w : World) (e : Ending) (w' : World) : Prop :=
  ∃ (A : Option Addr) (n c : Nat), e = .returned (.slice A n c) ∧ L.length = n ∧ w'.ownsRow w.heap.size 46 6 (.slice A n c) n (FC yc L) ∧ Below w.heap.size w w'
theorem all_rightO : ∀ (l : List Ent), ∀ x ∈ Y.all l, Y.right x
  | [], x, h => by simp [Y.all] at h
  | y :: l, x, h => by
    have h1 : Y.all (y :: l) = if Y.tells y then (Y.dec y.val).1 :: Y.all l else Y.all l := rfl
    rw [h1] at h
    split at h
    · rename_i ht
      rcases List.mem_cons.1 h with rfl | h
      · exact (Y.dec_once (by unfold Y.tells at ht; exact ht.2)).1
      · exact all_rightO l x h
    · exact all_rightO l x h
theorem two_shortO {a b : List UInt8} (ha : a.length ≤ 20) (hb : b.length ≤ 20) : ∀ x ∈ [95 :: a, 95 :: b], x.length ≤ 1000 := by
  intro x hx
  simp only [List.mem_cons, List.not_mem_nil, or_false] at hx
  rcases hx with rfl | rfl <;> simp only [List.length_cons] <;> omega
set_option maxHeartbeats 8000000 in
set_option maxRecDepth 20000 in
theorem ooffered_any (s : Sn) (x : Nv) (name : List UInt8) (w : World) (hx : SRd w x.v) (hxn : x.v.n ≤ 4000) (hv : ∀ y ∈ x.v.s.apps, y.val.length ≤ 140737488351232) (hd : s.dom.length ≤ 1000) (hn : name.length ≤ 100000) :
    Calls Tryz.prog 36 #[snval s, nv x, .string (strB name)] w (MadeYo (Zo.off s.dom name x.v.s.apps) w) := by
  obtain ⟨sv, al, B0, mm, d, dom⟩ := s
  obtain ⟨node, ⟨⟨g0, b0, l⟩, xA, xn, xc⟩⟩ := x
  simp only at hxn hv hd
  have X := (Box.new w #[.slice sv.A sv.n sv.c, .slice B0 mm d, .string (strB dom)] 25).alloc (.cells #[.int .i64 node, .int .i64 g0, .int .i64 b0, .slice xA xn xc] 53)
  have NB := Box.new (w.alloc (.cells #[.slice sv.A sv.n sv.c, .slice B0 mm d, .string (strB dom)] 25)) #[.int .i64 node, .int .i64 g0, .int .i64 b0, .slice xA xn xc] 53
  rw [show (w.alloc (.cells #[.slice sv.A sv.n sv.c, .slice B0 mm d, .string (strB dom)] 25)).heap.size = w.heap.size + 1 by simp] at NB
  have bw := below2 w (.cells #[.slice sv.A sv.n sv.c, .slice B0 mm d, .string (strB dom)] 25) (.cells #[.int .i64 node, .int .i64 g0, .int .i64 b0, .slice xA xn xc] 53)
  have hs0 : w.heap.size + 1 < ((w.alloc (.cells #[.slice sv.A sv.n sv.c, .slice B0 mm d, .string (strB dom)] 25)).alloc (.cells #[.int .i64 node, .int .i64 g0, .int .i64 b0, .slice xA xn xc] 53)).heap.size := by simp
  have hr := hx.belowH bw
  have AR := Lib.hid (all_rightO l)
  have AL : Hid ((Y.all l).length ≤ l.length) := Lib.hid (by rw [Y.all_lst, List.length_map]; exact Y.lst_len l)
  have HV := Lib.hid hv
  have LL : Hid (l.length ≤ 4000) := Lib.hid (by have := hx.lenE; simp only at this; omega)
  clear hx hv
  simp only [snval, nv]
  go_enter Tryz.func36, Tryz.ntmps36
  go_upto_region 2 with fail
  generalize (w.alloc (.cells #[.slice sv.A sv.n sv.c, .slice B0 mm d, .string (strB dom)] 25)).alloc (.cells #[.int .i64 node, .int .i64 g0, .int .i64 b0, .slice xA xn xc] 53) = w0 at *
  have y3 := NB.at 3 rfl
  have C1 := yall_any l xA xn xc w0 (by exact hr) (by omega) HV.out
  obtain ⟨L, eL⟩ : ∃ z, Y.all l = z := ⟨_, rfl⟩
  rw [eL] at C1 AR AL
  have EO : Hid (Zo.off dom name l = L.filter (Zo.tells dom name)) := Lib.hid (by unfold Zo.off; rw [eL])
  clear eL hr HV
  go_wp2_with fail
  refine C1.mono ?_
  clear C1
  rintro e w1 ⟨⟨A1, n1, c1, rfl, hn1, R1, _⟩, hb1⟩
  have X1 := X.belowH hb1
  have hsw1 : w0.heap.size ≤ w1.heap.size := hb1.size
  have bw1 := bw.trans (hb1.mono (by omega))
  have HN1 := Lib.hid hn1
  have hn1' : n1 ≤ 4000 := by have := AL.out; have := LL.out; omega
  clear hb1 X NB y3 hn1
  go_wp2
  go_loopw [7, 17] (fun o i wr => ∃ (k m : Nat) (A2 : Option Addr) (c2 : Nat) (Q : List Svc), k ≤ n1 ∧ m ≤ k ∧ i = .int .i64 (k : Int) ∧ o = .slice A2 m c2 ∧ Hid (Q = (L.take k).filter (Zo.tells dom name) ∧ Q.length = m) ∧ wr.ownsRow w1.heap.size 46 6 (.slice A2 m c2) m (FC yc Q) ∧ Below w1.heap.size w1 wr) (fun _ i _ => n1 - (intOf i).toNat)
  case atStart => exact ⟨0, 0, none, 0, [], Nat.zero_le _, Nat.le_refl _, rfl, rfl, Lib.hid ⟨rfl, rfl⟩, World.ownsRow_nil _ _ _ _, Below.refl _ _⟩
  case round =>
    obtain ⟨k, m, A2, c2, Q, hk, hmk, rfl, rfl, HQ, own, b⟩ := hrel
    have bs := b.size
    by_cases hlt : k < n1
    · obtain ⟨bq, oq, o, e1, hbq, ho, d0, d1, d2, d3, d4, d5⟩ := (R1.belowH b).atY hlt
      subst e1
      have HO := Lib.hid ho
      have HR := Lib.hid (AR.out o (List.mem_of_getElem? ho))
      have hk0 : (0 : Int) ≤ (k : Int) := by omega
      obtain ⟨on, op, o2, o3, o4, o5⟩ := o
      have hon : on.length ≤ 20 ∧ op.length ≤ 20 := ⟨HR.out.1.2.1, HR.out.2.1.2.1⟩
      simp only at d0 d1 d2 d3 d4 d5
      have X2 := X1.belowH b
      have Z2 := X2.alloc (.cells #[.string (strB on), .string (strB op), .int .i64 o2, .int .i64 o3, .int .i64 o4, .bool o5] 46)
      have Y2 := Box.new wr #[.string (strB on), .string (strB op), .int .i64 o2, .int .i64 o3, .int .i64 o4, .bool o5] 46
      have own2 := own.alloc (.cells #[.string (strB on), .string (strB op), .int .i64 o2, .int .i64 o3, .int .i64 o4, .bool o5] 46)
      have b2 := b.alloc bs (.cells #[.string (strB on), .string (strB op), .int .i64 o2, .int .i64 o3, .int .i64 o4, .bool o5] 46)
      have hsz2 : wr.heap.size < (wr.alloc (.cells #[.string (strB on), .string (strB op), .int .i64 o2, .int .i64 o3, .int .i64 o4, .bool o5] 46)).heap.size := by simp
      clear ho own b X2
      go_upto_region 5 with fail
      generalize wr.alloc (.cells #[.string (strB on), .string (strB op), .int .i64 o2, .int .i64 o3, .int .i64 o4, .bool o5] 46) = w2 at *
      have z2 := Z2.at 2 rfl
      have y0 := Y2.at 0 rfl
      have y1 := Y2.at 1 rfl
      have T1 : (Op.stringOp .add (⟨#[95]⟩ : ByteArray) (strB on)).run Tryz.prog w2 = .ok (.string (strB (95 :: on))) w2 := run_two (a := [95]) (b := on) (by simp; omega)
      have T2 : (Op.stringOp .add (⟨#[95]⟩ : ByteArray) (strB op)).run Tryz.prog w2 = .ok (.string (strB (95 :: op))) w2 := run_two (a := [95]) (b := op) (by simp; omega)
      have RL := Rd.lit w2 #[.string (strB (95 :: on)), .string (strB (95 :: op))] 9 1 2 rfl
      have bL := (Below.refl w2.heap.size w2).alloc (Nat.le_refl _) (.cells #[.string (strB (95 :: on)), .string (strB (95 :: op))] 9)
      have Y3 := Y2.belowH bL
      have own3 := own_below own2 bL
      have b3 := b2.trans (bL.mono b2.size)
      have hsz3 : w2.heap.size < (w2.alloc (.cells #[.string (strB (95 :: on)), .string (strB (95 :: op))] 9)).heap.size := by simp
      have C2 := oahead_any dom [95 :: on, 95 :: op] (some ⟨w2.heap.size, 0, none⟩) 2 2 (w2.alloc (.cells #[.string (strB (95 :: on)), .string (strB (95 :: op))] 9)) (RL.more (by simp)) (by omega) (two_shortO hon.1 hon.2) hd
      have E3 := Lib.hid (Zo.tells_same dom name ⟨on, op, o2, o3, o4, o5⟩)
      have HS := ahead_shortO dom [95 :: on, 95 :: op]
      obtain ⟨⟨t, ok⟩, et⟩ : ∃ z, Zo.ahead dom [95 :: on, 95 :: op] = z := ⟨_, rfl⟩
      have E3' : Hid ((o5 && Lab.same name t) = Zo.tells dom name ⟨on, op, o2, o3, o4, o5⟩) := Lib.hid (by have h1 := E3.out; rw [show Zo.srvL ⟨on, op, o2, o3, o4, o5⟩ = [95 :: on, 95 :: op] from rfl, et] at h1; exact h1)
      rw [et] at C2 HS
      have HS2 := Lib.hid HS
      clear et E3 Y2 own2 b2 bL RL HS d0 d1 d2 d3 d4 d5
      go_wp2_with fail
      refine C2.mono ?_
      clear C2 T1 T2 y0 y1 z2
      rintro e w3 ⟨rfl, hb3⟩
      have Y4 := Y3.belowH hb3
      have own4 := own_below own3 hb3
      have b4 := b3.trans (hb3.mono b3.size)
      have y0 := Y4.at 0 rfl
      have y1 := Y4.at 1 rfl
      have y2 := Y4.at 2 rfl
      have y3 := Y4.at 3 rfl
      have y4 := Y4.at 4 rfl
      have y5 := Y4.at 5 rfl
      clear Y3 own3 b3 hb3
      have no : ∀ (hz : Zo.tells dom name ⟨on, op, o2, o3, o4, o5⟩ = false), Hid (Q = (L.take (k + 1)).filter (Zo.tells dom name)) := fun hz => Lib.hid (by
        rw [filter_atO HO.out, if_neg (by rw [hz]; simp), List.append_nil]
        exact HQ.out.1)
      cases o5 with
      | false =>
        have HN2 := no (by rw [← E3'.out]; rfl)
        clear no
        go_wp2
        go_roundw
        case rel => exact ⟨k + 1, m, A2, c2, Q, by omega, by omega, by go_num, rfl, Lib.hid ⟨HN2.out, HQ.out.2⟩, own4, b4⟩
        case measure => simp [intOf]; omega
      | true =>
        have C3 := blsame_any name t hn (by have := HS2.out; omega) w3
        obtain ⟨u, hu⟩ : ∃ u, Lab.same name t = u := ⟨_, rfl⟩
        rw [hu] at C3
        have E4 : Hid (Zo.tells dom name ⟨on, op, o2, o3, o4, true⟩ = u) := Lib.hid (by rw [← E3'.out, hu]; rfl)
        clear hu
        go_wp2_with fail
        refine C3.mono ?_
        clear C3
        rintro e w4 ⟨rfl, hb4⟩
        have Y5 := Y4.belowH hb4
        have own5 := own_below own4 hb4
        have b5 := b4.trans (hb4.mono b4.size)
        replace y0 := Y5.at 0 rfl
        replace y1 := Y5.at 1 rfl
        replace y2 := Y5.at 2 rfl
        replace y3 := Y5.at 3 rfl
        replace y4 := Y5.at 4 rfl
        replace y5 := Y5.at 5 rfl
        clear Y4 own4 b4 hb4
        cases u with
        | false =>
          have HN2 := no E4.out
          clear no
          go_wp2
          go_roundw
          case rel => exact ⟨k + 1, m, A2, c2, Q, by omega, by omega, by go_num, rfl, Lib.hid ⟨HN2.out, HQ.out.2⟩, own5, b5⟩
          case measure => simp [intOf]; omega
        | true =>
          have HN2 : Hid (Q ++ [⟨on, op, o2, o3, o4, true⟩] = (L.take (k + 1)).filter (Zo.tells dom name)) := Lib.hid (by
            rw [filter_atO HO.out, if_pos E4.out, HQ.out.1])
          have hm2 : (m + 1) * 64 ≤ 140737488355328 := by omega
          clear no
          go_wp2_with (at_builtin; refine pushF_law (f := yc) (y := ⟨on, op, o2, o3, o4, true⟩) svcT yc_len yc_one rfl (.tmp 41) (.tmp 43) rfl w1.heap.size (by rfl) (by rfl) (by rfl) own5 hm2 (by omega) (by have := b5.size; omega) ?_; rintro A4 c4 w5 own6 hb6 _)
          go_roundw
          case rel => exact ⟨k + 1, m + 1, A4, c4, Q ++ [⟨on, op, o2, o3, o4, true⟩], by omega, by omega, by go_num, rfl, Lib.hid ⟨HN2.out, by rw [List.length_append, HQ.out.2]; rfl⟩, own6, b5.trans hb6⟩
          case measure => simp [intOf]; omega
    · obtain rfl : k = n1 := by omega
      have HE : Hid (Q = Zo.off dom name l) := Lib.hid (by have h1 := HQ.out.1; rw [List.take_of_length_le (by have := HN1.out; omega)] at h1; rw [EO.out]; exact h1)
      go_wp2
      go_ret
      exact ⟨A2, m, c2, rfl, by rw [← HE.out]; exact HQ.out.2, by rw [← HE.out]; exact own_mono own (by omega), bw1.trans (b.mono (by omega))⟩
end Go.Proofs.YtmbfldcmiabccaaGreatDoor

namespace Go.Proofs.YtmbfldcmiabccaaGreatDoor
set_option linter.unusedVariables false
set_option linter.unusedSimpArgs false
open Go.RowKit
theorem srvD_ofO (dom : List UInt8) (y : Int) (x : Svc) : [x.prio, x.wt, x.port].flatMap (fun v : Int => Pk.b2 v.toNat) ++ (Zo.hostN dom y).1 = Zo.srvD dom y x := by unfold Zo.srvD; simp
theorem flat_b2_len : ∀ l : List Int, (l.flatMap fun v => Pk.b2 v.toNat).length = 2 * l.length
  | [] => rfl
  | x :: l => by
    rw [List.flatMap_cons, List.length_append, flat_b2_len l, List.length_cons]
    have : (Pk.b2 x.toNat).length = 2 := rfl
    omega
set_option maxHeartbeats 4000000 in
set_option maxRecDepth 20000 in
theorem owhere_any (s : Sn) (node : Int) (x : Svc) (w : World) (hd : s.dom.length ≤ 1000) (hx : Y.right x) :
    Calls Tryz.prog 41 #[snval s, .int .i64 node, ysv x] w (TxB (Zo.srvD s.dom node x) (Zo.hostN s.dom node).2 w) := by
  obtain ⟨sv, al, B0, mm, d, dom⟩ := s
  obtain ⟨on, op, o2, o3, o4, o5⟩ := x
  have hx3 := hx.2.2
  have hb2 : 0 ≤ o2 ∧ o2 ≤ 65535 := hx3.2.1
  have hb3 : 0 ≤ o3 ∧ o3 ≤ 65535 := hx3.2.2.1
  have hb4 : 0 ≤ o4 ∧ o4 ≤ 65535 := hx3.2.2.2
  have X := (Box.new w #[.slice sv.A sv.n sv.c, .slice B0 mm d, .string (strB dom)] 25).alloc (.cells #[.string (strB on), .string (strB op), .int .i64 o2, .int .i64 o3, .int .i64 o4, .bool o5] 46)
  have NB := Box.new (w.alloc (.cells #[.slice sv.A sv.n sv.c, .slice B0 mm d, .string (strB dom)] 25)) #[.string (strB on), .string (strB op), .int .i64 o2, .int .i64 o3, .int .i64 o4, .bool o5] 46
  rw [show (w.alloc (.cells #[.slice sv.A sv.n sv.c, .slice B0 mm d, .string (strB dom)] 25)).heap.size = w.heap.size + 1 by simp] at NB
  have bw := below2 w (.cells #[.slice sv.A sv.n sv.c, .slice B0 mm d, .string (strB dom)] 25) (.cells #[.string (strB on), .string (strB op), .int .i64 o2, .int .i64 o3, .int .i64 o4, .bool o5] 46)
  have hs0 : w.heap.size + 1 < ((w.alloc (.cells #[.slice sv.A sv.n sv.c, .slice B0 mm d, .string (strB dom)] 25)).alloc (.cells #[.string (strB on), .string (strB op), .int .i64 o2, .int .i64 o3, .int .i64 o4, .bool o5] 46)).heap.size := by simp
  have E := Lib.hid (srvD_ofO dom node ⟨on, op, o2, o3, o4, o5⟩)
  have HS := hostN_shortO dom node
  simp only [snval, ysv]
  clear hx hx3
  go_enter Tryz.func41, Tryz.ntmps41
  go_upto_region 1 with fail
  generalize (w.alloc (.cells #[.slice sv.A sv.n sv.c, .slice B0 mm d, .string (strB dom)] 25)).alloc (.cells #[.string (strB on), .string (strB op), .int .i64 o2, .int .i64 o3, .int .i64 o4, .bool o5] 46) = w0 at *
  have x0 := X.at 0 rfl
  have x1 := X.at 1 rfl
  have x2 := X.at 2 rfl
  have C1 := ohost0_any (.slice sv.A sv.n sv.c) (.slice B0 mm d) rfl rfl dom node w0 hd
  obtain ⟨⟨t, ok⟩, et⟩ : ∃ z, Zo.hostN dom node = z := ⟨_, rfl⟩
  rw [et] at C1 E HS
  have ET := Lib.hid et
  have HS2 := Lib.hid HS
  clear et HS
  go_wp2_with fail
  refine C1.mono ?_
  clear C1 x0 x1 x2
  rintro e w1 ⟨rfl, hb1⟩
  have Y1 := NB.belowH hb1
  have b1 := bw.trans (hb1.mono bw.size)
  have y2 := Y1.at 2 rfl
  have y3 := Y1.at 3 rfl
  have y4 := Y1.at 4 rfl
  have RL := Rd.lit w1 #[.int .i64 o3, .int .i64 o4, .int .i64 o2] 3 1 3 rfl
  have bL := (Below.refl w1.heap.size w1).alloc (Nat.le_refl _) (.cells #[.int .i64 o3, .int .i64 o4, .int .i64 o2] 3)
  have C2 := onum2_any [o3, o4, o2] (some ⟨w1.heap.size, 0, none⟩) 3 3 (w1.alloc (.cells #[.int .i64 o3, .int .i64 o4, .int .i64 o2] 3)) (RL.more (by simp)) (by omega) (by intro v hv; simp only [List.mem_cons, List.not_mem_nil, or_false] at hv; rcases hv with rfl | rfl | rfl <;> omega)
  have NL := flat_b2_len [o3, o4, o2]
  obtain ⟨nb, enb⟩ : ∃ z, ([o3, o4, o2].flatMap fun v : Int => Pk.b2 v.toNat) = z := ⟨_, rfl⟩
  rw [enb] at C2 NL
  have E2 : Hid (Zo.srvD dom node ⟨on, op, o2, o3, o4, o5⟩ = nb ++ t) := Lib.hid (by rw [← E.out, ← enb])
  have T1 : ∀ w, (Op.stringOp .add (strB nb) (strB t)).run Tryz.prog w = .ok (.string (strB (nb ++ t))) w := fun w => run_two (by have := HS2.out; rw [NL]; simp only [List.length_cons, List.length_nil]; omega)
  clear enb hb2 hb3 hb4 NL RL E
  go_wp2_with fail
  refine C2.mono ?_
  clear C2
  rintro e w2 ⟨rfl, hb2⟩
  have T1' := T1 w2
  go_wp2
  go_ret2
  exact ⟨by rw [E2.out, ET.out]; rfl, (b1.trans (bL.mono b1.size)).trans (hb2.mono (by have := b1.size; simp; omega))⟩
theorem own_ns {dom : List UInt8} {typ : Int} (h : typ = 2) : Zo.own dom typ = Zo.ns dom := by unfold Zo.own; rw [if_pos h]
theorem own_first {dom : List UInt8} {typ : Int} (h : typ ≠ 2) : Zo.own dom typ = ((Zo.ns dom).1 ++ ((Zo.root dom).1 ++ Zo.soa), (Zo.root dom).2) := by
  unfold Zo.own
  rw [if_neg h, ← List.append_assoc]
  rw [← Zo.first_ok]
  rfl
theorem soa_b4 : ([1, 5, 5, 5, 5].flatMap fun v : Int => Pk.b4 v.toNat) = Zo.soa := rfl
set_option maxHeartbeats 4000000 in
set_option maxRecDepth 20000 in
theorem oofDomain_any (dom : List UInt8) (typ : Int) (w : World) (hd : dom.length ≤ 1000) :
    Calls Tryz.prog 25 #[.string (strB dom), .int .i64 typ] w (TxB (Zo.own dom typ).1 (Zo.own dom typ).2 w) := by
  have RL := Rd.lit w #[.string (⟨#[110, 115]⟩ : ByteArray)] 9 1 1 rfl
  have bL := (Below.refl w.heap.size w).alloc (Nat.le_refl _) (.cells #[.string (⟨#[110, 115]⟩ : ByteArray)] 9)
  have C1 := oahead_any dom [[110, 115]] (some ⟨w.heap.size, 0, none⟩) 1 1 (w.alloc (.cells #[.string (⟨#[110, 115]⟩ : ByteArray)] 9)) (RL.more (by simp)) (by omega) (by simp) hd
  have H1 := ahead_shortO dom [[110, 115]]
  have H2 := ahead_shortO dom [[114, 111, 111, 116]]
  have C2 := fun (W : World) R => oahead_any dom [[114, 111, 111, 116]] (some ⟨W.heap.size, 0, none⟩) 1 1 (W.alloc (.cells #[.string (⟨#[114, 111, 111, 116]⟩ : ByteArray)] 9)) R (by omega) (by simp) hd
  obtain ⟨⟨t, ok⟩, et⟩ : ∃ z, Zo.ahead dom [[110, 115]] = z := ⟨_, rfl⟩
  obtain ⟨⟨t2, ok2⟩, et2⟩ : ∃ z, Zo.ahead dom [[114, 111, 111, 116]] = z := ⟨_, rfl⟩
  rw [et] at C1 H1
  rw [et2] at C2 H2
  have ET : Hid (Zo.ns dom = (t, ok)) := Lib.hid et
  have ET2 : Hid (Zo.root dom = (t2, ok2)) := Lib.hid et2
  have HH : Hid (t.length ≤ 255 ∧ t2.length ≤ 255) := Lib.hid (And.intro H1 H2)
  clear et et2 RL H1 H2
  by_cases h2 : typ = 2
  · have t1 : (typ == 2) = true := beq_iff_eq.2 h2
    have E := Lib.hid (own_ns (dom := dom) h2)
    clear h2 C2
    go_enter Tryz.func25, Tryz.ntmps25
    go_wp2_with fail
    refine C1.mono ?_
    clear C1
    rintro e w1 ⟨rfl, hb1⟩
    go_wp2
    go_ret2
    exact ⟨by rw [E.out, ET.out]; rfl, bL.trans (hb1.mono bL.size)⟩
  · have t1 : (typ == 2) = false := beq_eq_false_iff_ne.2 h2
    have E := Lib.hid (own_first (dom := dom) h2)
    clear h2
    have T1 : Hid (∀ w, (Op.stringOp .add (strB t) (strB t2)).run Tryz.prog w = .ok (.string (strB (t ++ t2))) w) := Lib.hid (fun w => run_two (by have := HH.out; omega))
    have T2 : Hid (∀ w, (Op.stringOp .add (strB (t ++ t2)) (strB Zo.soa)).run Tryz.prog w = .ok (.string (strB ((t ++ t2) ++ Zo.soa))) w) := Lib.hid (fun w => run_two (by have := HH.out; rw [List.length_append]; have h3 : Zo.soa.length = 20 := rfl; omega))
    go_enter Tryz.func25, Tryz.ntmps25
    go_wp2_with fail
    refine C1.mono ?_
    clear C1
    rintro e w1 ⟨rfl, hb1⟩
    have b1 := bL.trans (hb1.mono bL.size)
    have R2 := Rd.lit w1 #[.string (⟨#[114, 111, 111, 116]⟩ : ByteArray)] 9 1 1 rfl
    have bL2 := (Below.refl w1.heap.size w1).alloc (Nat.le_refl _) (.cells #[.string (⟨#[114, 111, 111, 116]⟩ : ByteArray)] 9)
    have C2' := C2 w1 (R2.more (by simp))
    clear C2 R2 hb1
    go_wp2_with fail
    refine C2'.mono ?_
    clear C2'
    rintro e w2 ⟨rfl, hb2⟩
    have b2 := (b1.trans (bL2.mono b1.size)).trans (hb2.mono (by have := b1.size; simp; omega))
    have R3 := Rd.lit w2 #[.int .i64 1, .int .i64 5, .int .i64 5, .int .i64 5, .int .i64 5] 3 1 5 rfl
    have bL3 := (Below.refl w2.heap.size w2).alloc (Nat.le_refl _) (.cells #[.int .i64 1, .int .i64 5, .int .i64 5, .int .i64 5, .int .i64 5] 3)
    have C3 := onum4_any [1, 5, 5, 5, 5] (some ⟨w2.heap.size, 0, none⟩) 5 5 (w2.alloc (.cells #[.int .i64 1, .int .i64 5, .int .i64 5, .int .i64 5, .int .i64 5] 3)) (R3.more (by simp)) (by omega) (by intro v hv; simp only [List.mem_cons, List.not_mem_nil, or_false] at hv; rcases hv with rfl | rfl | rfl | rfl | rfl <;> omega)
    rw [soa_b4] at C3
    have T1' := T1.out (w2.alloc (.cells #[.int .i64 1, .int .i64 5, .int .i64 5, .int .i64 5, .int .i64 5] 3))
    have T1'' := T1.out w2
    clear R3 hb2
    go_wp2_with fail
    refine C3.mono ?_
    clear C3 T1' T1''
    rintro e w3 ⟨rfl, hb3⟩
    have T2' := T2.out w3
    go_wp2
    go_ret2
    exact ⟨by rw [E.out, ET.out, ET2.out]; rfl, (b2.trans (bL3.mono b2.size)).trans (hb3.mono (by have := b2.size; simp; omega))⟩
end Go.Proofs.YtmbfldcmiabccaaGreatDoor

