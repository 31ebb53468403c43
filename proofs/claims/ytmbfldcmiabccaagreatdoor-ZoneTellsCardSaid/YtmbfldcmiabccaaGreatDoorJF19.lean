/- OC11 OC12 OC6 Held OC13 OC14 (merged). -/
import Derived.Shelf.Abstract
import Derived.Maps.OwnSet
import Derived.Carry
import Derived.Test.YtmbfldcmiabccaaGreatDoorJF00
import Derived.Test.YtmbfldcmiabccaaGreatDoorJF12
import Derived.Test.YtmbfldcmiabccaaGreatDoorJF16
import Derived.Test.YtmbfldcmiabccaaGreatDoorJF18
namespace Go.Proofs.YtmbfldcmiabccaaGreatDoor
set_option linter.unusedVariables false
set_option linter.unusedSimpArgs false
open Go.RowKit
theorem startOf_yes {dom d : List UInt8} (h : Zo.own dom 6 = (d, true)) : Zo.startOf dom = (⟨dom, 6, 1, 5, d⟩, true) := by
  have e : Zo.own dom 6 = Zo.first dom := rfl
  rw [e] at h
  unfold Zo.startOf
  rw [h]
  rfl
theorem startOf_no {dom d : List UInt8} (h : Zo.own dom 6 = (d, false)) : Zo.startOf dom = (⟨[], 0, 0, 0, []⟩, false) := by
  have e : Zo.own dom 6 = Zo.first dom := rfl
  rw [e] at h
  unfold Zo.startOf
  rw [h]
  rfl
set_option maxHeartbeats 2000000 in
theorem ostart_any (s : Sn) (w : World) (h : SnRd w s) (ha : SnArg s) : Calls Tryz.prog 9 #[snval s] w (RecB (Zo.startOf s.dom).1 (Zo.startOf s.dom).2 w) := by
  have hd := ha.ok.dom
  clear h ha
  obtain ⟨sv, al, B0, mm, d, dom⟩ := s
  simp only at hd
  have X := (Box.new w #[.slice sv.A sv.n sv.c, .slice B0 mm d, .string (strB dom)] 25).alloc (.cells #[.string ⟨#[]⟩, .int .i64 0, .int .i64 0, .int .i64 0, .string ⟨#[]⟩] 32)
  have NB := Box.new (w.alloc (.cells #[.slice sv.A sv.n sv.c, .slice B0 mm d, .string (strB dom)] 25)) #[.string ⟨#[]⟩, .int .i64 0, .int .i64 0, .int .i64 0, .string ⟨#[]⟩] 32
  rw [show (w.alloc (.cells #[.slice sv.A sv.n sv.c, .slice B0 mm d, .string (strB dom)] 25)).heap.size = w.heap.size + 1 by simp] at NB
  have bw := below2 w (.cells #[.slice sv.A sv.n sv.c, .slice B0 mm d, .string (strB dom)] 25) (.cells #[.string ⟨#[]⟩, .int .i64 0, .int .i64 0, .int .i64 0, .string ⟨#[]⟩] 32)
  simp only [snval]
  go_enter Tryz.func9, Tryz.ntmps9
  go_upto_region 1 with fail
  generalize (w.alloc (.cells #[.slice sv.A sv.n sv.c, .slice B0 mm d, .string (strB dom)] 25)).alloc (.cells #[.string ⟨#[]⟩, .int .i64 0, .int .i64 0, .int .i64 0, .string ⟨#[]⟩] 32) = w0 at *
  have x2 := X.at 2 rfl
  have C1 := oofDomain_any dom 6 w0 hd
  obtain ⟨⟨t, ok⟩, et⟩ : ∃ z, Zo.own dom 6 = z := ⟨_, rfl⟩
  rw [et] at C1
  have ET := Lib.hid et
  clear et
  go_wp2_with fail
  refine C1.mono ?_
  clear C1
  rintro e w1 ⟨rfl, hb1⟩
  have X1 := X.belowH hb1
  have Y1 := NB.belowH hb1
  have b1 := bw.trans (hb1.mono bw.size)
  clear X NB bw hb1 x2
  have x2 := X1.at 2 rfl
  cases ok with
  | false =>
    have E := Lib.hid (startOf_no ET.out)
    have y0 := Y1.at 0 rfl
    have y1 := Y1.at 1 rfl
    have y2 := Y1.at 2 rfl
    have y3 := Y1.at 3 rfl
    have y4 := Y1.at 4 rfl
    have yf := Y1.cold
    have ylt := Y1.lt
    have Z := ((((Y1.set 0 (.string ⟨#[]⟩)).set 1 (.int .i64 0)).set 2 (.int .i64 0)).set 3 (.int .i64 0)).set 4 (.string ⟨#[]⟩)
    have z0 := Z.at 0 rfl
    have z1 := Z.at 1 rfl
    have z2 := Z.at 2 rfl
    have z3 := Z.at 3 rfl
    have z4 := Z.at 4 rfl
    go_wp2
    rw [E.out]
    refine bodyPost_ret (v := .tuple #[rrv ⟨[], 0, 0, 0, []⟩, .bool false]) (by simp [results, Tryz.results9, go_sem, z0, z1, z2, z3, z4, ylt, rrv, strB]; try rfl) rfl ⟨rfl, ?_⟩
    repeat (first | (with_reducible exact b1) | (with_reducible refine below_set ?_ (Nat.le_succ _) _))
  | true =>
    have E := Lib.hid (startOf_yes ET.out)
    go_wp2_with fail
    refine (orecord_any dom 6 t w1).mono ?_
    rintro e w2 ⟨rfl, hb2⟩
    have Y2 := Y1.belowH hb2
    have b2 := b1.trans (hb2.mono b1.size)
    clear X1 Y1 b1 hb2 x2
    simp only [rccs]
    have y0 := Y2.at 0 rfl
    have y1 := Y2.at 1 rfl
    have y2 := Y2.at 2 rfl
    have y3 := Y2.at 3 rfl
    have y4 := Y2.at 4 rfl
    have yf := Y2.cold
    have ylt := Y2.lt
    have Z := ((((Y2.set 0 (.string (strB dom))).set 1 (.int .i64 6)).set 2 (.int .i64 1)).set 3 (.int .i64 5)).set 4 (.string (strB t))
    have z0 := Z.at 0 rfl
    have z1 := Z.at 1 rfl
    have z2 := Z.at 2 rfl
    have z3 := Z.at 3 rfl
    have z4 := Z.at 4 rfl
    go_wp2
    rw [E.out]
    refine bodyPost_ret (v := .tuple #[rrv ⟨dom, 6, 1, 5, t⟩, .bool true]) (by simp [results, Tryz.results9, go_sem, z0, z1, z2, z3, z4, ylt, rrv]; try rfl) rfl ⟨rfl, ?_⟩
    repeat (first | (with_reducible exact b2) | (with_reducible refine below_set ?_ (Nat.le_succ _) _))
/-- where the first endpoint's state is that is meant -/
def FoundV (p : Nv → Bool) (l : List Nv) (i : Int) : Prop := (i = -1 ∧ l.any p = false) ∨ (0 ≤ i ∧ l.any p = true)
set_option maxHeartbeats 1000000 in
theorem nidx_any (U : Vw) (p : Nv → Bool) (g : Nat) (b1 b2 : Value) (eg : ∀ args w, (callFunc g args).run Tryz.prog w = .ok (.enter g args) w) (w : World) (h : VRd w U) (hn : U.n ≤ 1000)
    (hp : ∀ (x : Nv) (W : World), x ∈ U.l → Below w.heap.size w W → SRd W x.v → Calls Tryz.prog g #[nv x, b1, b2] W (BoB (p x) W)) :
    Calls Tryz.prog 65 #[vval U, .func (.func g) #[] #[b1, b2]] w fun e w' => (∃ i, e = .returned (.int .i64 i) ∧ FoundV p U.l i) ∧ Below w.heap.size w w' := by
  obtain ⟨l, A, n, c⟩ := U
  have hl := h.len
  simp only at hn hl hp
  have HL := Lib.hid hl
  have HP := Lib.hid hp
  clear hl hp
  simp only [vval]
  go_enter Tryz.func65, Tryz.ntmps65
  go_wp2
  go_loopw [8] (fun i wr => ∃ k : Nat, k ≤ n ∧ i = .int .i64 k ∧ Hid ((l.take k).any p = false) ∧ Below w.heap.size w wr) (fun i _ => n - (intOf i).toNat)
  case atStart => exact ⟨0, by omega, rfl, Lib.hid rfl, Below.refl _ _⟩
  case round =>
    obtain ⟨k, hk, rfl, HN, hbel⟩ := hrel
    have hbs := hbel.size
    by_cases hlt : k < n
    · obtain ⟨b, o, x, e1, hb, hx, hsx, c0, c1, c2, c3⟩ := (h.belowH hbel).at hlt
      simp only at e1 hx
      subst e1
      have HX := Lib.hid hx
      have hk0 : (0 : Int) ≤ (k : Int) := by omega
      have C := HP.out x wr (List.mem_of_getElem? hx) hbel hsx
      clear hx hsx
      simp only [nv] at C
      go_wp2_with fail
      refine C.mono ?_
      clear C
      rintro e w2 ⟨rfl, hb2⟩
      have HB2 := Lib.hid hb2
      clear hb2
      have more : (l.take (k + 1)).any p = p x := by rw [take_more HX.out, List.any_append, HN.out]; simp
      cases hpx : p x with
      | false =>
        have HM : Hid ((l.take (k + 1)).any p = false) := Lib.hid (by rw [more, hpx])
        clear more hpx
        go_wp2
        go_roundw
        case rel => exact ⟨k + 1, by omega, by go_num, HM, hbel.trans (HB2.out.mono hbs)⟩
        case measure => simp [intOf]; omega
      | true =>
        have HM : Hid (l.any p = true) := Lib.hid (List.any_eq_true.2 ⟨x, List.mem_of_getElem? HX.out, hpx⟩)
        clear more hpx
        go_wp2
        go_ret
        exact ⟨⟨_, rfl, Or.inr ⟨by omega, HM.out⟩⟩, hbel.trans (HB2.out.mono hbs)⟩
    · have HM : Hid (l.any p = false) := Lib.hid (by have := HN.out; rwa [List.take_of_length_le (by have := HL.out; omega)] at this)
      go_wp2
      go_ret
      exact ⟨⟨_, rfl, Or.inl ⟨rfl, HM.out⟩⟩, hbel⟩
theorem nhas_any (U : Vw) (p : Nv → Bool) (g : Nat) (b1 b2 : Value) (eg : ∀ args w, (callFunc g args).run Tryz.prog w = .ok (.enter g args) w) (w : World) (h : VRd w U) (hn : U.n ≤ 1000)
    (hp : ∀ (x : Nv) (W : World), x ∈ U.l → Below w.heap.size w W → SRd W x.v → Calls Tryz.prog g #[nv x, b1, b2] W (BoB (p x) W)) :
    Calls Tryz.prog 33 #[vval U, .func (.func g) #[] #[b1, b2]] w (BoB (U.l.any p) w) := by
  have C := nidx_any U p g b1 b2 eg w h hn hp
  clear h hp
  simp only [vval] at C ⊢
  go_enter Tryz.func33, Tryz.ntmps33
  go_wp2_with fail
  refine C.mono ?_
  clear C
  rintro e w2 ⟨⟨i, rfl, hi⟩, hb⟩
  have HI : Hid (decide (0 ≤ i) = U.l.any p) := Lib.hid (by
    rcases hi with ⟨rfl, h1⟩ | ⟨h0, h1⟩
    · rw [h1]; rfl
    · rw [h1]; exact decide_eq_true h0)
  clear hi
  go_wp2
  go_ret
  exact ⟨ret_bool HI.out, hb⟩
end Go.Proofs.YtmbfldcmiabccaaGreatDoor

namespace Go.Proofs.YtmbfldcmiabccaaGreatDoor
set_option linter.unusedVariables false
set_option linter.unusedSimpArgs false
open Go.RowKit
theorem egIs : ∀ args w, (callFunc 34 args).run Tryz.prog w = .ok (.enter 34 args) w := enters_of Tryz.func34 (by kernel_rfl) rfl
set_option maxHeartbeats 2000000 in
set_option maxRecDepth 20000 in
theorem oisat_any (s : Sn) (x : Nv) (name : List UInt8) (qs qn : Nat) (W : World) (XS : Box W qs 25 #[.slice s.v.A s.v.n s.v.c, .slice s.B s.m s.d, .string (strB s.dom)]) (XN : Box W qn 9 #[.string (strB name)]) (hx : SRd W x.v) (hxn : x.v.n ≤ 4000) (hv : ∀ y ∈ x.v.s.apps, y.val.length ≤ 140737488351232) (ha : SnArg s) (hn : name.length ≤ 100000) :
    Calls Tryz.prog 34 #[nv x, .pointer (some ⟨qs, 0, none⟩), .pointer (some ⟨qn, 0, none⟩)] W (BoB (Zo.isAt s.dom name x.nm) W) := by
  have b1 := (Below.refl W.heap.size W).alloc (Nat.le_refl _) (.cells #[.int .i64 x.node, .int .i64 x.v.s.gen, .int .i64 x.v.s.beat, .slice x.v.A x.v.n x.v.c] 53)
  have Y1 := Box.new W #[.int .i64 x.node, .int .i64 x.v.s.gen, .int .i64 x.v.s.beat, .slice x.v.A x.v.n x.v.c] 53
  have XS1 := XS.belowH b1
  have XN1 := XN.belowH b1
  have hx1 := hx.belowH b1
  have HL : Hid (x.v.s.apps.length ≤ 4000) := Lib.hid (by have := hx.lenE; omega)
  clear hx XS XN
  simp only [nv]
  go_enter Tryz.func34, Tryz.ntmps34
  go_upto_region 1 with fail
  generalize W.alloc (.cells #[.int .i64 x.node, .int .i64 x.v.s.gen, .int .i64 x.v.s.beat, .slice x.v.A x.v.n x.v.c] 53) = w1 at *
  have x0 := XS1.at 0 rfl
  have x1 := XS1.at 1 rfl
  have x2 := XS1.at 2 rfl
  have z0 := XN1.at 0 rfl
  have y0 := Y1.at 0 rfl
  have C1 := oishost_any s x.node name w1 ha hn
  obtain ⟨u, hu⟩ : ∃ u, Zo.hostIs s.dom name x.node = u := ⟨_, rfl⟩
  rw [hu] at C1
  have EI : Hid (Zo.isAt s.dom name x.nm = (u || !(Zo.off s.dom name x.v.s.apps).isEmpty)) := Lib.hid (by rw [← hu]; rfl)
  clear hu
  simp only [snval] at C1
  go_wp2_with fail
  refine C1.mono ?_
  clear C1
  rintro e w2 ⟨rfl, hb2⟩
  have b2 := b1.trans (hb2.mono b1.size)
  cases u with
  | true =>
    go_wp2
    go_ret
    exact ⟨ret_bool (by rw [EI.out]; rfl), b2⟩
  | false =>
    have XS2 := XS1.belowH hb2
    have XN2 := XN1.belowH hb2
    have Y2 := Y1.belowH hb2
    have hx2 := hx1.belowH hb2
    clear XS1 XN1 Y1 hx1 hb2 b1
    replace x0 := XS2.at 0 rfl
    replace x1 := XS2.at 1 rfl
    replace x2 := XS2.at 2 rfl
    replace z0 := XN2.at 0 rfl
    replace y0 := Y2.at 0 rfl
    have y1 := Y2.at 1 rfl
    have y2 := Y2.at 2 rfl
    have y3 := Y2.at 3 rfl
    have C2 := ooffered_any s x name w2 hx2 hxn hv ha.ok.dom hn
    obtain ⟨L, eL⟩ : ∃ z, Zo.off s.dom name x.v.s.apps = z := ⟨_, rfl⟩
    rw [eL] at C2 EI
    clear eL
    simp only [snval, nv] at C2
    go_wp2_with fail
    refine C2.mono ?_
    clear C2
    rintro e w3 ⟨A3, n3, c3, rfl, hl3, own3, hb3⟩
    have b3 := b2.trans (hb3.mono b2.size)
    have EI2 : Hid (Zo.isAt s.dom name x.nm = decide (0 < (n3 : Int))) := Lib.hid (by
      rw [EI.out, ← hl3]
      cases L with
      | nil => rfl
      | cons a r => rw [decide_eq_true (by simp only [List.length_cons]; omega)]; rfl)
    have hb : decide (0 < (n3 : Int)) = decide (0 < n3) := decide_eq_decide.2 (by omega)
    have HB := Lib.hid hb
    clear hl3 own3 hb
    go_wp2
    go_ret
    exact ⟨ret_bool (by rw [EI2.out]; simp), b3⟩
theorem any_nv (l : List Nv) (f : Nm → Bool) : (l.map Nv.nm).any f = l.any fun x => f x.nm := by
  rw [List.any_map]; rfl
theorem is_nv {s : Sn} (h : V.rising s.v.view) (name : List UInt8) : Zo.is s.sc name = (Lab.same name s.dom || (s.v.l.filter (cnv s.al)).any fun x => Zo.isAt s.dom name x.nm) := by
  rw [Zo.is_cing (s := s.sc) h]
  show (Lab.same name s.dom || (Zo.cing s.al s.v.view).any _) = _
  rw [cing_nv, any_nv]
  rfl
set_option maxHeartbeats 2000000 in
set_option maxRecDepth 20000 in
theorem ois_any (s : Sn) (name : List UInt8) (w : World) (h : SnRd w s) (ha : SnArg s) (hn : name.length ≤ 1000) : Calls Tryz.prog 14 #[snval s, .string (strB name)] w (BoB (Zo.is s.sc name) w) := by
  have EI := Lib.hid (is_nv ha.right.2 name)
  have bw := below2 w (.cells #[.slice s.v.A s.v.n s.v.c, .slice s.B s.m s.d, .string (strB s.dom)] 25) (.cells #[.string (strB name)] 9)
  have X := (Box.new w #[.slice s.v.A s.v.n s.v.c, .slice s.B s.m s.d, .string (strB s.dom)] 25).alloc (.cells #[.string (strB name)] 9)
  have N1 := Box.new (w.alloc (.cells #[.slice s.v.A s.v.n s.v.c, .slice s.B s.m s.d, .string (strB s.dom)] 25)) #[.string (strB name)] 9
  rw [show (w.alloc (.cells #[.slice s.v.A s.v.n s.v.c, .slice s.B s.m s.d, .string (strB s.dom)] 25)).heap.size = w.heap.size + 1 by simp] at N1
  have h1 := h.belowH bw
  have LN : Hid ((s.v.l.filter (cnv s.al)).length ≤ 1000) := Lib.hid (Nat.le_trans (List.length_filter_le _ _) (by have h1 := h.1.len; have := ha.ok.fit.1; omega))
  clear h
  simp only [snval]
  go_enter Tryz.func14, Tryz.ntmps14
  go_upto_region 1 with fail
  generalize (w.alloc (.cells #[.slice s.v.A s.v.n s.v.c, .slice s.B s.m s.d, .string (strB s.dom)] 25)).alloc (.cells #[.string (strB name)] 9) = w1 at *
  have x2 := X.at 2 rfl
  have z0 := N1.at 0 rfl
  have C1 := blsame_any name s.dom (by omega) (by have := ha.ok.dom; omega) w1
  obtain ⟨u, hu⟩ : ∃ u, Lab.same name s.dom = u := ⟨_, rfl⟩
  rw [hu] at C1 EI
  clear hu
  go_wp2_with fail
  refine C1.mono ?_
  clear C1
  rintro e w2 ⟨rfl, hb2⟩
  have b2 := bw.trans (hb2.mono bw.size)
  cases u with
  | true =>
    go_wp2
    go_ret
    exact ⟨ret_bool (by rw [EI.out]; rfl), b2⟩
  | false =>
    have X2 := X.belowH hb2
    have N2 := N1.belowH hb2
    have h2 := h1.belowH hb2
    clear X N1 h1 hb2 bw x2 z0
    have x0 := X2.at 0 rfl
    have x1 := X2.at 1 rfl
    have x2 := X2.at 2 rfl
    have z0 := N2.at 0 rfl
    have C2 := ocounting_any s w2 h2 ha.ok
    simp only [snval] at C2
    go_wp2_with fail
    refine C2.mono ?_
    clear C2
    rintro e w3 ⟨A, n, c, rfl, hl, own, hb3⟩
    have b3 := b2.trans (hb3.mono b2.size)
    have X3 := X2.belowH hb3
    have N3 := N2.belowH hb3
    have V3 := made_vrd h2 hb3 own
    clear X2 N2 b2 x0 x1 x2 z0
    have C3 := nhas_any ⟨s.v.l.filter (cnv s.al), A, n, c⟩ (fun x => Zo.isAt s.dom name x.nm) 34 (.pointer (some ⟨w.heap.size, 0, none⟩)) (.pointer (some ⟨w.heap.size + 1, 0, none⟩)) egIs w3 V3 (by have h2 := LN.out; rw [hl] at h2; exact h2)
      (fun x W hx hb hsx => oisat_any s x name _ _ W (X3.belowH hb) (N3.belowH hb) hsx (ha.ok.fit.2.1 x (List.mem_filter.1 hx).1) (ha.ok.val x.nm (List.mem_map.2 ⟨x, (List.mem_filter.1 hx).1, rfl⟩)) ha (by omega))
    obtain ⟨v, hv⟩ : ∃ v, ((s.v.l.filter (cnv s.al)).any fun x => Zo.isAt s.dom name x.nm) = v := ⟨_, rfl⟩
    rw [hv] at C3 EI
    simp only [vval] at C3
    clear hv own V3 hl
    go_wp2_with fail
    refine C3.mono ?_
    clear C3
    rintro e w4 ⟨rfl, hb4⟩
    go_wp2
    go_ret
    exact ⟨ret_bool (by rw [EI.out]; rfl), b3.trans (hb4.mono b3.size)⟩
end Go.Proofs.YtmbfldcmiabccaaGreatDoor

namespace Go.Proofs.YtmbfldcmiabccaaGreatDoor
set_option linter.unusedVariables false
set_option linter.unusedSimpArgs false
open Go.RowKit Go.Maps
/-- the two keys, as they read -/
def keysD : DataW Nat := ((DataW.map []).put (.int .i64 1) (.lit (.int .i64 1))).put (.int .i64 28) (.lit (.int .i64 2))
def IsKeys (w : World) (b : Nat) : Prop := w.ownsMap Tryz.prog 3 (plainElem Tryz.prog 3) b 2 keysD
theorem keyI : Maps.Keyed Tryz.prog 3 := Maps.int_keyed Tryz.underlying3
theorem mapI : Tryz.prog.underlying 78 = some (.map 3 3) := Tryz.underlying78
def TyOk (x : Int) : Prop := (Lit.int .i64 x).wf = true
theorem tyOk {x : Int} (h : -9223372036854775808 ≤ x ∧ x ≤ 9223372036854775807) : TyOk x := by
  unfold TyOk Lit.wf
  rw [Bool.and_eq_true, decide_eq_true_eq, decide_eq_true_eq]
  exact h
theorem keyOfI {x : Int} (h : TyOk x) : keyOf Tryz.prog 3 (.int .i64 x) = some (.int .i64 x) := by
  have h0 := Tryz.underlying3
  unfold TyOk at h
  simp [keyOf, mapKey, h0, h]
theorem zeroI (w : World) : (zeroValue 3).run Tryz.prog w = .ok (.int .i64 0) w := by kernel_rfl
theorem IsKeys.below {w w' : World} {b : Nat} (h : IsKeys w b) (hb : Below w.heap.size w w') : IsKeys w' b := by
  have hlt := World.ownsMap.lt h
  obtain ⟨es, clock, hg, F, hs, hD⟩ := h
  exact ⟨es, clock, (hb.block b hlt).trans hg, F, hs, hD⟩
def keyT (typ : Int) : Int := if typ = 1 then 1 else if typ = 28 then 2 else 0
def keyB (typ : Int) : Bool := decide (typ = 1) || decide (typ = 28)
theorem keys_has (typ : Int) : Maps.has keysD (.int .i64 typ) = keyB typ := by
  by_cases h1 : typ = 1
  · subst h1; rfl
  · by_cases h2 : typ = 28
    · subst h2; rfl
    · unfold keyB
      rw [decide_eq_false h1, decide_eq_false h2]
      show ([((Lit.int .i64 1), (DataW.lit (.int .i64 1) : DataW Nat)), ((Lit.int .i64 28), (DataW.lit (.int .i64 2)))].any fun p => p.1.sameKey (.int .i64 typ)) = _
      have e1 : (Lit.int IntKind.i64 1).sameKey (.int .i64 typ) = false := by
        cases hs : (Lit.int IntKind.i64 1).sameKey (.int .i64 typ) with
        | false => rfl
        | true => have := WideAt.sameKey_eq hs; injection this with _ h; exact absurd h.symm h1
      have e2 : (Lit.int IntKind.i64 28).sameKey (.int .i64 typ) = false := by
        cases hs : (Lit.int IntKind.i64 28).sameKey (.int .i64 typ) with
        | false => rfl
        | true => have := WideAt.sameKey_eq hs; injection this with _ h; exact absurd h.symm h2
      simp [e1, e2]
theorem keys_at (typ : Int) : keysD.atKey (.int .i64 typ) (.lit (.int .i64 0)) = .lit (.int .i64 (keyT typ)) := by
  by_cases h1 : typ = 1
  · subst h1; rfl
  · by_cases h2 : typ = 28
    · subst h2; rfl
    · unfold keyT
      rw [if_neg h1, if_neg h2]
      have e1 : (Lit.int IntKind.i64 1).sameKey (.int .i64 typ) = false := by
        cases hs : (Lit.int IntKind.i64 1).sameKey (.int .i64 typ) with
        | false => rfl
        | true => have := WideAt.sameKey_eq hs; injection this with _ h; exact absurd h.symm h1
      have e2 : (Lit.int IntKind.i64 28).sameKey (.int .i64 typ) = false := by
        cases hs : (Lit.int IntKind.i64 28).sameKey (.int .i64 typ) with
        | false => rfl
        | true => have := WideAt.sameKey_eq hs; injection this with _ h; exact absurd h.symm h2
      rw [show keysD = .map [((Lit.int .i64 1), (DataW.lit (.int .i64 1) : DataW Nat)), ((Lit.int .i64 28), (DataW.lit (.int .i64 2)))] from rfl]
      unfold DataW.atKey
      simp [e1, e2]
theorem keys_look {w : World} {b : Nat} (h : IsKeys w b) {typ : Int} (ht : TyOk typ) : (Instr.lookup 78 (.map (some b)) (.int .i64 typ) true).run Tryz.prog w = .ok (.tuple #[.int .i64 (keyT typ), .bool (keyB typ)]) w := by
  obtain ⟨v, ps, hrun, hv⟩ := World.ownsMap.look_ok h keyI mapI (zeroI w) (plainElem_int (H := Nat) Tryz.underlying3 (by decide)) (keyOfI ht)
  rw [keys_at] at hv
  obtain ⟨a, rfl, ha, _⟩ := plainElem_int_inv Tryz.underlying3 hv
  simp only [Prod.mk.injEq, DataW.lit.injEq, Lit.int.injEq, true_and] at ha
  rw [hrun, keys_has, ha.1]
set_option maxRecDepth 20000 in
theorem okeys_any (w : World) : Calls Tryz.prog 42 #[] w fun e w' => ∃ b, e = .returned (.map (some b)) ∧ IsKeys w' b ∧ Below w.heap.size w w' := by
  have h0 := World.ownsMap_made (H := Nat) w Tryz.prog 3 (plainElem Tryz.prog 3)
  obtain ⟨w1, r1, h1, g1⟩ := World.ownsMap.update h0 keyI mapI (by unfold maxLen; omega) (keyOfI (x := 1) (tyOk (by omega))) (plainElem_int (H := Nat) Tryz.underlying3 (a := 1) (by decide))
  obtain ⟨w2, r2, h2, g2⟩ := World.ownsMap.update h1 keyI mapI (by unfold maxLen; omega) (keyOfI (x := 28) (tyOk (by omega))) (plainElem_int (H := Nat) Tryz.underlying3 (a := 2) (by decide))
  have b1 : Below w.heap.size w w2 := (((Below.refl w.heap.size w).alloc (Nat.le_refl _) (.map #[] 0)).grown g1 (by simp) (fun k hk => by cases hk; exact Nat.le_refl _)).grown g2 (by have := g1.size; simp at this; omega) (fun k hk => by cases hk; exact Nat.le_refl _)
  have hmm := @run_makeMap Tryz.prog
  go_enter Tryz.func42, Tryz.ntmps42
  go_wp2
  go_ret
  exact ⟨_, rfl, h2, b1⟩
end Go.Proofs.YtmbfldcmiabccaaGreatDoor

namespace Go.Proofs.YtmbfldcmiabccaaGreatDoor
set_option linter.unusedVariables false
set_option linter.unusedSimpArgs false
open Go.RowKit
section
variable {P : Program} {md : Region.Mode} {ops : Array Oper} {Q : Exit → Act → World → Prop} {S : World → Prop} {lates : List Nat}
/-- no late operation has come up yet -/
def quietL (lates : List Nat) (listed : Array Bool) : Bool := lates.all fun j => !(listed.getD j true)
theorem quiet_set {listed : Array Bool} {i : Nat} (h : lates.contains i = false) : quietL lates (listed.setIfInBounds i true) = quietL lates listed := by
  unfold quietL
  rw [Bool.eq_iff_iff, List.all_eq_true, List.all_eq_true]
  have hne : ∀ j ∈ lates, i ≠ j := fun j hj e => by subst e; rw [List.contains_iff_mem.2 hj] at h; cases h
  constructor
  · intro h1 j hj
    have := h1 j hj
    rwa [getD_set_ne true (hne j hj)] at this
  · intro h1 j hj
    rw [getD_set_ne true (hne j hj)]
    exact h1 j hj
/-- whatever order is picked from here on, and S holds behind every operation that is carried out ahead of the late ones -/
def wpAnyL (P : Program) (md : Region.Mode) (ops : Array Oper) (Q : Exit → Act → World → Prop) (S : World → Prop) (lates : List Nat) : Nat → Array Bool → Act → World → Prop
  | 0, listed, a, w => Region.ready md ops listed = [] ∧ Q .normal a w
  | fuel + 1, listed, a, w =>
    (Region.ready md ops listed = [] → Q .normal a w) ∧
    ∀ i ∈ Region.ready md ops listed, wpOp P ops Q i (fun a' w' => (quietL lates (listed.setIfInBounds i true) = true → S w') ∧ wpAnyL P md ops Q S lates fuel (listed.setIfInBounds i true) a' w') a w
theorem wpAny_of_late : ∀ (fuel : Nat) (listed : Array Bool) (a : Act) (w : World), wpAnyL P md ops Q S lates fuel listed a w → wpAny P md ops Q fuel listed a w
  | 0, _, _, _, h => h
  | fuel + 1, _, _, _, h => ⟨h.1, fun i hi => wpOp_mono (fun a' w' h' => wpAny_of_late fuel _ a' w' h'.2) (h.2 i hi)⟩
/-- an operation that leaves its value in every world that meets S', taken first; D says of whom else may come up meanwhile that S' holds behind it -/
theorem wpAnyL_first {S' : World → Prop} {D : Array Bool → Prop} {i : Nat} {oi : Oper} {v : Value} (hi : ops[i]? = some oi) (hsel : ∀ (j : Nat) (o : Oper) cs b, ops[j]? = some o → o.op ≠ .select cs b)
    (hQ : ∀ c a w, Q (.panic c) (a.put oi.dst v) w → Q (.panic c) a w) (hil : lates.contains i = false)
    (hD : ∀ (listed : Array Bool) j oj (w' : World), D listed → ops[j]? = some oj → j ≠ i → (∀ e ∈ oj.after, Region.binds md e = true → e.on ≠ i) → (quietL lates (listed.setIfInBounds j true) = true → S w') → S' w' ∧ D (listed.setIfInBounds j true)) :
    ∀ (fuel : Nat) (listed : Array Bool) (a : Act) (w : World),
      (∀ j oj, ops[j]? = some oj → j ≠ i → listed.getD j true = false → (∀ e ∈ oj.after, Region.binds md e = true → e.on ≠ i) → oi.apart ops oj = true) →
      i ∈ Region.ready md ops listed → YieldsIf P ops S' oi v a → S' w → D listed → (quietL lates listed = true → S w) →
      wpAnyL P md ops Q S lates fuel (listed.setIfInBounds i true) (a.put oi.dst v) w → wpAnyL P md ops Q S lates (fuel + 1) listed a w := by
  intro fuel
  induction fuel with
  | zero =>
    intro listed a w _ hr hy hS' hd hS H
    refine ⟨fun h => (by rw [h] at hr; cases hr), fun j hj => ?_⟩
    by_cases hji : j = i
    · subst hji; exact hy.wpOp hi hS' ⟨fun hq => hS (by rw [quiet_set hil] at hq; exact hq), H⟩
    · have := ready_mono hj hji
      rw [H.1] at this
      cases this
  | succ fuel ih =>
    intro listed a w hfree hr hy hS' hd hS H
    refine ⟨fun h => (by rw [h] at hr; cases hr), fun j hj => ?_⟩
    by_cases hji : j = i
    · subst hji; exact hy.wpOp hi hS' ⟨fun hq => hS (by rw [quiet_set hil] at hq; exact hq), H⟩
    · have h1 := H.2 j (ready_mono hj hji)
      obtain ⟨hjun, oj, hoj, hall⟩ := mem_ready.1 hj
      have hnot : ∀ e ∈ oj.after, Region.binds md e = true → e.on ≠ i := fun e he hb heq => by
        have h1 := hall e he hb
        have h0 := (mem_ready.1 hr).1
        rw [heq] at h1
        rcases Nat.lt_or_ge i listed.size with h' | h'
        · simp [h'] at h0 h1; rw [h0] at h1; cases h1
        · simp [Array.getElem?_eq_none h'] at h1
      have h2 := wpOp_putIf hoj (hfree j oj hoj hji hjun hnot) (fun cs b => hsel i oi cs b hi) (fun cs b => hsel j oj cs b hoj) hQ hy h1
      have hfree' : ∀ k ok, ops[k]? = some ok → k ≠ i → (listed.setIfInBounds j true).getD k true = false →
          (∀ e ∈ ok.after, Region.binds md e = true → e.on ≠ i) → oi.apart ops ok = true := fun k ok hk hki hun hno => by
        refine hfree k ok hk hki ?_ hno
        by_cases hjk : j = k
        · subst hjk; exact hjun
        · rw [getD_set_ne true hjk] at hun; exact hun
      have hcomm : (listed.setIfInBounds i true).setIfInBounds j true = (listed.setIfInBounds j true).setIfInBounds i true := (Array.setIfInBounds_comm _ _ (Ne.symm hji))
      refine wpOp_mono (fun a' w' h3 => ?_) h2
      have h4 : quietL lates (listed.setIfInBounds j true) = true → S w' := fun hq => h3.2.1 (by rw [hcomm, quiet_set hil]; exact hq)
      obtain ⟨h5, h6⟩ := hD listed j oj w' hd hoj hji hnot h4
      refine ⟨h4, ih (listed.setIfInBounds j true) a' w' hfree' (ready_mono hr (Ne.symm hji)) h3.1 h5 h6 h4 ?_⟩
      rw [← hcomm]
      exact h3.2.2
/-- every late operation waits for operation i -/
def wait (md : Region.Mode) (ops : Array Oper) (lates : List Nat) (i : Nat) : Bool := lates.all fun j => match ops[j]? with
  | some o => o.after.toList.any fun e => Region.binds md e && e.on == i
  | none => true
theorem wait_spec {i : Nat} (h : wait md ops lates i = true) : ∀ j oj, ops[j]? = some oj → lates.contains j = true → ∃ e ∈ oj.after, Region.binds md e = true ∧ e.on = i := fun j oj hj hc => by
  unfold wait at h
  rw [List.all_eq_true] at h
  have h1 := h j (by simpa using hc)
  rw [hj] at h1
  obtain ⟨e, he, h2⟩ := List.any_eq_true.1 h1
  simp only [Bool.and_eq_true, beq_iff_eq] at h2
  exact ⟨e, by simpa using he, h2.1, h2.2⟩
/-- operation i, which leaves its value in slot d in every world that meets S, is taken now -/
theorem tl (i d : Nat) {op : Op} {ty : TypeId} {pos : String} {af : Array Edge} {g : Option (Nat × Bool)} {v : Value} {fuel : Nat} {listed : Array Bool} {a a' : Act} {w : World}
    (hi : ops[i]? = some ⟨some d, op, ty, pos, af, g⟩) (hS : S w) (h : wpAnyL P md ops Q S lates fuel (listed.setIfInBounds i true) a' w)
    (hc : (Region.noSelect ops && Region.free md ops listed i && (Region.ready md ops listed).contains i && (wait md ops lates i && quietL lates listed && !lates.contains i)) = true := by kernel_rfl)
    (hw : Region.wanted ⟨some d, op, ty, pos, af, g⟩ (yielded ops a.tmps) = true := by rfl)
    (hv : ∀ w', S w' → (execOp a.eval ⟨some d, op, ty, pos, af, g⟩).run P w' = .ok (.value v) w' := by (intro w' hSw; (try dsimp only at hSw); go_simp; all_goals (with_reducible rfl)))
    (ha : a.put (some d) v = a' := by (try simp only [Act.put, sA, sB, sC]); exact rfl)
    (hQ : ∀ c a w, Q (.panic c) (a.put (some d) v) w → Q (.panic c) a w := by exact fun _ _ _ h => h) : wpAnyL P md ops Q S lates (fuel + 1) listed a w := by
  simp only [Bool.and_eq_true, Bool.not_eq_true'] at hc
  subst ha
  refine wpAnyL_first (S' := S) (D := fun l => quietL lates l = true) hi (Region.noSelect_spec hc.1.1.1) hQ hc.2.2 (fun listed' j oj w' hd hj hji hno hs => ?_) fuel listed a w (Region.free_spec hi hc.1.1.2) (by simpa using hc.1.2) (Or.inl ⟨hw, hv⟩) hS hc.2.1.2 (fun _ => hS) h
  have hjl : lates.contains j = false := by
    cases hcj : lates.contains j
    · rfl
    · obtain ⟨e, he, hb, hon⟩ := wait_spec hc.2.1.1 j oj hj hcj
      exact absurd hon (hno e he hb)
  have hq : quietL lates (listed'.setIfInBounds j true) = true := by rw [quiet_set hjl]; exact hd
  exact ⟨hs hq, hq⟩
/-- operation i, which leaves its value in slot d in whatever world, is taken now -/
theorem tw (i d : Nat) {op : Op} {ty : TypeId} {pos : String} {af : Array Edge} {g : Option (Nat × Bool)} {v : Value} {fuel : Nat} {listed : Array Bool} {a a' : Act} {w : World}
    (hi : ops[i]? = some ⟨some d, op, ty, pos, af, g⟩) (hS : quietL lates listed = true → S w) (h : wpAnyL P md ops Q S lates fuel (listed.setIfInBounds i true) a' w)
    (hc : (Region.noSelect ops && Region.free md ops listed i && (Region.ready md ops listed).contains i && !lates.contains i) = true := by kernel_rfl)
    (hw : Region.wanted ⟨some d, op, ty, pos, af, g⟩ (yielded ops a.tmps) = true := by rfl)
    (hv : ∀ w', True → (execOp a.eval ⟨some d, op, ty, pos, af, g⟩).run P w' = .ok (.value v) w' := by (intro w' hSw; go_simp; all_goals (with_reducible rfl)))
    (ha : a.put (some d) v = a' := by (try simp only [Act.put, sA, sB, sC]); exact rfl)
    (hQ : ∀ c a w, Q (.panic c) (a.put (some d) v) w → Q (.panic c) a w := by exact fun _ _ _ h => h) : wpAnyL P md ops Q S lates (fuel + 1) listed a w := by
  simp only [Bool.and_eq_true, Bool.not_eq_true'] at hc
  subst ha
  exact wpAnyL_first (S' := fun _ => True) (D := fun _ => True) hi (Region.noSelect_spec hc.1.1.1) hQ hc.2 (fun _ _ _ _ _ _ _ _ _ => ⟨trivial, trivial⟩) fuel listed a w (Region.free_spec hi hc.1.1.2) (by simpa using hc.1.2) (Or.inl ⟨hw, hv⟩) trivial trivial hS h
def AllReadyL (P : Program) (md : Region.Mode) (ops : Array Oper) (Q : Exit → Act → World → Prop) (S : World → Prop) (lates : List Nat) (fuel : Nat) (listed : Array Bool) (a : Act) (w : World) (rs : List Nat) : Prop :=
  ∀ i ∈ rs, wpOp P ops Q i (fun a' w' => (quietL lates (listed.setIfInBounds i true) = true → S w') ∧ wpAnyL P md ops Q S lates fuel (listed.setIfInBounds i true) a' w') a w
theorem AllReadyL.nil {fuel : Nat} {listed : Array Bool} {a : Act} {w : World} : AllReadyL P md ops Q S lates fuel listed a w [] := fun _ h => by cases h
theorem AllReadyL.cons {fuel : Nat} {listed : Array Bool} {a : Act} {w : World} {i : Nat} {o : Oper} {rs : List Nat} (ho : ops[i]? = some o)
    (h : ∀ K' : Act → World → Prop, Shut (∀ a w, S w → (S w → wpAnyL P md ops Q S lates fuel (listed.setIfInBounds i true) a w) → K' a w) → if Region.wanted o (yielded ops a.tmps) = true then Oper.wp P o a w K' Q else K' (a.put o.dst undef) w)
    (hs : AllReadyL P md ops Q S lates fuel listed a w rs) : AllReadyL P md ops Q S lates fuel listed a w (i :: rs) := fun j hj => by
  rcases List.mem_cons.1 hj with rfl | hj
  · exact wpOp_step ho (fun K' hK => h K' (fun a w hS hW => hK a w ⟨fun _ => hS, hW hS⟩))
  · exact hs j hj
/-- a late one, or one behind a late one: nothing is asked behind it -/
theorem AllReadyL.late {fuel : Nat} {listed : Array Bool} {a : Act} {w : World} {i : Nat} {o : Oper} {rs : List Nat} (ho : ops[i]? = some o) (hl : quietL lates (listed.setIfInBounds i true) = false)
    (h : ∀ K' : Act → World → Prop, Shut (∀ a w, wpAnyL P md ops Q S lates fuel (listed.setIfInBounds i true) a w → K' a w) → if Region.wanted o (yielded ops a.tmps) = true then Oper.wp P o a w K' Q else K' (a.put o.dst undef) w)
    (hs : AllReadyL P md ops Q S lates fuel listed a w rs) : AllReadyL P md ops Q S lates fuel listed a w (i :: rs) := fun j hj => by
  rcases List.mem_cons.1 hj with rfl | hj
  · exact wpOp_step ho (fun K' hK => h K' (fun a w hW => hK a w ⟨fun h0 => (by rw [hl] at h0; cases h0), hW⟩))
  · exact hs j hj
theorem wpAnyL_ready {rs : List Nat} {fuel : Nat} {listed : Array Bool} {a : Act} {w : World} (hr : Region.ready md ops listed = rs) (hne : rs ≠ [])
    (h : AllReadyL P md ops Q S lates fuel listed a w rs) : wpAnyL P md ops Q S lates (fuel + 1) listed a w := ⟨fun h0 => absurd (hr ▸ h0) hne, hr ▸ h⟩
theorem wpAnyL_done {listed : Array Bool} {a : Act} {w : World} (hr : Region.ready md ops listed = []) (h : Q .normal a w) :
    ∀ fuel, wpAnyL P md ops Q S lates fuel listed a w
  | 0 => ⟨hr, h⟩
  | _ + 1 => ⟨fun _ => h, by rw [hr]; simp⟩
theorem wp_region_late {id : Nat} {a : Act} {w : World} (hm : P.follows .mixedOrders = true) (hS : S w.drew)
    (h : S w.drew → wpAnyL P .any ops Q S lates ops.size (Array.replicate ops.size false) a w.drew) : (Code.region id ops true).wp P Q a w :=
  wp_region_any hm (wpAny_of_late _ _ _ _ (h hS))
end
end Go.Proofs.YtmbfldcmiabccaaGreatDoor

namespace Go.Proofs.YtmbfldcmiabccaaGreatDoor
set_option linter.unusedVariables false
set_option linter.unusedSimpArgs false
open Go.RowKit
/-- all stays that is neither a row of records nor a box of one -/
def KeptR (W W' : World) : Prop := W.heap.size ≤ W'.heap.size ∧ ∀ (k : Nat) (cs : Array Value) (T : TypeId), W.heap[k]? = some (.cells cs T) → T ≠ 32 → T ≠ 39 → W'.heap[k]? = some (.cells cs T)
theorem KeptR.refl (W : World) : KeptR W W := ⟨Nat.le_refl _, fun _ _ _ h _ _ => h⟩
theorem KeptR.trans {W W' W'' : World} (h : KeptR W W') (h' : KeptR W' W'') : KeptR W W'' := ⟨Nat.le_trans h.1 h'.1, fun k cs T hk h1 h2 => h'.2 k cs T (h.2 k cs T hk h1 h2) h1 h2⟩
theorem KeptR.of_below {W W' : World} (h : Below W.heap.size W W') : KeptR W W' := ⟨h.size, fun k cs T hk _ _ => (h.block k (lt_of_block hk)).trans hk⟩
theorem KeptR.box {W W' : World} (h : KeptR W W') {b : Nat} {T : TypeId} {cs : Array Value} (X : Box W b T cs) (h1 : T ≠ 32) (h2 : T ≠ 39) : Box W' b T cs := h.2 b cs T X h1 h2
theorem KeptR.own {W W' : World} (h : KeptR W W') {base e size n : Nat} {v : Value} {xs : List Value} (ho : W.ownsRow base e size v n xs) (h1 : e ≠ 32) (h2 : e ≠ 39) : W'.ownsRow base e size v n xs := by
  refine ⟨ho.1, ?_⟩
  rcases ho.2 with h0 | ⟨g, cap, cur, hv, hbg, hg, rest⟩
  · exact .inl h0
  · exact .inr ⟨g, cap, cur, hv, hbg, h.2 g _ _ hg h1 h2, rest⟩
theorem KeptR.grown {W W' : World} {base size n : Nat} {v : Value} {xs : List Value} (ho : W.ownsRow base 32 size v n xs) (hg : W.grownBy W' v.ownBlock) : KeptR W W' := by
  refine ⟨hg.size, fun k cs T hk h1 h2 => ?_⟩
  refine (hg.block k (lt_of_block hk) fun e => ?_).trans hk
  rcases ho.2 with ⟨rfl, _⟩ | ⟨g, cap, cur, rfl, _, hg2, _⟩
  · simp [Value.ownBlock] at e
  · obtain rfl : k = g := by simpa [Value.ownBlock] using e
    rw [hg2] at hk
    injection hk with hk
    injection hk with _ hT _
    exact h1 hT.symm
theorem KeptR.set {W : World} {b : Nat} {cs : Array Value} (X : Box W b 39 cs) (j : Nat) (v : Value) : KeptR W (W.setCell ⟨b, j, none⟩ v) := by
  refine ⟨by simp, fun k cs' T hk h1 h2 => ?_⟩
  refine (heap_setCell_other W ⟨b, j, none⟩ k v fun e => ?_).trans hk
  have e2 : k = b := e
  subst e2
  have h3 : W.heap[k]? = some (.cells cs 39) := X
  rw [h3] at hk
  injection hk with hk
  injection hk with _ hT _
  exact h2 hT.symm
/-- the records so far, in their box -/
def OutI (name : List UInt8) (typ : Int) (ob base : Nat) (D : List (List UInt8)) (W : World) : Prop :=
  ∃ (A : Option Addr) (n c : Nat), Box W ob 39 #[.slice A n c] ∧ Hid (D.length = n) ∧ W.ownsRow base 32 5 (.slice A n c) n (RC (D.map (Zo.rcd name typ)))
theorem OutI.belowH {name : List UInt8} {typ : Int} {ob base : Nat} {D : List (List UInt8)} {W W' : World} (h : OutI name typ ob base D W) (hb : Below W.heap.size W W') : OutI name typ ob base D W' := by
  obtain ⟨A, n, c, h1, h2, h3⟩ := h
  exact ⟨A, n, c, h1.belowH hb, h2, own_below h3 hb⟩
theorem OutI.eq {name : List UInt8} {typ : Int} {ob base : Nat} {D D' : List (List UInt8)} {W : World} (h : OutI name typ ob base D W) (e : D = D') : OutI name typ ob base D' W := e ▸ h
theorem egLay : ∀ args w, (callFunc 40 args).run Tryz.prog w = .ok (.enter 40 args) w := enters_of Tryz.func40 (by kernel_rfl) rfl
theorem olay_no (d : List UInt8) (v1 v2 v3 : Value) (w : World) : Calls Tryz.prog 40 #[.string (strB d), .bool false, v1, v2, v3] w fun e w' => e = .returned (.tuple #[]) ∧ w' = w := by
  go_enter Tryz.func40, Tryz.ntmps40
  go_wp2
  go_end0
  exact ⟨rfl, rfl⟩
set_option maxHeartbeats 4000000 in
set_option maxRecDepth 20000 in
theorem olay_yes (name : List UInt8) (typ : Int) (d : List UInt8) (ob qn qt base : Nat) (D : List (List UInt8)) (w : World) (XN : Box w qn 9 #[.string (strB name)]) (XT : Box w qt 3 #[.int .i64 typ]) (h : OutI name typ ob base D w) (hob : ob < base) (hbase : base ≤ w.heap.size) (hD : D.length ≤ 5000000) :
    Calls Tryz.prog 40 #[.string (strB d), .bool true, .pointer (some ⟨ob, 0, none⟩), .pointer (some ⟨qn, 0, none⟩), .pointer (some ⟨qt, 0, none⟩)] w fun e w' => e = .returned (.tuple #[]) ∧ OutI name typ ob base (D ++ [d]) w' ∧ KeptR w w' ∧ Below ob w w' := by
  obtain ⟨A, n, c, XO, hn, own⟩ := h
  have hn5 : n ≤ 5000000 := by have := hn.out; omega
  clear hD
  have c0 := XO.at 0 rfl
  have n0 := XN.at 0 rfl
  have t0 := XT.at 0 rfl
  go_enter Tryz.func40, Tryz.ntmps40
  go_wp2
  replace XO : Box w.drew ob _ _ := XO
  replace own : w.drew.ownsRow _ _ _ _ _ _ := own
  replace c0 : w.drew.cell? ⟨ob, 0, none⟩ = _ := c0
  replace n0 : w.drew.cell? ⟨qn, 0, none⟩ = _ := n0
  replace t0 : w.drew.cell? ⟨qt, 0, none⟩ = _ := t0
  have kd : KeptR w w.drew := KeptR.refl w
  have bd : Below ob w w.drew := (Below.refl ob w).drew
  have hbd : base ≤ w.drew.heap.size := hbase
  refine wp_region_late (S := (fun w' => w'.cell? ⟨ob, 0, none⟩ = some (.slice A n c) ∧ w'.cell? ⟨qn, 0, none⟩ = some (.string (strB name)) ∧ w'.cell? ⟨qt, 0, none⟩ = some (.int .i64 typ))) (lates := [7]) (by kernel_rfl) (by exact ⟨c0, n0, t0⟩) (fun hHeld0 => ?_)
  replace XN : Box w.drew qn _ _ := XN
  replace XT : Box w.drew qt _ _ := XT
  generalize w.drew = wd at *
  refine tl 0 8 rfl hHeld0 ?_
  refine tl 1 9 rfl hHeld0 ?_
  refine tl 2 10 rfl hHeld0 ?_
  refine tw 3 11 rfl (fun _ => hHeld0) ?_
  refine wpAnyL_ready (rs := [4]) (by kernel_rfl) (by simp) (AllReadyL.cons (o := ⟨some 12, _, _, _, _, _⟩) rfl (fun K hK => ?_) AllReadyL.nil)
  go_simp
  refine (orecord_any name typ d _).mono ?_
  rintro e w2 ⟨rfl, hb2⟩
  simp only [rccs]
  replace XO := XO.belowH hb2
  replace XN := XN.belowH hb2
  replace XT := XT.belowH hb2
  replace own := own_below own hb2
  replace kd := kd.trans (KeptR.of_below hb2)
  replace bd := bd.trans (hb2.mono (by omega))
  replace hbd : base ≤ w2.heap.size := Nat.le_trans hbd hb2.size
  clear c0 n0 t0 hb2
  have c0 := XO.at 0 rfl
  have n0 := XN.at 0 rfl
  have t0 := XT.at 0 rfl
  go_simp
  refine hK.out _ _ (by exact ⟨c0, n0, t0⟩) (fun hHeld1 => ?_)
  clear hK hHeld0 K
  try simp only [Act.put, sA, sB, sC]
  refine wpAnyL_ready (rs := [5]) (by kernel_rfl) (by simp) (AllReadyL.cons (o := ⟨some 13, _, _, _, _, _⟩) rfl (fun K hK => ?_) AllReadyL.nil)
  have XO1 := XO.alloc (.cells #[.string (strB name), .int .i64 typ, .int .i64 1, .int .i64 5, .string (strB d)] 32)
  have XN1 := XN.alloc (.cells #[.string (strB name), .int .i64 typ, .int .i64 1, .int .i64 5, .string (strB d)] 32)
  have XT1 := XT.alloc (.cells #[.string (strB name), .int .i64 typ, .int .i64 1, .int .i64 5, .string (strB d)] 32)
  have own1 := own_below own ((Below.refl w2.heap.size w2).alloc (Nat.le_refl _) (.cells #[.string (strB name), .int .i64 typ, .int .i64 1, .int .i64 5, .string (strB d)] 32))
  have RL := Rd.lit w2 #[.string (strB name), .int .i64 typ, .int .i64 1, .int .i64 5, .string (strB d)] 32 5 1 rfl
  replace kd := kd.trans (KeptR.of_below ((Below.refl w2.heap.size w2).alloc (Nat.le_refl _) (.cells #[.string (strB name), .int .i64 typ, .int .i64 1, .int .i64 5, .string (strB d)] 32)))
  replace bd := bd.alloc (by omega) (.cells #[.string (strB name), .int .i64 typ, .int .i64 1, .int .i64 5, .string (strB d)] 32)
  replace c0 := XO1.at 0 rfl
  replace n0 := XN1.at 0 rfl
  replace t0 := XT1.at 0 rfl
  go_simp
  go_simp
  refine hK.out _ _ (by exact ⟨c0, n0, t0⟩) (fun hHeld2 => ?_)
  clear hK hHeld1 K
  try simp only [Act.put, sA, sB, sC]
  refine wpAnyL_ready (rs := [6]) (by kernel_rfl) (by simp) (AllReadyL.cons (o := ⟨some 14, _, _, _, _, _⟩) rfl (fun K hK => ?_) AllReadyL.nil)
  refine step_app_law recT rfl (.tmp 8) (.tmp 13) rfl base (by rfl) own1 (by rfl) RL (rc_one ⟨name, typ, 1, 5, d⟩) (by omega) (by omega) (by simp; omega) ?_
  rintro A4 c4 w4 ⟨own4, hg4, _, _⟩
  have b4 : Below base (w2.alloc (.cells #[.string (strB name), .int .i64 typ, .int .i64 1, .int .i64 5, .string (strB d)] 32)) w4 := below_app (Below.refl base _) own1 hg4 (Nat.le_refl _) (by simp; omega)
  replace XO := XO1.below b4 hob
  have XN4 := (KeptR.grown own1 hg4).box XN1 (by decide) (by decide)
  have XT4 := (KeptR.grown own1 hg4).box XT1 (by decide) (by decide)
  replace kd := kd.trans (KeptR.grown own1 hg4)
  replace bd := bd.trans (b4.mono (by omega))
  clear RL own1 hg4 c0 n0 t0
  have c0 := XO.at 0 rfl
  have n0 := XN4.at 0 rfl
  have t0 := XT4.at 0 rfl
  have xf := XO.cold
  go_simp
  refine hK.out _ _ (by exact ⟨c0, n0, t0⟩) (fun hHeld3 => ?_)
  clear hK hHeld2 K
  try simp only [Act.put, sA, sB, sC]
  refine wpAnyL_ready (rs := [7]) (by kernel_rfl) (by simp) (AllReadyL.late (o := ⟨none, _, _, _, _, _⟩) rfl (by kernel_rfl) (fun K hK => ?_) AllReadyL.nil)
  go_simp
  refine hK.out _ _ ?_
  clear hK K
  try simp only [Act.put, sA, sB, sC]
  clear hHeld3
  refine wpAnyL_done (by kernel_rfl) ?_ _
  have XO5 := XO.set 0 (.slice A4 (n + 1) c4)
  have own5 := own_set (o := 0) own4 hob (.slice A4 (n + 1) c4)
  have k5 := kd.trans (KeptR.set XO 0 (.slice A4 (n + 1) c4))
  have b5 := below_set (o := 0) bd (Nat.le_refl ob) (.slice A4 (n + 1) c4)
  have e5 : RC (D.map (Zo.rcd name typ)) ++ [.string (strB name), .int .i64 typ, .int .i64 1, .int .i64 5, .string (strB d)] = RC ((D ++ [d]).map (Zo.rcd name typ)) := by rw [List.map_append]; show RC _ ++ RC [Zo.rcd name typ d] = _; exact (FC_append (f := rc) _ _).symm
  have E5 := Lib.hid e5
  clear c0 n0 t0 xf e5
  go_wp2
  go_end0
  exact ⟨rfl, ⟨A4, n + 1, c4, XO5, Lib.hid (by rw [List.length_append, hn.out]; rfl), by rw [← E5.out]; exact own5⟩, k5, b5⟩
end Go.Proofs.YtmbfldcmiabccaaGreatDoor

namespace Go.Proofs.YtmbfldcmiabccaaGreatDoor
set_option linter.unusedVariables false
set_option linter.unusedSimpArgs false
open Go.RowKit
theorem flat_lenO {α β : Type} (f : α → List β) (k : Nat) : ∀ l : List α, (∀ x ∈ l, (f x).length ≤ k) → (l.flatMap f).length ≤ l.length * k
  | [], _ => by simp
  | x :: r, h => by
    have h1 := h x (by simp)
    have h2 := flat_lenO f k r fun y hy => h y (by simp [hy])
    rw [List.flatMap_cons, List.length_append, List.length_cons, Nat.add_mul]
    omega
set_option maxHeartbeats 8000000 in
set_option maxRecDepth 20000 in
theorem otell2 (s : Sn) (name : List UInt8) (w : World) (h : SnRd w s) (ha : SnArg s) (hn : name.length ≤ 1000) : Calls Tryz.prog 17 #[snval s, .string (strB name), .int .i64 2] w (RdRc (Zo.tell s.sc name 2) w) := by
  have X0 := (((Box.new w #[.slice s.v.A s.v.n s.v.c, .slice s.B s.m s.d, .string (strB s.dom)] 25).alloc (.cells #[.string (strB name)] 9)).alloc (.cells #[.int .i64 2] 3)).alloc (.cells #[.slice none 0 0] 39)
  have X1 := ((Box.new (w.alloc (.cells #[.slice s.v.A s.v.n s.v.c, .slice s.B s.m s.d, .string (strB s.dom)] 25)) #[.string (strB name)] 9).alloc (.cells #[.int .i64 2] 3)).alloc (.cells #[.slice none 0 0] 39)
  have X2 := (Box.new ((w.alloc (.cells #[.slice s.v.A s.v.n s.v.c, .slice s.B s.m s.d, .string (strB s.dom)] 25)).alloc (.cells #[.string (strB name)] 9)) #[.int .i64 2] 3).alloc (.cells #[.slice none 0 0] 39)
  have X3 := Box.new (((w.alloc (.cells #[.slice s.v.A s.v.n s.v.c, .slice s.B s.m s.d, .string (strB s.dom)] 25)).alloc (.cells #[.string (strB name)] 9)).alloc (.cells #[.int .i64 2] 3)) #[.slice none 0 0] 39
  simp only [World.size_alloc] at X1 X2 X3
  have bw : Below w.heap.size w ((((w.alloc (.cells #[.slice s.v.A s.v.n s.v.c, .slice s.B s.m s.d, .string (strB s.dom)] 25)).alloc (.cells #[.string (strB name)] 9)).alloc (.cells #[.int .i64 2] 3)).alloc (.cells #[.slice none 0 0] 39)) := (((((Below.refl w.heap.size w).alloc (Nat.le_refl _) _).alloc (by simp) _).alloc (by simp; omega) _).alloc (by simp; omega) _)
  have hob : w.heap.size + 1 + 1 + 1 < ((((w.alloc (.cells #[.slice s.v.A s.v.n s.v.c, .slice s.B s.m s.d, .string (strB s.dom)] 25)).alloc (.cells #[.string (strB name)] 9)).alloc (.cells #[.int .i64 2] 3)).alloc (.cells #[.slice none 0 0] 39)).heap.size := by simp
  have EG := egLay
  have hd := ha.ok.dom
  have C1 := fun W => blsame_any name s.dom (by omega) (by omega) W
  have C2 := fun W => oofDomain_any s.dom 2 W hd
  obtain ⟨u, hu⟩ : ∃ u, Lab.same name s.dom = u := ⟨_, rfl⟩
  obtain ⟨⟨t, ok⟩, et⟩ : ∃ z, Zo.own s.dom 2 = z := ⟨_, rfl⟩
  simp only [hu] at C1
  simp only [et] at C2
  have ED : Hid (Zo.datas s.sc name 2 = if u = true ∧ ok = true then [t] else []) := Lib.hid (by rw [Zo.tell_own s.sc name (by omega)]; show (if Lab.same name s.dom = true ∧ (Zo.own s.dom 2).2 = true then [(Zo.own s.dom 2).1] else []) = _; rw [hu, et])
  clear hu et h
  simp only [snval]
  go_enter Tryz.func17, Tryz.ntmps17
  go_upto_region 3 with fail
  generalize ((((w.alloc (.cells #[.slice s.v.A s.v.n s.v.c, .slice s.B s.m s.d, .string (strB s.dom)] 25)).alloc (.cells #[.string (strB name)] 9)).alloc (.cells #[.int .i64 2] 3)).alloc (.cells #[.slice none 0 0] 39)) = w0 at *
  have HI : OutI name 2 (w.heap.size + 1 + 1 + 1) w0.heap.size [] w0 := ⟨none, 0, 0, X3, Lib.hid rfl, World.ownsRow_nil _ _ _ _⟩
  have HB : Below (w.heap.size + 1 + 1 + 1) w0 w0 := Below.refl _ _
  have hs0 : w0.heap.size ≤ w0.heap.size := Nat.le_refl _
  clear X3
  have x0 := (X0.below HB (by omega)).at 0 rfl
  have x1 := (X0.below HB (by omega)).at 1 rfl
  have x2 := (X0.below HB (by omega)).at 2 rfl
  have z0 := (X1.below HB (by omega)).at 0 rfl
  have t0 := (X2.below HB (by omega)).at 0 rfl
  go_wp2_with fail
  refine (C1 w0).mono ?_
  rintro e v1 ⟨rfl, hb⟩
  clear x0 x1 x2 z0 t0
  replace HI := HI.belowH hb
  replace HB := HB.trans (hb.mono (by omega))
  replace hs0 : w0.heap.size ≤ v1.heap.size := Nat.le_trans hs0 hb.size
  clear hb
  cases u with
  | false =>
    have x0 := (X0.below HB (by omega)).at 0 rfl
    have x1 := (X0.below HB (by omega)).at 1 rfl
    have x2 := (X0.below HB (by omega)).at 2 rfl
    have z0 := (X1.below HB (by omega)).at 0 rfl
    have t0 := (X2.below HB (by omega)).at 0 rfl
    have E1 : Hid (Zo.datas s.sc name 2 = []) := Lib.hid (by rw [ED.out]; rfl)
    obtain ⟨A9, n9, c9, XO9, hn9, own9⟩ := HI
    have o9 := XO9.at 0 rfl
    have E9 : Hid (Zo.tell s.sc name 2 = (([] : List (List UInt8))).map (Zo.rcd name 2)) := Lib.hid (by show (Zo.datas s.sc name 2).map _ = _; rw [E1.out])
    go_wp2
    go_ret
    exact ⟨A9, n9, c9, rfl, by rw [E9.out, List.length_map]; exact hn9.out, by rw [E9.out]; exact Rd.of_own own9, own_cap own9, bw.trans (HB.mono (by omega))⟩
  | true =>
    have x0 := (X0.below HB (by omega)).at 0 rfl
    have x1 := (X0.below HB (by omega)).at 1 rfl
    have x2 := (X0.below HB (by omega)).at 2 rfl
    have z0 := (X1.below HB (by omega)).at 0 rfl
    have t0 := (X2.below HB (by omega)).at 0 rfl
    go_wp2_with fail
    refine (C2 v1).mono ?_
    rintro e v2 ⟨rfl, hb⟩
    clear x0 x1 x2 z0 t0
    replace HI := HI.belowH hb
    replace HB := HB.trans (hb.mono (by omega))
    replace hs0 : w0.heap.size ≤ v2.heap.size := Nat.le_trans hs0 hb.size
    clear hb
    cases ok with
    | false =>
      have x0 := (X0.below HB (by omega)).at 0 rfl
      have x1 := (X0.below HB (by omega)).at 1 rfl
      have x2 := (X0.below HB (by omega)).at 2 rfl
      have z0 := (X1.below HB (by omega)).at 0 rfl
      have t0 := (X2.below HB (by omega)).at 0 rfl
      go_wp2_with fail
      refine (olay_no t _ _ _ v2).mono ?_
      rintro e v3 ⟨rfl, rfl⟩
      have E1 : Hid (Zo.datas s.sc name 2 = []) := Lib.hid (by rw [ED.out]; rfl)
      obtain ⟨A9, n9, c9, XO9, hn9, own9⟩ := HI
      have o9 := XO9.at 0 rfl
      have E9 : Hid (Zo.tell s.sc name 2 = (([] : List (List UInt8))).map (Zo.rcd name 2)) := Lib.hid (by show (Zo.datas s.sc name 2).map _ = _; rw [E1.out])
      go_wp2
      go_ret
      exact ⟨A9, n9, c9, rfl, by rw [E9.out, List.length_map]; exact hn9.out, by rw [E9.out]; exact Rd.of_own own9, own_cap own9, bw.trans (HB.mono (by omega))⟩
    | true =>
      have x0 := (X0.below HB (by omega)).at 0 rfl
      have x1 := (X0.below HB (by omega)).at 1 rfl
      have x2 := (X0.below HB (by omega)).at 2 rfl
      have z0 := (X1.below HB (by omega)).at 0 rfl
      have t0 := (X2.below HB (by omega)).at 0 rfl
      have CL := olay_yes name 2 t (w.heap.size + 1 + 1 + 1) (w.heap.size + 1) (w.heap.size + 1 + 1) w0.heap.size ([]) v2 (X1.below HB (by omega)) (X2.below HB (by omega)) HI (by omega) hs0 (by simp)
      go_wp2_with fail
      refine CL.mono ?_
      clear CL
      rintro e v3 ⟨rfl, HI2, hk, hb⟩
      clear x0 x1 x2 z0 t0
      replace HI := HI2
      replace HB := HB.trans hb
      replace hs0 : w0.heap.size ≤ v3.heap.size := Nat.le_trans hs0 hb.size
      clear hb hk HI2
      have E1 : Hid (Zo.datas s.sc name 2 = [] ++ [t]) := Lib.hid (by rw [ED.out]; rfl)
      obtain ⟨A9, n9, c9, XO9, hn9, own9⟩ := HI
      have o9 := XO9.at 0 rfl
      have E9 : Hid (Zo.tell s.sc name 2 = ([] ++ [t]).map (Zo.rcd name 2)) := Lib.hid (by show (Zo.datas s.sc name 2).map _ = _; rw [E1.out])
      go_wp2
      go_ret
      exact ⟨A9, n9, c9, rfl, by rw [E9.out, List.length_map]; exact hn9.out, by rw [E9.out]; exact Rd.of_own own9, own_cap own9, bw.trans (HB.mono (by omega))⟩
set_option maxHeartbeats 8000000 in
set_option maxRecDepth 20000 in
theorem otell6 (s : Sn) (name : List UInt8) (w : World) (h : SnRd w s) (ha : SnArg s) (hn : name.length ≤ 1000) : Calls Tryz.prog 17 #[snval s, .string (strB name), .int .i64 6] w (RdRc (Zo.tell s.sc name 6) w) := by
  have X0 := (((Box.new w #[.slice s.v.A s.v.n s.v.c, .slice s.B s.m s.d, .string (strB s.dom)] 25).alloc (.cells #[.string (strB name)] 9)).alloc (.cells #[.int .i64 6] 3)).alloc (.cells #[.slice none 0 0] 39)
  have X1 := ((Box.new (w.alloc (.cells #[.slice s.v.A s.v.n s.v.c, .slice s.B s.m s.d, .string (strB s.dom)] 25)) #[.string (strB name)] 9).alloc (.cells #[.int .i64 6] 3)).alloc (.cells #[.slice none 0 0] 39)
  have X2 := (Box.new ((w.alloc (.cells #[.slice s.v.A s.v.n s.v.c, .slice s.B s.m s.d, .string (strB s.dom)] 25)).alloc (.cells #[.string (strB name)] 9)) #[.int .i64 6] 3).alloc (.cells #[.slice none 0 0] 39)
  have X3 := Box.new (((w.alloc (.cells #[.slice s.v.A s.v.n s.v.c, .slice s.B s.m s.d, .string (strB s.dom)] 25)).alloc (.cells #[.string (strB name)] 9)).alloc (.cells #[.int .i64 6] 3)) #[.slice none 0 0] 39
  simp only [World.size_alloc] at X1 X2 X3
  have bw : Below w.heap.size w ((((w.alloc (.cells #[.slice s.v.A s.v.n s.v.c, .slice s.B s.m s.d, .string (strB s.dom)] 25)).alloc (.cells #[.string (strB name)] 9)).alloc (.cells #[.int .i64 6] 3)).alloc (.cells #[.slice none 0 0] 39)) := (((((Below.refl w.heap.size w).alloc (Nat.le_refl _) _).alloc (by simp) _).alloc (by simp; omega) _).alloc (by simp; omega) _)
  have hob : w.heap.size + 1 + 1 + 1 < ((((w.alloc (.cells #[.slice s.v.A s.v.n s.v.c, .slice s.B s.m s.d, .string (strB s.dom)] 25)).alloc (.cells #[.string (strB name)] 9)).alloc (.cells #[.int .i64 6] 3)).alloc (.cells #[.slice none 0 0] 39)).heap.size := by simp
  have EG := egLay
  have hd := ha.ok.dom
  have C1 := fun W => blsame_any name s.dom (by omega) (by omega) W
  have C2 := fun W => oofDomain_any s.dom 6 W hd
  obtain ⟨u, hu⟩ : ∃ u, Lab.same name s.dom = u := ⟨_, rfl⟩
  obtain ⟨⟨t, ok⟩, et⟩ : ∃ z, Zo.own s.dom 6 = z := ⟨_, rfl⟩
  simp only [hu] at C1
  simp only [et] at C2
  have ED : Hid (Zo.datas s.sc name 6 = if u = true ∧ ok = true then [t] else []) := Lib.hid (by rw [Zo.tell_own s.sc name (by omega)]; show (if Lab.same name s.dom = true ∧ (Zo.own s.dom 6).2 = true then [(Zo.own s.dom 6).1] else []) = _; rw [hu, et])
  clear hu et h
  simp only [snval]
  go_enter Tryz.func17, Tryz.ntmps17
  go_upto_region 3 with fail
  generalize ((((w.alloc (.cells #[.slice s.v.A s.v.n s.v.c, .slice s.B s.m s.d, .string (strB s.dom)] 25)).alloc (.cells #[.string (strB name)] 9)).alloc (.cells #[.int .i64 6] 3)).alloc (.cells #[.slice none 0 0] 39)) = w0 at *
  have HI : OutI name 6 (w.heap.size + 1 + 1 + 1) w0.heap.size [] w0 := ⟨none, 0, 0, X3, Lib.hid rfl, World.ownsRow_nil _ _ _ _⟩
  have HB : Below (w.heap.size + 1 + 1 + 1) w0 w0 := Below.refl _ _
  have hs0 : w0.heap.size ≤ w0.heap.size := Nat.le_refl _
  clear X3
  have x0 := (X0.below HB (by omega)).at 0 rfl
  have x1 := (X0.below HB (by omega)).at 1 rfl
  have x2 := (X0.below HB (by omega)).at 2 rfl
  have z0 := (X1.below HB (by omega)).at 0 rfl
  have t0 := (X2.below HB (by omega)).at 0 rfl
  go_wp2_with fail
  refine (C1 w0).mono ?_
  rintro e v1 ⟨rfl, hb⟩
  clear x0 x1 x2 z0 t0
  replace HI := HI.belowH hb
  replace HB := HB.trans (hb.mono (by omega))
  replace hs0 : w0.heap.size ≤ v1.heap.size := Nat.le_trans hs0 hb.size
  clear hb
  cases u with
  | false =>
    have x0 := (X0.below HB (by omega)).at 0 rfl
    have x1 := (X0.below HB (by omega)).at 1 rfl
    have x2 := (X0.below HB (by omega)).at 2 rfl
    have z0 := (X1.below HB (by omega)).at 0 rfl
    have t0 := (X2.below HB (by omega)).at 0 rfl
    have E1 : Hid (Zo.datas s.sc name 6 = []) := Lib.hid (by rw [ED.out]; rfl)
    obtain ⟨A9, n9, c9, XO9, hn9, own9⟩ := HI
    have o9 := XO9.at 0 rfl
    have E9 : Hid (Zo.tell s.sc name 6 = (([] : List (List UInt8))).map (Zo.rcd name 6)) := Lib.hid (by show (Zo.datas s.sc name 6).map _ = _; rw [E1.out])
    go_wp2
    go_ret
    exact ⟨A9, n9, c9, rfl, by rw [E9.out, List.length_map]; exact hn9.out, by rw [E9.out]; exact Rd.of_own own9, own_cap own9, bw.trans (HB.mono (by omega))⟩
  | true =>
    have x0 := (X0.below HB (by omega)).at 0 rfl
    have x1 := (X0.below HB (by omega)).at 1 rfl
    have x2 := (X0.below HB (by omega)).at 2 rfl
    have z0 := (X1.below HB (by omega)).at 0 rfl
    have t0 := (X2.below HB (by omega)).at 0 rfl
    go_wp2_with fail
    refine (C2 v1).mono ?_
    rintro e v2 ⟨rfl, hb⟩
    clear x0 x1 x2 z0 t0
    replace HI := HI.belowH hb
    replace HB := HB.trans (hb.mono (by omega))
    replace hs0 : w0.heap.size ≤ v2.heap.size := Nat.le_trans hs0 hb.size
    clear hb
    cases ok with
    | false =>
      have x0 := (X0.below HB (by omega)).at 0 rfl
      have x1 := (X0.below HB (by omega)).at 1 rfl
      have x2 := (X0.below HB (by omega)).at 2 rfl
      have z0 := (X1.below HB (by omega)).at 0 rfl
      have t0 := (X2.below HB (by omega)).at 0 rfl
      go_wp2_with fail
      refine (olay_no t _ _ _ v2).mono ?_
      rintro e v3 ⟨rfl, rfl⟩
      have E1 : Hid (Zo.datas s.sc name 6 = []) := Lib.hid (by rw [ED.out]; rfl)
      obtain ⟨A9, n9, c9, XO9, hn9, own9⟩ := HI
      have o9 := XO9.at 0 rfl
      have E9 : Hid (Zo.tell s.sc name 6 = (([] : List (List UInt8))).map (Zo.rcd name 6)) := Lib.hid (by show (Zo.datas s.sc name 6).map _ = _; rw [E1.out])
      go_wp2
      go_ret
      exact ⟨A9, n9, c9, rfl, by rw [E9.out, List.length_map]; exact hn9.out, by rw [E9.out]; exact Rd.of_own own9, own_cap own9, bw.trans (HB.mono (by omega))⟩
    | true =>
      have x0 := (X0.below HB (by omega)).at 0 rfl
      have x1 := (X0.below HB (by omega)).at 1 rfl
      have x2 := (X0.below HB (by omega)).at 2 rfl
      have z0 := (X1.below HB (by omega)).at 0 rfl
      have t0 := (X2.below HB (by omega)).at 0 rfl
      have CL := olay_yes name 6 t (w.heap.size + 1 + 1 + 1) (w.heap.size + 1) (w.heap.size + 1 + 1) w0.heap.size ([]) v2 (X1.below HB (by omega)) (X2.below HB (by omega)) HI (by omega) hs0 (by simp)
      go_wp2_with fail
      refine CL.mono ?_
      clear CL
      rintro e v3 ⟨rfl, HI2, hk, hb⟩
      clear x0 x1 x2 z0 t0
      replace HI := HI2
      replace HB := HB.trans hb
      replace hs0 : w0.heap.size ≤ v3.heap.size := Nat.le_trans hs0 hb.size
      clear hb hk HI2
      have E1 : Hid (Zo.datas s.sc name 6 = [] ++ [t]) := Lib.hid (by rw [ED.out]; rfl)
      obtain ⟨A9, n9, c9, XO9, hn9, own9⟩ := HI
      have o9 := XO9.at 0 rfl
      have E9 : Hid (Zo.tell s.sc name 6 = ([] ++ [t]).map (Zo.rcd name 6)) := Lib.hid (by show (Zo.datas s.sc name 6).map _ = _; rw [E1.out])
      go_wp2
      go_ret
      exact ⟨A9, n9, c9, rfl, by rw [E9.out, List.length_map]; exact hn9.out, by rw [E9.out]; exact Rd.of_own own9, own_cap own9, bw.trans (HB.mono (by omega))⟩
set_option maxHeartbeats 8000000 in
set_option maxRecDepth 20000 in
theorem otell1 (s : Sn) (name : List UInt8) (w : World) (h : SnRd w s) (ha : SnArg s) (hn : name.length ≤ 1000) : Calls Tryz.prog 17 #[snval s, .string (strB name), .int .i64 1] w (RdRc (Zo.tell s.sc name 1) w) := by
  have X0 := (((Box.new w #[.slice s.v.A s.v.n s.v.c, .slice s.B s.m s.d, .string (strB s.dom)] 25).alloc (.cells #[.string (strB name)] 9)).alloc (.cells #[.int .i64 1] 3)).alloc (.cells #[.slice none 0 0] 39)
  have X1 := ((Box.new (w.alloc (.cells #[.slice s.v.A s.v.n s.v.c, .slice s.B s.m s.d, .string (strB s.dom)] 25)) #[.string (strB name)] 9).alloc (.cells #[.int .i64 1] 3)).alloc (.cells #[.slice none 0 0] 39)
  have X2 := (Box.new ((w.alloc (.cells #[.slice s.v.A s.v.n s.v.c, .slice s.B s.m s.d, .string (strB s.dom)] 25)).alloc (.cells #[.string (strB name)] 9)) #[.int .i64 1] 3).alloc (.cells #[.slice none 0 0] 39)
  have X3 := Box.new (((w.alloc (.cells #[.slice s.v.A s.v.n s.v.c, .slice s.B s.m s.d, .string (strB s.dom)] 25)).alloc (.cells #[.string (strB name)] 9)).alloc (.cells #[.int .i64 1] 3)) #[.slice none 0 0] 39
  simp only [World.size_alloc] at X1 X2 X3
  have bw : Below w.heap.size w ((((w.alloc (.cells #[.slice s.v.A s.v.n s.v.c, .slice s.B s.m s.d, .string (strB s.dom)] 25)).alloc (.cells #[.string (strB name)] 9)).alloc (.cells #[.int .i64 1] 3)).alloc (.cells #[.slice none 0 0] 39)) := (((((Below.refl w.heap.size w).alloc (Nat.le_refl _) _).alloc (by simp) _).alloc (by simp; omega) _).alloc (by simp; omega) _)
  have hob : w.heap.size + 1 + 1 + 1 < ((((w.alloc (.cells #[.slice s.v.A s.v.n s.v.c, .slice s.B s.m s.d, .string (strB s.dom)] 25)).alloc (.cells #[.string (strB name)] 9)).alloc (.cells #[.int .i64 1] 3)).alloc (.cells #[.slice none 0 0] 39)).heap.size := by simp
  have EG := egLay
  have HT : TyOk 1 := tyOk (by omega)
  have ED : Hid (Zo.datas s.sc name 1 = ((s.v.l.filter (cnv s.al)).map Nv.nm).flatMap (Zo.adAt s.dom name 1)) := Lib.hid (by rw [Zo.tell_addrs (s := s.sc) ha.right.2 name (by omega)]; show (Zo.cing s.al s.v.view).flatMap _ = _; rw [cing_nv]; rfl)
  have hd := ha.ok.dom
  simp only [snval]
  go_enter Tryz.func17, Tryz.ntmps17
  go_upto_region 4 with fail
  generalize ((((w.alloc (.cells #[.slice s.v.A s.v.n s.v.c, .slice s.B s.m s.d, .string (strB s.dom)] 25)).alloc (.cells #[.string (strB name)] 9)).alloc (.cells #[.int .i64 1] 3)).alloc (.cells #[.slice none 0 0] 39)) = w0 at *
  have HI : OutI name 1 (w.heap.size + 1 + 1 + 1) w0.heap.size [] w0 := ⟨none, 0, 0, X3, Lib.hid rfl, World.ownsRow_nil _ _ _ _⟩
  have HB : Below (w.heap.size + 1 + 1 + 1) w0 w0 := Below.refl _ _
  have hs0 : w0.heap.size ≤ w0.heap.size := Nat.le_refl _
  clear X3
  have x0 := (X0.below HB (by omega)).at 0 rfl
  have x1 := (X0.below HB (by omega)).at 1 rfl
  have x2 := (X0.below HB (by omega)).at 2 rfl
  have z0 := (X1.below HB (by omega)).at 0 rfl
  have t0 := (X2.below HB (by omega)).at 0 rfl
  refine wp_region_held_drew (S := (fun w' => w'.cell? ⟨w.heap.size + 1 + 1, 0, none⟩ = some (.int .i64 1))) (by kernel_rfl) (by exact t0) (fun hHeld0 => ?_)
  refine tk 1 21 rfl hHeld0 ?_
  refine wpAnyH_ready (rs := [0]) (by kernel_rfl) (by simp) (AllReadyH.cons (o := ⟨some 20, _, _, _, _, _⟩) rfl (fun K hK => ?_) AllReadyH.nil)
  go_simp
  refine (okeys_any _).mono ?_
  rintro e v9 ⟨bk, rfl, hk, hb⟩
  replace hb : Below w0.heap.size w0 v9 := ((Below.refl w0.heap.size w0).drew).trans hb
  replace HI := HI.belowH hb
  replace HB := HB.trans (hb.mono (by omega))
  replace hs0 : w0.heap.size ≤ v9.heap.size := hb.size
  clear hb x0 x1 x2 z0 t0
  have t0 := (X2.below HB (by omega)).at 0 rfl
  have hlk := keys_look hk HT
  rw [show keyT 1 = 1 from rfl, show keyB 1 = true from rfl] at hlk
  go_simp
  refine hK.out _ _ (by exact t0) (fun hHeld1 => ?_)
  clear hK hHeld0 K
  try simp only [Act.put, sA, sB, sC]
  refine wpAnyH_ready (rs := [2]) (by kernel_rfl) (by simp) (AllReadyH.cons (o := ⟨some 22, _, _, _, _, _⟩) rfl (fun K hK => ?_) AllReadyH.nil)
  go_simp
  go_simp
  refine hK.out _ _ (by exact t0) (fun hHeld2 => ?_)
  clear hK hHeld1 K
  try simp only [Act.put, sA, sB, sC]
  refine tk 3 19 rfl hHeld2 ?_
  refine tk 4 23 rfl hHeld2 ?_
  refine tk 5 24 rfl hHeld2 ?_
  refine tk 6 13 rfl hHeld2 ?_
  refine tk 7 14 rfl hHeld2 ?_
  refine wpAnyH_done (by kernel_rfl) ?_ _
  skip
  clear t0
  have x0 := (X0.below HB (by omega)).at 0 rfl
  have x1 := (X0.below HB (by omega)).at 1 rfl
  have x2 := (X0.below HB (by omega)).at 2 rfl
  have z0 := (X1.below HB (by omega)).at 0 rfl
  have t0 := (X2.below HB (by omega)).at 0 rfl
  have CC := ocounting_any s v9 (h.belowH (bw.trans (HB.mono (by omega)))) ha.ok
  obtain ⟨C, eC⟩ : ∃ z, s.v.l.filter (cnv s.al) = z := ⟨_, rfl⟩
  rw [eC] at CC
  have HC : Hid (∀ x ∈ C, x.v.n ≤ 4000 ∧ (∀ y ∈ x.v.s.apps, y.val.length ≤ 140737488351232) ∧ SRd w x.v) := Lib.hid (by
    intro x hx
    rw [← eC] at hx
    have hm := (List.mem_filter.1 hx).1
    exact ⟨ha.ok.fit.2.1 x hm, ha.ok.val x.nm (List.mem_map.2 ⟨x, hm, rfl⟩), h.1.2 x hm⟩)
  have CN : Hid (C.length ≤ 1000) := Lib.hid (by rw [← eC]; exact Nat.le_trans (List.length_filter_le _ _) (by have h1 := h.1.len; have := ha.ok.fit.1; omega))
  have EC := Lib.hid eC
  simp only [snval] at CC
  clear eC
  go_wp2_with fail
  refine CC.mono ?_
  clear CC
  rintro e v1 ⟨Ac, nc, cc, rfl, hlc, HO, hb⟩
  clear x0 x1 x2 z0 t0
  replace HI := HI.belowH hb
  replace HB := HB.trans (hb.mono (by omega))
  replace hs0 : w0.heap.size ≤ v1.heap.size := Nat.le_trans hs0 hb.size
  clear hb
  have HLC := Lib.hid hlc
  have hnc : nc ≤ 1000 := by have := CN.out; omega
  clear hlc
  have ED2 : Hid (Zo.datas s.sc name 1 = (C.map Nv.nm).flatMap (Zo.adAt s.dom name 1)) := Lib.hid (by rw [ED.out, EC.out])
  clear ED h
  go_wp2
  go_loopw [28] (fun i wr => ∃ (k : Nat), k ≤ nc ∧ i = .int .i64 (k : Int) ∧ OutI name 1 (w.heap.size + 1 + 1 + 1) w0.heap.size (((C.take k).map Nv.nm).flatMap (Zo.adAt s.dom name 1)) wr ∧ wr.ownsRow v9.heap.size 53 4 (.slice Ac nc cc) nc (FC ncl C) ∧ w0.heap.size ≤ wr.heap.size ∧ Below (w.heap.size + 1 + 1 + 1) w0 wr) (fun i _ => nc - (intOf i).toNat)
  case atStart => exact ⟨0, Nat.zero_le _, rfl, HI, HO, hs0, HB⟩
  case round =>
    clear HI HO HB hs0
    obtain ⟨k, hk, rfl, HI, HO, hs0, HB⟩ := hrel
    by_cases hlt : k < nc
    · skip
      have hr := HC.out
      obtain ⟨bq, oq, x, e1, hbq, hx, hsx, d0, d1, d2, d3⟩ := (show VRd wr ⟨C, Ac, nc, cc⟩ from ⟨Rd.of_own HO, fun x hx => (hr x hx).2.2.belowH (bw.trans (HB.mono (by omega)))⟩).at hlt
      simp only at e1 hx
      subst e1
      have HX := Lib.hid hx
      have hxf := HC.out x (List.mem_of_getElem? hx)
      have HXN := Lib.hid hxf.1
      have HXV := Lib.hid hxf.2.1
      have HXS := Lib.hid hxf.2.2
      have hk0 : (0 : Int) ≤ (k : Int) := by omega
      clear hx hr hxf hsx
      have hb := (Below.refl wr.heap.size wr).alloc (Nat.le_refl _) (.cells #[.int .i64 x.node, .int .i64 x.v.s.gen, .int .i64 x.v.s.beat, .slice x.v.A x.v.n x.v.c] 53)
      have NBX := Box.new wr #[.int .i64 x.node, .int .i64 x.v.s.gen, .int .i64 x.v.s.beat, .slice x.v.A x.v.n x.v.c] 53
      replace HO := own_below HO hb
      replace HI := HI.belowH hb
      replace HB := HB.trans (hb.mono (by omega))
      replace hs0 : w0.heap.size ≤ (wr.alloc (.cells #[.int .i64 x.node, .int .i64 x.v.s.gen, .int .i64 x.v.s.beat, .slice x.v.A x.v.n x.v.c] 53)).heap.size := Nat.le_trans hs0 hb.size
      clear hb
      go_upto_region 8 with fail
      generalize (wr.alloc (.cells #[.int .i64 x.node, .int .i64 x.v.s.gen, .int .i64 x.v.s.beat, .slice x.v.A x.v.n x.v.c] 53)) = v2 at *
      clear d0 d1 d2 d3
      have x0 := (X0.below HB (by omega)).at 0 rfl
      have x1 := (X0.below HB (by omega)).at 1 rfl
      have x2 := (X0.below HB (by omega)).at 2 rfl
      have z0 := (X1.below HB (by omega)).at 0 rfl
      have t0 := (X2.below HB (by omega)).at 0 rfl
      have y0 := NBX.at 0 rfl
      have y1 := NBX.at 1 rfl
      have y2 := NBX.at 2 rfl
      have y3 := NBX.at 3 rfl
      have CI := oishost_any s x.node name v2 ha (by omega)
      obtain ⟨u, hu⟩ : ∃ u, Zo.hostIs s.dom name x.node = u := ⟨_, rfl⟩
      rw [hu] at CI
      have HU := Lib.hid hu
      have more : ((C.take (k + 1)).map Nv.nm).flatMap (Zo.adAt s.dom name 1) = ((C.take k).map Nv.nm).flatMap (Zo.adAt s.dom name 1) ++ Zo.adAt s.dom name 1 x.nm := by rw [take_more HX.out, List.map_append, List.flatMap_append]; simp
      have MORE := Lib.hid more
      have few : (((C.take k).map Nv.nm).flatMap (Zo.adAt s.dom name 1)).length ≤ 1000 := by
        have h1 := flat_lenO (Zo.adAt s.dom name 1) 1 ((C.take k).map Nv.nm) (fun y _ => by unfold Zo.adAt; split <;> simp)
        rw [List.length_map] at h1
        have h2 : (C.take k).length ≤ k := List.length_take_le _ _
        omega
      have FEW := Lib.hid few
      simp only [snval] at CI
      clear hu more few
      go_wp2_with fail
      refine (CI).mono ?_
      rintro e v3 ⟨rfl, hb⟩
      clear x0 x1 x2 z0 t0
      clear y0 y1 y2 y3
      replace HO := own_below HO hb
      replace NBX := NBX.belowH hb
      replace HI := HI.belowH hb
      replace HB := HB.trans (hb.mono (by omega))
      replace hs0 : w0.heap.size ≤ v3.heap.size := Nat.le_trans hs0 hb.size
      clear hb
      clear CI
      cases u with
      | false =>
        have NO : Zo.adAt s.dom name 1 x.nm = [] := by unfold Zo.adAt; rw [if_neg]; intro hh; have h1 : Zo.hostIs s.dom name x.node = true := hh.1; rw [HU.out] at h1; cases h1
        rw [← List.append_nil (((C.take k).map Nv.nm).flatMap (Zo.adAt s.dom name 1))] at HI
        have MR := MORE.out
        rw [NO] at MR
        have HM := Lib.hid MR
        clear MR
        go_wp2
        go_roundw
        case rel => exact ⟨k + 1, by omega, by go_num, HI.eq (by rw [HM.out]), HO, hs0, HB⟩
        case measure => simp [intOf]; omega
      | true =>
        have x0 := (X0.below HB (by omega)).at 0 rfl
        have x1 := (X0.below HB (by omega)).at 1 rfl
        have x2 := (X0.below HB (by omega)).at 2 rfl
        have z0 := (X1.below HB (by omega)).at 0 rfl
        have t0 := (X2.below HB (by omega)).at 0 rfl
        have y0 := NBX.at 0 rfl
        have y1 := NBX.at 1 rfl
        have y2 := NBX.at 2 rfl
        have y3 := NBX.at 3 rfl
        have CA := yaddress_any x.v.s.apps 1 x.v.A x.v.n x.v.c v3 (by exact HXS.out.belowH (bw.trans (HB.mono (by omega)))) (by have := HXN.out; omega)
        obtain ⟨⟨t, ok⟩, et⟩ : ∃ z, Zo.addr x.v.s.apps 1 = z := ⟨_, rfl⟩
        rw [et] at CA
        have YES : Hid (Zo.adAt s.dom name 1 x.nm = if ok = true then [t] else []) := Lib.hid (by
          unfold Zo.adAt
          show (if Zo.hostIs s.dom name x.node = true ∧ (Zo.addr x.v.s.apps 1).2 = true then [(Zo.addr x.v.s.apps 1).1] else []) = _
          rw [et, HU.out]
          simp)
        clear et
        go_wp2_with fail
        refine (CA).mono ?_
        rintro e v4 ⟨rfl, hb⟩
        clear x0 x1 x2 z0 t0
        clear y0 y1 y2 y3
        replace HO := own_below HO hb
        replace NBX := NBX.belowH hb
        replace HI := HI.belowH hb
        replace HB := HB.trans (hb.mono (by omega))
        replace hs0 : w0.heap.size ≤ v4.heap.size := Nat.le_trans hs0 hb.size
        clear hb
        clear CA
        cases ok with
        | false =>
          go_wp2_with fail
          refine (olay_no t _ _ _ v4).mono ?_
          rintro e v5 ⟨rfl, rfl⟩
          have NO : Zo.adAt s.dom name 1 x.nm = [] := by rw [YES.out]; rfl
          rw [← List.append_nil (((C.take k).map Nv.nm).flatMap (Zo.adAt s.dom name 1))] at HI
          have MR := MORE.out
          rw [NO] at MR
          have HM := Lib.hid MR
          clear MR
          go_wp2
          go_roundw
          case rel => exact ⟨k + 1, by omega, by go_num, HI.eq (by rw [HM.out]), HO, hs0, HB⟩
          case measure => simp [intOf]; omega
        | true =>
          have CL := olay_yes name 1 t (w.heap.size + 1 + 1 + 1) (w.heap.size + 1) (w.heap.size + 1 + 1) w0.heap.size (((C.take k).map Nv.nm).flatMap (Zo.adAt s.dom name 1)) v4 (X1.below HB (by omega)) (X2.below HB (by omega)) HI (by omega) hs0 (by have := FEW.out; omega)
          go_wp2_with fail
          refine CL.mono ?_
          clear CL
          rintro e v5 ⟨rfl, HI2, hk, hb⟩
          replace HO := hk.own HO (by decide) (by decide)
          replace NBX := hk.box NBX (by decide) (by decide)
          replace HI := HI2
          replace HB := HB.trans hb
          replace hs0 : w0.heap.size ≤ v5.heap.size := Nat.le_trans hs0 hb.size
          clear hb hk HI2
          have NO : Zo.adAt s.dom name 1 x.nm = [t] := by rw [YES.out]; rfl
          have MR := MORE.out
          rw [NO] at MR
          have HM := Lib.hid MR
          clear MR
          go_wp2
          go_roundw
          case rel => exact ⟨k + 1, by omega, by go_num, HI.eq (by rw [HM.out]), HO, hs0, HB⟩
          case measure => simp [intOf]; omega
    · skip
      have E1 : Hid (Zo.datas s.sc name 1 = ((C.take k).map Nv.nm).flatMap (Zo.adAt s.dom name 1)) := Lib.hid (by rw [ED2.out, List.take_of_length_le (by have := HLC.out; omega)])
      obtain ⟨A9, n9, c9, XO9, hn9, own9⟩ := HI
      have o9 := XO9.at 0 rfl
      have E9 : Hid (Zo.tell s.sc name 1 = (((C.take k).map Nv.nm).flatMap (Zo.adAt s.dom name 1)).map (Zo.rcd name 1)) := Lib.hid (by show (Zo.datas s.sc name 1).map _ = _; rw [E1.out])
      go_wp2
      go_ret
      exact ⟨A9, n9, c9, rfl, by rw [E9.out, List.length_map]; exact hn9.out, by rw [E9.out]; exact Rd.of_own own9, own_cap own9, bw.trans (HB.mono (by omega))⟩
set_option maxHeartbeats 8000000 in
set_option maxRecDepth 20000 in
theorem otell28 (s : Sn) (name : List UInt8) (w : World) (h : SnRd w s) (ha : SnArg s) (hn : name.length ≤ 1000) : Calls Tryz.prog 17 #[snval s, .string (strB name), .int .i64 28] w (RdRc (Zo.tell s.sc name 28) w) := by
  have X0 := (((Box.new w #[.slice s.v.A s.v.n s.v.c, .slice s.B s.m s.d, .string (strB s.dom)] 25).alloc (.cells #[.string (strB name)] 9)).alloc (.cells #[.int .i64 28] 3)).alloc (.cells #[.slice none 0 0] 39)
  have X1 := ((Box.new (w.alloc (.cells #[.slice s.v.A s.v.n s.v.c, .slice s.B s.m s.d, .string (strB s.dom)] 25)) #[.string (strB name)] 9).alloc (.cells #[.int .i64 28] 3)).alloc (.cells #[.slice none 0 0] 39)
  have X2 := (Box.new ((w.alloc (.cells #[.slice s.v.A s.v.n s.v.c, .slice s.B s.m s.d, .string (strB s.dom)] 25)).alloc (.cells #[.string (strB name)] 9)) #[.int .i64 28] 3).alloc (.cells #[.slice none 0 0] 39)
  have X3 := Box.new (((w.alloc (.cells #[.slice s.v.A s.v.n s.v.c, .slice s.B s.m s.d, .string (strB s.dom)] 25)).alloc (.cells #[.string (strB name)] 9)).alloc (.cells #[.int .i64 28] 3)) #[.slice none 0 0] 39
  simp only [World.size_alloc] at X1 X2 X3
  have bw : Below w.heap.size w ((((w.alloc (.cells #[.slice s.v.A s.v.n s.v.c, .slice s.B s.m s.d, .string (strB s.dom)] 25)).alloc (.cells #[.string (strB name)] 9)).alloc (.cells #[.int .i64 28] 3)).alloc (.cells #[.slice none 0 0] 39)) := (((((Below.refl w.heap.size w).alloc (Nat.le_refl _) _).alloc (by simp) _).alloc (by simp; omega) _).alloc (by simp; omega) _)
  have hob : w.heap.size + 1 + 1 + 1 < ((((w.alloc (.cells #[.slice s.v.A s.v.n s.v.c, .slice s.B s.m s.d, .string (strB s.dom)] 25)).alloc (.cells #[.string (strB name)] 9)).alloc (.cells #[.int .i64 28] 3)).alloc (.cells #[.slice none 0 0] 39)).heap.size := by simp
  have EG := egLay
  have HT : TyOk 28 := tyOk (by omega)
  have ED : Hid (Zo.datas s.sc name 28 = ((s.v.l.filter (cnv s.al)).map Nv.nm).flatMap (Zo.adAt s.dom name 28)) := Lib.hid (by rw [Zo.tell_addrs (s := s.sc) ha.right.2 name (by omega)]; show (Zo.cing s.al s.v.view).flatMap _ = _; rw [cing_nv]; rfl)
  have hd := ha.ok.dom
  simp only [snval]
  go_enter Tryz.func17, Tryz.ntmps17
  go_upto_region 4 with fail
  generalize ((((w.alloc (.cells #[.slice s.v.A s.v.n s.v.c, .slice s.B s.m s.d, .string (strB s.dom)] 25)).alloc (.cells #[.string (strB name)] 9)).alloc (.cells #[.int .i64 28] 3)).alloc (.cells #[.slice none 0 0] 39)) = w0 at *
  have HI : OutI name 28 (w.heap.size + 1 + 1 + 1) w0.heap.size [] w0 := ⟨none, 0, 0, X3, Lib.hid rfl, World.ownsRow_nil _ _ _ _⟩
  have HB : Below (w.heap.size + 1 + 1 + 1) w0 w0 := Below.refl _ _
  have hs0 : w0.heap.size ≤ w0.heap.size := Nat.le_refl _
  clear X3
  have x0 := (X0.below HB (by omega)).at 0 rfl
  have x1 := (X0.below HB (by omega)).at 1 rfl
  have x2 := (X0.below HB (by omega)).at 2 rfl
  have z0 := (X1.below HB (by omega)).at 0 rfl
  have t0 := (X2.below HB (by omega)).at 0 rfl
  refine wp_region_held_drew (S := (fun w' => w'.cell? ⟨w.heap.size + 1 + 1, 0, none⟩ = some (.int .i64 28))) (by kernel_rfl) (by exact t0) (fun hHeld0 => ?_)
  refine tk 1 21 rfl hHeld0 ?_
  refine wpAnyH_ready (rs := [0]) (by kernel_rfl) (by simp) (AllReadyH.cons (o := ⟨some 20, _, _, _, _, _⟩) rfl (fun K hK => ?_) AllReadyH.nil)
  go_simp
  refine (okeys_any _).mono ?_
  rintro e v9 ⟨bk, rfl, hk, hb⟩
  replace hb : Below w0.heap.size w0 v9 := ((Below.refl w0.heap.size w0).drew).trans hb
  replace HI := HI.belowH hb
  replace HB := HB.trans (hb.mono (by omega))
  replace hs0 : w0.heap.size ≤ v9.heap.size := hb.size
  clear hb x0 x1 x2 z0 t0
  have t0 := (X2.below HB (by omega)).at 0 rfl
  have hlk := keys_look hk HT
  rw [show keyT 28 = 2 from rfl, show keyB 28 = true from rfl] at hlk
  go_simp
  refine hK.out _ _ (by exact t0) (fun hHeld1 => ?_)
  clear hK hHeld0 K
  try simp only [Act.put, sA, sB, sC]
  refine wpAnyH_ready (rs := [2]) (by kernel_rfl) (by simp) (AllReadyH.cons (o := ⟨some 22, _, _, _, _, _⟩) rfl (fun K hK => ?_) AllReadyH.nil)
  go_simp
  go_simp
  refine hK.out _ _ (by exact t0) (fun hHeld2 => ?_)
  clear hK hHeld1 K
  try simp only [Act.put, sA, sB, sC]
  refine tk 3 19 rfl hHeld2 ?_
  refine tk 4 23 rfl hHeld2 ?_
  refine tk 5 24 rfl hHeld2 ?_
  refine tk 6 13 rfl hHeld2 ?_
  refine tk 7 14 rfl hHeld2 ?_
  refine wpAnyH_done (by kernel_rfl) ?_ _
  skip
  clear t0
  have x0 := (X0.below HB (by omega)).at 0 rfl
  have x1 := (X0.below HB (by omega)).at 1 rfl
  have x2 := (X0.below HB (by omega)).at 2 rfl
  have z0 := (X1.below HB (by omega)).at 0 rfl
  have t0 := (X2.below HB (by omega)).at 0 rfl
  have CC := ocounting_any s v9 (h.belowH (bw.trans (HB.mono (by omega)))) ha.ok
  obtain ⟨C, eC⟩ : ∃ z, s.v.l.filter (cnv s.al) = z := ⟨_, rfl⟩
  rw [eC] at CC
  have HC : Hid (∀ x ∈ C, x.v.n ≤ 4000 ∧ (∀ y ∈ x.v.s.apps, y.val.length ≤ 140737488351232) ∧ SRd w x.v) := Lib.hid (by
    intro x hx
    rw [← eC] at hx
    have hm := (List.mem_filter.1 hx).1
    exact ⟨ha.ok.fit.2.1 x hm, ha.ok.val x.nm (List.mem_map.2 ⟨x, hm, rfl⟩), h.1.2 x hm⟩)
  have CN : Hid (C.length ≤ 1000) := Lib.hid (by rw [← eC]; exact Nat.le_trans (List.length_filter_le _ _) (by have h1 := h.1.len; have := ha.ok.fit.1; omega))
  have EC := Lib.hid eC
  simp only [snval] at CC
  clear eC
  go_wp2_with fail
  refine CC.mono ?_
  clear CC
  rintro e v1 ⟨Ac, nc, cc, rfl, hlc, HO, hb⟩
  clear x0 x1 x2 z0 t0
  replace HI := HI.belowH hb
  replace HB := HB.trans (hb.mono (by omega))
  replace hs0 : w0.heap.size ≤ v1.heap.size := Nat.le_trans hs0 hb.size
  clear hb
  have HLC := Lib.hid hlc
  have hnc : nc ≤ 1000 := by have := CN.out; omega
  clear hlc
  have ED2 : Hid (Zo.datas s.sc name 28 = (C.map Nv.nm).flatMap (Zo.adAt s.dom name 28)) := Lib.hid (by rw [ED.out, EC.out])
  clear ED h
  go_wp2
  go_loopw [28] (fun i wr => ∃ (k : Nat), k ≤ nc ∧ i = .int .i64 (k : Int) ∧ OutI name 28 (w.heap.size + 1 + 1 + 1) w0.heap.size (((C.take k).map Nv.nm).flatMap (Zo.adAt s.dom name 28)) wr ∧ wr.ownsRow v9.heap.size 53 4 (.slice Ac nc cc) nc (FC ncl C) ∧ w0.heap.size ≤ wr.heap.size ∧ Below (w.heap.size + 1 + 1 + 1) w0 wr) (fun i _ => nc - (intOf i).toNat)
  case atStart => exact ⟨0, Nat.zero_le _, rfl, HI, HO, hs0, HB⟩
  case round =>
    clear HI HO HB hs0
    obtain ⟨k, hk, rfl, HI, HO, hs0, HB⟩ := hrel
    by_cases hlt : k < nc
    · skip
      have hr := HC.out
      obtain ⟨bq, oq, x, e1, hbq, hx, hsx, d0, d1, d2, d3⟩ := (show VRd wr ⟨C, Ac, nc, cc⟩ from ⟨Rd.of_own HO, fun x hx => (hr x hx).2.2.belowH (bw.trans (HB.mono (by omega)))⟩).at hlt
      simp only at e1 hx
      subst e1
      have HX := Lib.hid hx
      have hxf := HC.out x (List.mem_of_getElem? hx)
      have HXN := Lib.hid hxf.1
      have HXV := Lib.hid hxf.2.1
      have HXS := Lib.hid hxf.2.2
      have hk0 : (0 : Int) ≤ (k : Int) := by omega
      clear hx hr hxf hsx
      have hb := (Below.refl wr.heap.size wr).alloc (Nat.le_refl _) (.cells #[.int .i64 x.node, .int .i64 x.v.s.gen, .int .i64 x.v.s.beat, .slice x.v.A x.v.n x.v.c] 53)
      have NBX := Box.new wr #[.int .i64 x.node, .int .i64 x.v.s.gen, .int .i64 x.v.s.beat, .slice x.v.A x.v.n x.v.c] 53
      replace HO := own_below HO hb
      replace HI := HI.belowH hb
      replace HB := HB.trans (hb.mono (by omega))
      replace hs0 : w0.heap.size ≤ (wr.alloc (.cells #[.int .i64 x.node, .int .i64 x.v.s.gen, .int .i64 x.v.s.beat, .slice x.v.A x.v.n x.v.c] 53)).heap.size := Nat.le_trans hs0 hb.size
      clear hb
      go_upto_region 8 with fail
      generalize (wr.alloc (.cells #[.int .i64 x.node, .int .i64 x.v.s.gen, .int .i64 x.v.s.beat, .slice x.v.A x.v.n x.v.c] 53)) = v2 at *
      clear d0 d1 d2 d3
      have x0 := (X0.below HB (by omega)).at 0 rfl
      have x1 := (X0.below HB (by omega)).at 1 rfl
      have x2 := (X0.below HB (by omega)).at 2 rfl
      have z0 := (X1.below HB (by omega)).at 0 rfl
      have t0 := (X2.below HB (by omega)).at 0 rfl
      have y0 := NBX.at 0 rfl
      have y1 := NBX.at 1 rfl
      have y2 := NBX.at 2 rfl
      have y3 := NBX.at 3 rfl
      have CI := oishost_any s x.node name v2 ha (by omega)
      obtain ⟨u, hu⟩ : ∃ u, Zo.hostIs s.dom name x.node = u := ⟨_, rfl⟩
      rw [hu] at CI
      have HU := Lib.hid hu
      have more : ((C.take (k + 1)).map Nv.nm).flatMap (Zo.adAt s.dom name 28) = ((C.take k).map Nv.nm).flatMap (Zo.adAt s.dom name 28) ++ Zo.adAt s.dom name 28 x.nm := by rw [take_more HX.out, List.map_append, List.flatMap_append]; simp
      have MORE := Lib.hid more
      have few : (((C.take k).map Nv.nm).flatMap (Zo.adAt s.dom name 28)).length ≤ 1000 := by
        have h1 := flat_lenO (Zo.adAt s.dom name 28) 1 ((C.take k).map Nv.nm) (fun y _ => by unfold Zo.adAt; split <;> simp)
        rw [List.length_map] at h1
        have h2 : (C.take k).length ≤ k := List.length_take_le _ _
        omega
      have FEW := Lib.hid few
      simp only [snval] at CI
      clear hu more few
      go_wp2_with fail
      refine (CI).mono ?_
      rintro e v3 ⟨rfl, hb⟩
      clear x0 x1 x2 z0 t0
      clear y0 y1 y2 y3
      replace HO := own_below HO hb
      replace NBX := NBX.belowH hb
      replace HI := HI.belowH hb
      replace HB := HB.trans (hb.mono (by omega))
      replace hs0 : w0.heap.size ≤ v3.heap.size := Nat.le_trans hs0 hb.size
      clear hb
      clear CI
      cases u with
      | false =>
        have NO : Zo.adAt s.dom name 28 x.nm = [] := by unfold Zo.adAt; rw [if_neg]; intro hh; have h1 : Zo.hostIs s.dom name x.node = true := hh.1; rw [HU.out] at h1; cases h1
        rw [← List.append_nil (((C.take k).map Nv.nm).flatMap (Zo.adAt s.dom name 28))] at HI
        have MR := MORE.out
        rw [NO] at MR
        have HM := Lib.hid MR
        clear MR
        go_wp2
        go_roundw
        case rel => exact ⟨k + 1, by omega, by go_num, HI.eq (by rw [HM.out]), HO, hs0, HB⟩
        case measure => simp [intOf]; omega
      | true =>
        have x0 := (X0.below HB (by omega)).at 0 rfl
        have x1 := (X0.below HB (by omega)).at 1 rfl
        have x2 := (X0.below HB (by omega)).at 2 rfl
        have z0 := (X1.below HB (by omega)).at 0 rfl
        have t0 := (X2.below HB (by omega)).at 0 rfl
        have y0 := NBX.at 0 rfl
        have y1 := NBX.at 1 rfl
        have y2 := NBX.at 2 rfl
        have y3 := NBX.at 3 rfl
        have CA := yaddress_any x.v.s.apps 2 x.v.A x.v.n x.v.c v3 (by exact HXS.out.belowH (bw.trans (HB.mono (by omega)))) (by have := HXN.out; omega)
        obtain ⟨⟨t, ok⟩, et⟩ : ∃ z, Zo.addr x.v.s.apps 2 = z := ⟨_, rfl⟩
        rw [et] at CA
        have YES : Hid (Zo.adAt s.dom name 28 x.nm = if ok = true then [t] else []) := Lib.hid (by
          unfold Zo.adAt
          show (if Zo.hostIs s.dom name x.node = true ∧ (Zo.addr x.v.s.apps 2).2 = true then [(Zo.addr x.v.s.apps 2).1] else []) = _
          rw [et, HU.out]
          simp)
        clear et
        go_wp2_with fail
        refine (CA).mono ?_
        rintro e v4 ⟨rfl, hb⟩
        clear x0 x1 x2 z0 t0
        clear y0 y1 y2 y3
        replace HO := own_below HO hb
        replace NBX := NBX.belowH hb
        replace HI := HI.belowH hb
        replace HB := HB.trans (hb.mono (by omega))
        replace hs0 : w0.heap.size ≤ v4.heap.size := Nat.le_trans hs0 hb.size
        clear hb
        clear CA
        cases ok with
        | false =>
          go_wp2_with fail
          refine (olay_no t _ _ _ v4).mono ?_
          rintro e v5 ⟨rfl, rfl⟩
          have NO : Zo.adAt s.dom name 28 x.nm = [] := by rw [YES.out]; rfl
          rw [← List.append_nil (((C.take k).map Nv.nm).flatMap (Zo.adAt s.dom name 28))] at HI
          have MR := MORE.out
          rw [NO] at MR
          have HM := Lib.hid MR
          clear MR
          go_wp2
          go_roundw
          case rel => exact ⟨k + 1, by omega, by go_num, HI.eq (by rw [HM.out]), HO, hs0, HB⟩
          case measure => simp [intOf]; omega
        | true =>
          have CL := olay_yes name 28 t (w.heap.size + 1 + 1 + 1) (w.heap.size + 1) (w.heap.size + 1 + 1) w0.heap.size (((C.take k).map Nv.nm).flatMap (Zo.adAt s.dom name 28)) v4 (X1.below HB (by omega)) (X2.below HB (by omega)) HI (by omega) hs0 (by have := FEW.out; omega)
          go_wp2_with fail
          refine CL.mono ?_
          clear CL
          rintro e v5 ⟨rfl, HI2, hk, hb⟩
          replace HO := hk.own HO (by decide) (by decide)
          replace NBX := hk.box NBX (by decide) (by decide)
          replace HI := HI2
          replace HB := HB.trans hb
          replace hs0 : w0.heap.size ≤ v5.heap.size := Nat.le_trans hs0 hb.size
          clear hb hk HI2
          have NO : Zo.adAt s.dom name 28 x.nm = [t] := by rw [YES.out]; rfl
          have MR := MORE.out
          rw [NO] at MR
          have HM := Lib.hid MR
          clear MR
          go_wp2
          go_roundw
          case rel => exact ⟨k + 1, by omega, by go_num, HI.eq (by rw [HM.out]), HO, hs0, HB⟩
          case measure => simp [intOf]; omega
    · skip
      have E1 : Hid (Zo.datas s.sc name 28 = ((C.take k).map Nv.nm).flatMap (Zo.adAt s.dom name 28)) := Lib.hid (by rw [ED2.out, List.take_of_length_le (by have := HLC.out; omega)])
      obtain ⟨A9, n9, c9, XO9, hn9, own9⟩ := HI
      have o9 := XO9.at 0 rfl
      have E9 : Hid (Zo.tell s.sc name 28 = (((C.take k).map Nv.nm).flatMap (Zo.adAt s.dom name 28)).map (Zo.rcd name 28)) := Lib.hid (by show (Zo.datas s.sc name 28).map _ = _; rw [E1.out])
      go_wp2
      go_ret
      exact ⟨A9, n9, c9, rfl, by rw [E9.out, List.length_map]; exact hn9.out, by rw [E9.out]; exact Rd.of_own own9, own_cap own9, bw.trans (HB.mono (by omega))⟩
set_option maxHeartbeats 8000000 in
set_option maxRecDepth 20000 in
theorem otellN (s : Sn) (name : List UInt8) (typ : Int) (w : World) (h : SnRd w s) (ha : SnArg s) (hn : name.length ≤ 1000) (HT : TyOk typ) (n1 : typ ≠ 1) (n28 : typ ≠ 28) (n2 : typ ≠ 2) (n6 : typ ≠ 6) (n33 : typ ≠ 33) : Calls Tryz.prog 17 #[snval s, .string (strB name), .int .i64 typ] w (RdRc (Zo.tell s.sc name typ) w) := by
  have X0 := (((Box.new w #[.slice s.v.A s.v.n s.v.c, .slice s.B s.m s.d, .string (strB s.dom)] 25).alloc (.cells #[.string (strB name)] 9)).alloc (.cells #[.int .i64 typ] 3)).alloc (.cells #[.slice none 0 0] 39)
  have X1 := ((Box.new (w.alloc (.cells #[.slice s.v.A s.v.n s.v.c, .slice s.B s.m s.d, .string (strB s.dom)] 25)) #[.string (strB name)] 9).alloc (.cells #[.int .i64 typ] 3)).alloc (.cells #[.slice none 0 0] 39)
  have X2 := (Box.new ((w.alloc (.cells #[.slice s.v.A s.v.n s.v.c, .slice s.B s.m s.d, .string (strB s.dom)] 25)).alloc (.cells #[.string (strB name)] 9)) #[.int .i64 typ] 3).alloc (.cells #[.slice none 0 0] 39)
  have X3 := Box.new (((w.alloc (.cells #[.slice s.v.A s.v.n s.v.c, .slice s.B s.m s.d, .string (strB s.dom)] 25)).alloc (.cells #[.string (strB name)] 9)).alloc (.cells #[.int .i64 typ] 3)) #[.slice none 0 0] 39
  simp only [World.size_alloc] at X1 X2 X3
  have bw : Below w.heap.size w ((((w.alloc (.cells #[.slice s.v.A s.v.n s.v.c, .slice s.B s.m s.d, .string (strB s.dom)] 25)).alloc (.cells #[.string (strB name)] 9)).alloc (.cells #[.int .i64 typ] 3)).alloc (.cells #[.slice none 0 0] 39)) := (((((Below.refl w.heap.size w).alloc (Nat.le_refl _) _).alloc (by simp) _).alloc (by simp; omega) _).alloc (by simp; omega) _)
  have hob : w.heap.size + 1 + 1 + 1 < ((((w.alloc (.cells #[.slice s.v.A s.v.n s.v.c, .slice s.B s.m s.d, .string (strB s.dom)] 25)).alloc (.cells #[.string (strB name)] 9)).alloc (.cells #[.int .i64 typ] 3)).alloc (.cells #[.slice none 0 0] 39)).heap.size := by simp
  have EG := egLay
  have ED : Hid (Zo.datas s.sc name typ = []) := Lib.hid (Zo.tell_none s.sc name n1 n28 n2 n6 n33)
  have KT : Hid (keyT typ = 0) := Lib.hid (by unfold keyT; rw [if_neg n1, if_neg n28])
  have KB : Hid (keyB typ = false) := Lib.hid (by unfold keyB; rw [decide_eq_false n1, decide_eq_false n28]; rfl)
  have f2 : (typ == 2) = false := beq_eq_false_iff_ne.2 n2
  have f6 : (typ == 6) = false := beq_eq_false_iff_ne.2 n6
  have f33 : (typ == 33) = false := beq_eq_false_iff_ne.2 n33
  clear n1 n28 n2 n6 n33
  have hd := ha.ok.dom
  simp only [snval]
  go_enter Tryz.func17, Tryz.ntmps17
  go_upto_region 4 with fail
  generalize ((((w.alloc (.cells #[.slice s.v.A s.v.n s.v.c, .slice s.B s.m s.d, .string (strB s.dom)] 25)).alloc (.cells #[.string (strB name)] 9)).alloc (.cells #[.int .i64 typ] 3)).alloc (.cells #[.slice none 0 0] 39)) = w0 at *
  have HI : OutI name typ (w.heap.size + 1 + 1 + 1) w0.heap.size [] w0 := ⟨none, 0, 0, X3, Lib.hid rfl, World.ownsRow_nil _ _ _ _⟩
  have HB : Below (w.heap.size + 1 + 1 + 1) w0 w0 := Below.refl _ _
  have hs0 : w0.heap.size ≤ w0.heap.size := Nat.le_refl _
  clear X3
  have x0 := (X0.below HB (by omega)).at 0 rfl
  have x1 := (X0.below HB (by omega)).at 1 rfl
  have x2 := (X0.below HB (by omega)).at 2 rfl
  have z0 := (X1.below HB (by omega)).at 0 rfl
  have t0 := (X2.below HB (by omega)).at 0 rfl
  refine wp_region_held_drew (S := (fun w' => w'.cell? ⟨w.heap.size + 1 + 1, 0, none⟩ = some (.int .i64 typ))) (by kernel_rfl) (by exact t0) (fun hHeld0 => ?_)
  refine tk 1 21 rfl hHeld0 ?_
  refine wpAnyH_ready (rs := [0]) (by kernel_rfl) (by simp) (AllReadyH.cons (o := ⟨some 20, _, _, _, _, _⟩) rfl (fun K hK => ?_) AllReadyH.nil)
  go_simp
  refine (okeys_any _).mono ?_
  rintro e v9 ⟨bk, rfl, hk, hb⟩
  replace hb : Below w0.heap.size w0 v9 := ((Below.refl w0.heap.size w0).drew).trans hb
  replace HI := HI.belowH hb
  replace HB := HB.trans (hb.mono (by omega))
  replace hs0 : w0.heap.size ≤ v9.heap.size := hb.size
  clear hb x0 x1 x2 z0 t0
  have t0 := (X2.below HB (by omega)).at 0 rfl
  have hlk := keys_look hk HT
  rw [KT.out, KB.out] at hlk
  go_simp
  refine hK.out _ _ (by exact t0) (fun hHeld1 => ?_)
  clear hK hHeld0 K
  try simp only [Act.put, sA, sB, sC]
  refine wpAnyH_ready (rs := [2]) (by kernel_rfl) (by simp) (AllReadyH.cons (o := ⟨some 22, _, _, _, _, _⟩) rfl (fun K hK => ?_) AllReadyH.nil)
  go_simp
  go_simp
  refine hK.out _ _ (by exact t0) (fun hHeld2 => ?_)
  clear hK hHeld1 K
  try simp only [Act.put, sA, sB, sC]
  refine tk 3 19 rfl hHeld2 ?_
  refine tk 4 23 rfl hHeld2 ?_
  refine tk 5 24 rfl hHeld2 ?_
  refine tk 6 13 rfl hHeld2 ?_
  refine tk 7 14 rfl hHeld2 ?_
  refine wpAnyH_done (by kernel_rfl) ?_ _
  skip
  clear t0
  have x0 := (X0.below HB (by omega)).at 0 rfl
  have x1 := (X0.below HB (by omega)).at 1 rfl
  have x2 := (X0.below HB (by omega)).at 2 rfl
  have z0 := (X1.below HB (by omega)).at 0 rfl
  have t0 := (X2.below HB (by omega)).at 0 rfl
  have CC := ocounting_any s v9 (h.belowH (bw.trans (HB.mono (by omega)))) ha.ok
  obtain ⟨C, eC⟩ : ∃ z, s.v.l.filter (cnv s.al) = z := ⟨_, rfl⟩
  rw [eC] at CC
  have HC : Hid (∀ x ∈ C, x.v.n ≤ 4000 ∧ (∀ y ∈ x.v.s.apps, y.val.length ≤ 140737488351232) ∧ SRd w x.v) := Lib.hid (by
    intro x hx
    rw [← eC] at hx
    have hm := (List.mem_filter.1 hx).1
    exact ⟨ha.ok.fit.2.1 x hm, ha.ok.val x.nm (List.mem_map.2 ⟨x, hm, rfl⟩), h.1.2 x hm⟩)
  have CN : Hid (C.length ≤ 1000) := Lib.hid (by rw [← eC]; exact Nat.le_trans (List.length_filter_le _ _) (by have h1 := h.1.len; have := ha.ok.fit.1; omega))
  have EC := Lib.hid eC
  simp only [snval] at CC
  clear eC
  go_wp2_with fail
  refine CC.mono ?_
  clear CC
  rintro e v1 ⟨Ac, nc, cc, rfl, hlc, HO, hb⟩
  clear x0 x1 x2 z0 t0
  replace HI := HI.belowH hb
  replace HB := HB.trans (hb.mono (by omega))
  replace hs0 : w0.heap.size ≤ v1.heap.size := Nat.le_trans hs0 hb.size
  clear hb
  have HLC := Lib.hid hlc
  have hnc : nc ≤ 1000 := by have := CN.out; omega
  clear hlc
  clear h
  go_wp2
  go_loopw [28] (fun i wr => ∃ (k : Nat), k ≤ nc ∧ i = .int .i64 (k : Int) ∧ OutI name typ (w.heap.size + 1 + 1 + 1) w0.heap.size [] wr ∧ wr.ownsRow v9.heap.size 53 4 (.slice Ac nc cc) nc (FC ncl C) ∧ w0.heap.size ≤ wr.heap.size ∧ Below (w.heap.size + 1 + 1 + 1) w0 wr) (fun i _ => nc - (intOf i).toNat)
  case atStart => exact ⟨0, Nat.zero_le _, rfl, HI, HO, hs0, HB⟩
  case round =>
    clear HI HO HB hs0
    obtain ⟨k, hk, rfl, HI, HO, hs0, HB⟩ := hrel
    by_cases hlt : k < nc
    · skip
      have hr := HC.out
      obtain ⟨bq, oq, x, e1, hbq, hx, hsx, d0, d1, d2, d3⟩ := (show VRd wr ⟨C, Ac, nc, cc⟩ from ⟨Rd.of_own HO, fun x hx => (hr x hx).2.2.belowH (bw.trans (HB.mono (by omega)))⟩).at hlt
      simp only at e1 hx
      subst e1
      have HX := Lib.hid hx
      have hxf := HC.out x (List.mem_of_getElem? hx)
      have HXN := Lib.hid hxf.1
      have HXV := Lib.hid hxf.2.1
      have HXS := Lib.hid hxf.2.2
      have hk0 : (0 : Int) ≤ (k : Int) := by omega
      clear hx hr hxf hsx
      have hb := (Below.refl wr.heap.size wr).alloc (Nat.le_refl _) (.cells #[.int .i64 x.node, .int .i64 x.v.s.gen, .int .i64 x.v.s.beat, .slice x.v.A x.v.n x.v.c] 53)
      have NBX := Box.new wr #[.int .i64 x.node, .int .i64 x.v.s.gen, .int .i64 x.v.s.beat, .slice x.v.A x.v.n x.v.c] 53
      replace HO := own_below HO hb
      replace HI := HI.belowH hb
      replace HB := HB.trans (hb.mono (by omega))
      replace hs0 : w0.heap.size ≤ (wr.alloc (.cells #[.int .i64 x.node, .int .i64 x.v.s.gen, .int .i64 x.v.s.beat, .slice x.v.A x.v.n x.v.c] 53)).heap.size := Nat.le_trans hs0 hb.size
      clear hb
      go_wp2
      go_roundw
      case rel => exact ⟨k + 1, by omega, by go_num, HI, HO, hs0, HB⟩
      case measure => simp [intOf]; omega
    · skip
      obtain ⟨A9, n9, c9, XO9, hn9, own9⟩ := HI
      have o9 := XO9.at 0 rfl
      have E9 : Hid (Zo.tell s.sc name typ = (([] : List (List UInt8))).map (Zo.rcd name typ)) := Lib.hid (by show (Zo.datas s.sc name typ).map _ = _; rw [ED.out])
      go_wp2
      go_ret
      exact ⟨A9, n9, c9, rfl, by rw [E9.out, List.length_map]; exact hn9.out, by rw [E9.out]; exact Rd.of_own own9, own_cap own9, bw.trans (HB.mono (by omega))⟩
end Go.Proofs.YtmbfldcmiabccaaGreatDoor

