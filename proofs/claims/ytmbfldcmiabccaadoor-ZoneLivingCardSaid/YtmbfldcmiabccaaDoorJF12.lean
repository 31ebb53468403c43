/- ZMem ORef9 ORef10 VRef5 VRef6 OArg (merged). -/
import Derived.Laws.StructEq
import Derived.Deep.DeepCutAuto
import Derived.Test.YtmbfldcmiabccaaDoorJF03
import Derived.Test.YtmbfldcmiabccaaDoorJF08
import Derived.Test.YtmbfldcmiabccaaDoorJF09
import Derived.Test.YtmbfldcmiabccaaDoorJF11
namespace Go.Proofs.YtmbfldcmiabccaaDoor
set_option linter.unusedVariables false
set_option linter.unusedSimpArgs false
open Go.RowKit
def qc (q : Qst) : List Value := [.string (strB q.name), .int .i64 q.typ, .int .i64 q.cls]
def rc (r : Rrc) : List Value := [.string (strB r.name), .int .i64 r.typ, .int .i64 r.cls, .int .i64 r.ttl, .string (strB r.data)]
def QC (l : List Qst) : List Value := FC qc l
def RC (l : List Rrc) : List Value := FC rc l
theorem rc_len (r : Rrc) : (rc r).length = 5 := rfl
theorem RC_len (l : List Rrc) : (RC l).length = l.length * 5 := FC_length rc_len l
section
variable {w : World} {B n k : Nat} {A : Option Addr}
theorem Rd.lenR {l : List Rrc} (h : Rd w B 5 A n (RC l)) : l.length = n := by have h1 := h.1; rw [RC_len] at h1; omega
theorem Rd.atR {l : List Rrc} (h : Rd w B 5 A n (RC l)) (hk : k < n) :
    ∃ b o r, A = some ⟨b, o, none⟩ ∧ b < B ∧ l[k]? = some r ∧ w.cell? ⟨b, o + k * 5, none⟩ = some (.string (strB r.name)) ∧ w.cell? ⟨b, o + k * 5 + 1, none⟩ = some (.int .i64 r.typ) ∧ w.cell? ⟨b, o + k * 5 + 2, none⟩ = some (.int .i64 r.cls) ∧ w.cell? ⟨b, o + k * 5 + 3, none⟩ = some (.int .i64 r.ttl) ∧ w.cell? ⟨b, o + k * 5 + 4, none⟩ = some (.string (strB r.data)) := by
  have hl := h.lenR
  obtain ⟨b, o, e, hb, hc⟩ := h.2 (by omega)
  obtain ⟨r, hr⟩ : ∃ r, l[k]? = some r := ⟨_, List.getElem?_eq_getElem (by omega)⟩
  have g : ∀ j, j < 5 → w.cell? ⟨b, o + k * 5 + j, none⟩ = (rc r)[j]? := fun j hj => by
    rw [← FC_at rc_len hr j hj, Nat.add_assoc]
    exact hc _ (by rw [RC_len]; omega)
  exact ⟨b, o, r, e, hb, hr, g 0 (by omega), g 1 (by omega), g 2 (by omega), g 3 (by omega), g 4 (by omega)⟩
end
/-- a packet with its lists' places -/
structure Pv where
  x : Pck
  A1 : Option Addr
  n1 : Nat
  c1 : Nat
  A2 : Option Addr
  n2 : Nat
  c2 : Nat
  A3 : Option Addr
  n3 : Nat
  c3 : Nat
  A4 : Option Addr
  n4 : Nat
  c4 : Nat
/-- a packet reads -/
def PRd (w : World) (u : Pv) : Prop := Rd w w.heap.size 3 u.A1 u.n1 (QC u.x.qs) ∧ Rd w w.heap.size 5 u.A2 u.n2 (RC u.x.an) ∧ Rd w w.heap.size 5 u.A3 u.n3 (RC u.x.au) ∧ Rd w w.heap.size 5 u.A4 u.n4 (RC u.x.mo)
theorem PRd.belowH {w w' : World} {u : Pv} (h : PRd w u) (hb : Below w.heap.size w w') : PRd w' u := ⟨h.1.belowH hb, h.2.1.belowH hb, h.2.2.1.belowH hb, h.2.2.2.belowH hb⟩
end Go.Proofs.YtmbfldcmiabccaaDoor

namespace Go.Proofs.YtmbfldcmiabccaaDoor
set_option linter.unusedVariables false
set_option linter.unusedSimpArgs false
open Go.RowKit
/-- a record's value -/
def rrv (r : Rrc) : Value := .agg #[.string (strB r.name), .int .i64 r.typ, .int .i64 r.cls, .int .i64 r.ttl, .string (strB r.data)]
def RecB (r : Rrc) (b : Bool) (w : World) (e : Ending) (w' : World) : Prop := e = .returned (.tuple #[rrv r, .bool b]) ∧ Below w.heap.size w w'
def Zo.startOf (dom : List UInt8) : Rrc × Bool := if (Zo.first dom).2 = true then (⟨dom, 6, 1, 5, (Zo.first dom).1⟩, true) else (⟨[], 0, 0, 0, []⟩, false)
theorem start_of (s : Scn) : Zo.start s = Zo.startOf s.dom := rfl
/-- a scene that can be looked at -/
def SnLook (w : World) (s : Sn) : Prop := SnRd w s ∧ s.v.n * 48 ≤ 140737488351232 ∧ (∀ x ∈ s.v.l, x.v.n * 32 ≤ 140737488351232 ∧ ∀ y ∈ x.v.s.apps, y.val.length ≤ 140737488351232)
def SnGreat (s : Sn) : Bool := vgreatB s.v.l || decide (50 < s.m) || decide (500 < s.dom.length)
set_option maxHeartbeats 1000000 in
theorem rogreat_any (s : Sn) (w : World) (h : SnLook w s) : Calls Tryd.prog 8 #[snval s] w (BoB (SnGreat s) w) := by
  obtain ⟨hrd, hn, hx⟩ := h
  have X := Box.new w (sncs s) 25
  have b := (Below.refl w.heap.size w).alloc (Nat.le_refl _) (.cells (sncs s) 25)
  have C := rvgreat_any s.v _ (hrd.alloc (.cells (sncs s) 25)).1 hn hx
  obtain ⟨dl, hdl⟩ : ∃ q, s.dom.length = q := ⟨_, rfl⟩
  have hsz : ((strB s.dom).size : Int) = (dl : Int) := by rw [strB_size, hdl]
  have HE : Hid (SnGreat s = (vgreatB s.v.l || decide (50 < s.m) || decide (500 < dl))) := Lib.hid (by unfold SnGreat; rw [hdl])
  obtain ⟨g, hg⟩ : ∃ z, SnGreat s = z := ⟨_, rfl⟩
  rw [hg] at HE ⊢
  clear hg hdl hrd hn hx
  obtain ⟨⟨l, A, n, c⟩, al, B, m, d, dom⟩ := s
  simp only [snval, sncs, vval] at *
  have x0 := X.at 0 rfl
  have x1 := X.at 1 rfl
  have x2 := X.at 2 rfl
  go_enter Tryd.func8, Tryd.ntmps8
  go_wp2_with fail
  refine C.mono ?_
  clear C
  generalize w.alloc (.cells #[.slice A n c, .slice B m d, .string (strB dom)] 25) = w0 at *
  rintro e w1 ⟨rfl, hb⟩
  replace X := X.belowH hb
  replace b := b.trans (hb.mono b.size)
  clear hb x0 x1 x2
  have x1 := X.at 1 rfl
  have x2 := X.at 2 rfl
  obtain ⟨z1, hz1⟩ : ∃ z, vgreatB l = z := ⟨_, rfl⟩
  rw [hz1] at HE ⊢
  clear hz1
  cases z1
  · by_cases h1 : 50 < m
    · have f1 : decide ((50 : Int) < (m : Int)) = true := decide_eq_true (by omega)
      have f1' : decide (50 < m) = true := decide_eq_true h1
      have Z : Hid (g = true) := Lib.hid (by rw [HE.out, f1']; rfl)
      go_wp2
      go_ret
      exact ⟨ret_bool Z.out.symm, b⟩
    · have f1 : decide ((50 : Int) < (m : Int)) = false := decide_eq_false (by omega)
      have f1' : decide (50 < m) = false := decide_eq_false h1
      obtain ⟨z2, hz2⟩ : ∃ z, decide ((500 : Int) < (dl : Int)) = z := ⟨_, rfl⟩
      have hz3 : decide (500 < dl) = z2 := by rw [← hz2]; exact decide_eq_decide.2 (by omega)
      have Z : Hid (g = z2) := Lib.hid (by rw [HE.out, f1', hz3]; rfl)
      cases z2
      · go_wp2
        go_ret
        exact ⟨ret_bool Z.out.symm, b⟩
      · go_wp2
        go_ret
        exact ⟨ret_bool Z.out.symm, b⟩
  · have Z : Hid (g = true) := Lib.hid (by rw [HE.out]; rfl)
    go_wp2
    go_ret
    exact ⟨ret_bool Z.out.symm, b⟩
end Go.Proofs.YtmbfldcmiabccaaDoor

namespace Go.Proofs.YtmbfldcmiabccaaDoor
set_option linter.unusedVariables false
set_option linter.unusedSimpArgs false
open Go.RowKit
theorem rc_one (r : Rrc) : ∀ u ∈ rc r, u.oneCell' = true := by
  intro u hu
  simp only [rc, List.mem_cons, List.not_mem_nil, or_false] at hu
  rcases hu with rfl | rfl | rfl | rfl | rfl <;> rfl
theorem recT : SlT Tryd.prog 29 46 (.agg #[.string ⟨#[]⟩, .int .i64 0, .int .i64 0, .int .i64 0, .string ⟨#[]⟩]) 5 56 := ⟨Tryd.underlying29, by kernel_rfl, rfl, by omega⟩
/-- records that were made -/
def OwnRc (l : List Rrc) (w : World) (e : Ending) (w' : World) : Prop :=
  ∃ (A : Option Addr) (n c : Nat), e = .returned (.slice A n c) ∧ l.length = n ∧ w'.ownsRow w.heap.size 46 5 (.slice A n c) n (RC l) ∧ Below w.heap.size w w'
end Go.Proofs.YtmbfldcmiabccaaDoor

namespace Go.Proofs.YtmbfldcmiabccaaDoor
set_option linter.unusedVariables false
set_option linter.unusedSimpArgs false
open Go.RowKit

end Go.Proofs.YtmbfldcmiabccaaDoor

namespace Go.Proofs.YtmbfldcmiabccaaDoor
set_option linter.unusedVariables false
set_option linter.unusedSimpArgs false
open Go.RowKit

noncomputable def vrightB (l : List Nm) : Bool := open Classical in decide (V.right l)
theorem vrightB_iff {l : List Nm} {b : Bool} (h : b = true ↔ V.right l) : b = vrightB l := by
  unfold vrightB
  by_cases hr : V.right l
  · rw [h.2 hr]; simp [hr]
  · cases b
    · simp [hr]
    · exact absurd (h.1 rfl) hr
theorem vrightB_no {l : List Nm} (h : ¬ V.right l) : vrightB l = false := (vrightB_iff (b := false) ⟨(fun e => by cases e), fun hr => absurd hr h⟩).symm
theorem vrightB_yes {l : List Nm} (h : V.right l) : vrightB l = true := (vrightB_iff (b := true) ⟨fun _ => h, fun _ => rfl⟩).symm
theorem vrightB_out {l : List Nm} (h : vrightB l = true) : V.right l := by
  by_cases hr : V.right l
  · exact hr
  · rw [vrightB_no hr] at h; cases h
theorem riseV_snoc {l : List Nm} {z : Nm} : V.rising (l ++ [z]) ↔ V.rising l ∧ ∀ y ∈ l, y.node < z.node := by
  induction l with
  | nil => simp [V.rising]
  | cons x r ih =>
    rw [List.cons_append, V.rising, V.rising, ih]
    constructor
    · rintro ⟨h1, h2, h3⟩
      refine ⟨⟨fun y hy => h1 y (by simp [hy]), h2⟩, fun y hy => ?_⟩
      rcases List.mem_cons.1 hy with rfl | hy
      · exact h1 z (by simp)
      · exact h3 y hy
    · rintro ⟨⟨h1, h2⟩, h3⟩
      refine ⟨fun y hy => ?_, h2, fun y hy => h3 y (by simp [hy])⟩
      rcases List.mem_append.1 hy with hy | hy
      · exact h1 y hy
      · obtain rfl : y = z := by simpa using hy
        exact h3 x (by simp)
theorem riseV_at {l : List Nm} (h : V.rising l) {i j : Nat} {x y : Nm} (hij : i < j) (hx : l[i]? = some x) (hy : l[j]? = some y) : x.node < y.node := by
  induction l generalizing i j with
  | nil => simp at hx
  | cons z r ih =>
    cases j with
    | zero => omega
    | succ j =>
      rw [List.getElem?_cons_succ] at hy
      cases i with
      | zero =>
        obtain rfl : z = x := by simpa using hx
        exact h.1 y (List.mem_of_getElem? hy)
      | succ i =>
        rw [List.getElem?_cons_succ] at hx
        exact ih h.2 (by omega) hx hy
theorem rightV_snoc {l : List Nm} {x : Nm} (h : V.right l) (hm : V.may x) (hlt : ∀ y ∈ l, y.node < x.node) : V.right (l ++ [x]) := by
  refine ⟨fun y hy => ?_, riseV_snoc.2 ⟨h.2, hlt⟩⟩
  rcases List.mem_append.1 hy with hy | hy
  · exact h.1 y hy
  · obtain rfl : y = x := by simpa using hy
    exact hm
theorem below_lastV {l : List Nv} {k : Nat} {z x : Nv} (hr : V.rising ((l.take k).map Nv.nm)) (hz : (l.map Nv.nm)[k - 1]? = some z.nm) (hzx : z.node < x.node) (hk : 0 < k) : ∀ y ∈ (l.take k).map Nv.nm, y.node < x.nm.node := by
  intro y hy
  obtain ⟨i, hi, rfl⟩ := List.mem_iff_getElem.1 hy
  have hil : i < k := by rw [List.length_map, List.length_take] at hi; omega
  have hz2 : ((l.take k).map Nv.nm)[k - 1]? = some z.nm := by
    rw [List.getElem?_map] at hz ⊢
    rw [List.getElem?_take, if_pos (by omega)]
    exact hz
  by_cases h : i = k - 1
  · subst h
    rw [List.getElem?_eq_getElem hi] at hz2
    injection hz2 with hz2
    rw [hz2]; exact hzx
  · have h1 := riseV_at hr (show i < k - 1 by omega) (List.getElem?_eq_getElem hi) hz2
    have h2 : z.nm.node < x.nm.node := hzx
    omega

set_option maxHeartbeats 8000000 in
set_option maxRecDepth 20000 in
theorem rvright_any (U : Vw) (w : World) (h : VRd w U) (hn : U.n ≤ 1000) (hf : VFit U) :
    Calls Tryd.prog 9 #[vval U] w fun e w' => e = .returned (.bool (vrightB U.view)) ∧ Below w.heap.size w w' := by
  obtain ⟨l, A, n, c⟩ := U
  have hl := h.len
  simp only at hn hl hf
  have HL := Lib.hid hl
  have HF := Lib.hid hf
  clear hl hf
  simp only [vval]
  go_enter Tryd.func9, Tryd.ntmps9
  go_wp2
  go_loopw [3] (fun i wr => ∃ k : Nat, k ≤ n ∧ i = .int .i64 k ∧ V.right ((l.take k).map Nv.nm) ∧ Below w.heap.size w wr) (fun i _ => n - (intOf i).toNat)
  case atStart => exact ⟨0, by omega, rfl, ⟨by simp, (trivial : V.rising [])⟩, Below.refl _ _⟩
  case round =>
    obtain ⟨k, hk, rfl, hno, hbel⟩ := hrel
    have HN := Lib.hid hno
    have hbs := hbel.size
    clear hno
    by_cases hlt : k < n
    · obtain ⟨b, o, x, e1, hb, hx, hsx, c0, c1', c2, c3⟩ := (h.belowH hbel).at hlt
      have hk0 : (0 : Int) ≤ (k : Int) := by omega
      have hfx := HF.out x (List.mem_of_getElem? hx)
      have hxm : (l.map Nv.nm)[k]? = some x.nm := nm_at hx
      have HX := Lib.hid hxm
      have hxl : x.nm ∈ l.map Nv.nm := List.mem_of_getElem? hxm
      have HXL := Lib.hid hxl
      have htk : (l.take (k + 1)).map Nv.nm = (l.take k).map Nv.nm ++ [x.nm] := by rw [take_more hx, List.map_append]; rfl
      have HTK := Lib.hid htk
      clear hxm hxl htk
      by_cases h0 : x.node < 0
      · have HNO : Hid (vrightB (l.map Nv.nm) = false) := Lib.hid (vrightB_no fun hr => absurd (hr.1 x.nm HXL.out).1 (by show ¬ 0 ≤ x.node; omega))
        have t0 : decide (x.node < 0) = true := decide_eq_true h0
        simp only at e1 hx
        subst e1
        clear hx
        go_wp2
        refine wp_region_held_drew (S := (fun w' => w'.cell? ⟨b, o + k * 4, none⟩ = some (.int .i64 x.node) ∧ w'.cell? ⟨b, o + k * 4 + 1, none⟩ = some (.int .i64 x.v.s.gen) ∧ w'.cell? ⟨b, o + k * 4 + 2, none⟩ = some (.int .i64 x.v.s.beat) ∧ w'.cell? ⟨b, o + k * 4 + 3, none⟩ = some (.slice x.v.A x.v.n x.v.c))) (by kernel_rfl) (by exact ⟨c0, c1', c2, c3⟩) (fun hHeld0 => ?_)
        refine tk 0 10 rfl hHeld0 ?_
        refine tk 1 11 rfl hHeld0 ?_
        refine tk 2 12 rfl hHeld0 ?_
        refine tk 3 13 rfl hHeld0 ?_
        refine tk 4 14 rfl hHeld0 ?_
        refine tk 5 15 rfl hHeld0 ?_
        refine tk 6 16 rfl hHeld0 ?_
        refine tu 7 17 rfl hHeld0 ?_
        refine tu 8 18 rfl hHeld0 ?_
        refine tu 9 19 rfl hHeld0 ?_
        refine tu 10 20 rfl hHeld0 ?_
        refine tu 11 21 rfl hHeld0 ?_
        refine tu 12 22 rfl hHeld0 ?_
        refine tk 13 23 rfl hHeld0 ?_
        refine tk 14 24 rfl hHeld0 ?_
        refine tu 15 25 rfl hHeld0 ?_
        refine tu 16 26 rfl hHeld0 ?_
        refine tu 17 27 rfl hHeld0 ?_
        refine tu 18 28 rfl hHeld0 ?_
        refine tu 19 29 rfl hHeld0 ?_
        refine tu 20 30 rfl hHeld0 ?_
        refine tu 21 31 rfl hHeld0 ?_
        refine tu 22 32 rfl hHeld0 ?_
        refine tu 23 33 rfl hHeld0 ?_
        refine tu 24 34 rfl hHeld0 ?_
        refine tu 25 35 rfl hHeld0 ?_
        refine tu 26 36 rfl hHeld0 ?_
        refine tu 27 37 rfl hHeld0 ?_
        refine tu 28 38 rfl hHeld0 ?_
        refine tu 29 39 rfl hHeld0 ?_
        refine tu 30 40 rfl hHeld0 ?_
        refine tk 31 41 rfl hHeld0 ?_
        refine tk 32 42 rfl hHeld0 ?_
        refine tu 33 43 rfl hHeld0 ?_
        refine tu 34 44 rfl hHeld0 ?_
        refine tu 35 45 rfl hHeld0 ?_
        refine tu 36 46 rfl hHeld0 ?_
        refine tu 37 47 rfl hHeld0 ?_
        refine tu 38 48 rfl hHeld0 ?_
        refine tu 39 49 rfl hHeld0 ?_
        refine tk 40 50 rfl hHeld0 ?_
        refine wpAnyH_done (by kernel_rfl) ?_ _
        go_wp2
        go_ret
        exact ⟨ret_bool HNO.out.symm, hbel.drew⟩
      · have t0 : decide (x.node < 0) = false := decide_eq_false h0
        have t0' : ¬ x.node < 0 := h0
        by_cases h8 : 8 ≤ x.node
        · have HNO : Hid (vrightB (l.map Nv.nm) = false) := Lib.hid (vrightB_no fun hr => absurd (hr.1 x.nm HXL.out).2.1 (by show ¬ x.node < 8; omega))
          have t8 : decide (8 ≤ x.node) = true := decide_eq_true h8
          simp only at e1 hx
          subst e1
          clear hx
          go_wp2
          refine wp_region_held_drew (S := (fun w' => w'.cell? ⟨b, o + k * 4, none⟩ = some (.int .i64 x.node) ∧ w'.cell? ⟨b, o + k * 4 + 1, none⟩ = some (.int .i64 x.v.s.gen) ∧ w'.cell? ⟨b, o + k * 4 + 2, none⟩ = some (.int .i64 x.v.s.beat) ∧ w'.cell? ⟨b, o + k * 4 + 3, none⟩ = some (.slice x.v.A x.v.n x.v.c))) (by kernel_rfl) (by exact ⟨c0, c1', c2, c3⟩) (fun hHeld0 => ?_)
          refine tk 0 10 rfl hHeld0 ?_
          refine tk 1 11 rfl hHeld0 ?_
          refine tk 2 12 rfl hHeld0 ?_
          refine tk 3 13 rfl hHeld0 ?_
          refine tk 4 14 rfl hHeld0 ?_
          refine tk 5 15 rfl hHeld0 ?_
          refine tk 6 16 rfl hHeld0 ?_
          refine tk 7 17 rfl hHeld0 ?_
          refine tk 8 18 rfl hHeld0 ?_
          refine tk 9 19 rfl hHeld0 ?_
          refine tk 10 20 rfl hHeld0 ?_
          refine tk 11 21 rfl hHeld0 ?_
          refine tk 12 22 rfl hHeld0 ?_
          refine tk 13 23 rfl hHeld0 ?_
          refine tk 14 24 rfl hHeld0 ?_
          refine tu 15 25 rfl hHeld0 ?_
          refine tu 16 26 rfl hHeld0 ?_
          refine tu 17 27 rfl hHeld0 ?_
          refine tu 18 28 rfl hHeld0 ?_
          refine tu 19 29 rfl hHeld0 ?_
          refine tu 20 30 rfl hHeld0 ?_
          refine tu 21 31 rfl hHeld0 ?_
          refine tu 22 32 rfl hHeld0 ?_
          refine tu 23 33 rfl hHeld0 ?_
          refine tu 24 34 rfl hHeld0 ?_
          refine tu 25 35 rfl hHeld0 ?_
          refine tu 26 36 rfl hHeld0 ?_
          refine tu 27 37 rfl hHeld0 ?_
          refine tu 28 38 rfl hHeld0 ?_
          refine tu 29 39 rfl hHeld0 ?_
          refine tu 30 40 rfl hHeld0 ?_
          refine tk 31 41 rfl hHeld0 ?_
          refine tk 32 42 rfl hHeld0 ?_
          refine tu 33 43 rfl hHeld0 ?_
          refine tu 34 44 rfl hHeld0 ?_
          refine tu 35 45 rfl hHeld0 ?_
          refine tu 36 46 rfl hHeld0 ?_
          refine tu 37 47 rfl hHeld0 ?_
          refine tu 38 48 rfl hHeld0 ?_
          refine tu 39 49 rfl hHeld0 ?_
          refine tk 40 50 rfl hHeld0 ?_
          refine wpAnyH_done (by kernel_rfl) ?_ _
          go_wp2
          go_ret
          exact ⟨ret_bool HNO.out.symm, hbel.drew⟩
        · have t8 : decide (8 ≤ x.node) = false := decide_eq_false h8
          have HM : Hid (0 ≤ x.node ∧ x.node < 8) := Lib.hid ⟨by omega, by omega⟩
          by_cases hkp : 0 < k
          · obtain ⟨b', o', z, e2, hb', hz, _, f0, _, _, _⟩ := (h.belowH hbel).at (show k - 1 < n by omega)
            simp only at e1 e2 hz
            rw [e1] at e2
            obtain ⟨rfl, rfl⟩ : b = b' ∧ o = o' := by simpa using e2
            have hzm : (l.map Nv.nm)[k - 1]? = some z.nm := nm_at hz
            have HZ := Lib.hid hzm
            have g1i : (0 : Int) ≤ (k : Int) - 1 := by omega
            have g1' : (1 : Int) ≤ (k : Int) := by omega
            have g2i : (k : Int) - 1 < (n : Int) := by omega
            have g3i : ((k : Int) - 1).toNat = k - 1 := by omega
            have hkd : decide ((0 : Int) < (k : Int)) = true := decide_eq_true (by omega)
            clear hz hzm e2
            by_cases hzx : z.node < x.node
            · have td : decide (x.node ≤ z.node) = false := decide_eq_false (by omega)
              have HZX := Lib.hid hzx
              simp only at hx
              subst e1
              clear hx hzx
              go_wp2
              have g4i : IntKind.i64.wrap ((k : Int) - 1) = (k : Int) - 1 := IntWalk.i64_in _ (by omega)
              refine wp_region_held_drew (S := (fun w' => (w'.cell? ⟨b, o + k * 4, none⟩ = some (.int .i64 x.node) ∧ w'.cell? ⟨b, o + k * 4 + 1, none⟩ = some (.int .i64 x.v.s.gen) ∧ w'.cell? ⟨b, o + k * 4 + 2, none⟩ = some (.int .i64 x.v.s.beat) ∧ w'.cell? ⟨b, o + k * 4 + 3, none⟩ = some (.slice x.v.A x.v.n x.v.c)) ∧ w'.cell? ⟨b, o + (k - 1) * 4, none⟩ = some (.int .i64 z.node))) (by kernel_rfl) (by exact ⟨⟨c0, c1', c2, c3⟩, f0⟩) (fun hHeld0 => ?_)
              refine tk 0 10 rfl hHeld0 ?_
              refine tk 1 11 rfl hHeld0 ?_
              refine tk 2 12 rfl hHeld0 ?_
              refine tk 3 13 rfl hHeld0 ?_
              refine tk 4 14 rfl hHeld0 ?_
              refine tk 5 15 rfl hHeld0 ?_
              refine tk 6 16 rfl hHeld0 ?_
              refine tk 7 17 rfl hHeld0 ?_
              refine tk 8 18 rfl hHeld0 ?_
              refine tk 9 19 rfl hHeld0 ?_
              refine tk 10 20 rfl hHeld0 ?_
              refine tk 11 21 rfl hHeld0 ?_
              refine tk 12 22 rfl hHeld0 ?_
              refine tk 13 23 rfl hHeld0 ?_
              refine tk 14 24 rfl hHeld0 ?_
              refine tk 15 25 rfl hHeld0 ?_
              refine tk 16 26 rfl hHeld0 ?_
              refine tk 17 27 rfl hHeld0 ?_
              refine tk 18 28 rfl hHeld0 ?_
              refine tk 19 29 rfl hHeld0 ?_
              refine tk 20 30 rfl hHeld0 ?_
              refine tk 21 31 rfl hHeld0 ?_
              refine tk 22 32 rfl hHeld0 ?_
              refine tk 23 33 rfl hHeld0 ?_
              refine tk 24 34 rfl hHeld0 ?_
              refine tk 25 35 rfl hHeld0 ?_
              refine tk 26 36 rfl hHeld0 ?_
              refine tk 27 37 rfl hHeld0 ?_
              refine tk 28 38 rfl hHeld0 ?_
              refine tk 29 39 rfl hHeld0 ?_
              refine tk 30 40 rfl hHeld0 ?_
              refine tk 31 41 rfl hHeld0 ?_
              refine tk 32 42 rfl hHeld0 ?_
              refine tk 33 43 rfl hHeld0 ?_
              refine tk 34 44 rfl hHeld0 ?_
              refine tk 35 45 rfl hHeld0 ?_
              refine tk 36 46 rfl hHeld0 ?_
              refine tk 37 47 rfl hHeld0 ?_
              refine wpAnyH_ready (rs := [38]) (by kernel_rfl) (by simp) (AllReadyH.cons (o := ⟨some 48, _, _, _, _, _⟩) rfl (fun K hK => ?_) AllReadyH.nil)
              go_simp
              refine (rsright_any x.v _ hsx.drew (by omega)).mono ?_
              rintro e w2 ⟨rfl, hb2⟩
              have hb2' : Below wr.heap.size wr w2 := (Below.refl _ _).drew.trans hb2
              replace c0 := (hb2'.cell (p := ⟨b, o + k * 4, none⟩) hb).trans c0
              replace c1' := (hb2'.cell (p := ⟨b, o + k * 4 + 1, none⟩) hb).trans c1'
              replace c2 := (hb2'.cell (p := ⟨b, o + k * 4 + 2, none⟩) hb).trans c2
              replace c3 := (hb2'.cell (p := ⟨b, o + k * 4 + 3, none⟩) hb).trans c3
              replace f0 := (hb2'.cell (p := ⟨b, o + (k - 1) * 4, none⟩) hb).trans f0
              clear hb2
              rcases hs : srightB x.v.s
              · have HS := Lib.hid hs
                clear hs
                go_simp
                refine hK.out _ _ (by exact ⟨⟨c0, c1', c2, c3⟩, f0⟩) (fun hHeld1 => ?_)
                clear hK hHeld0 K
                try simp only [Act.put, sA, sB, sC]
                refine tk 39 49 rfl hHeld1 ?_
                refine tk 40 50 rfl hHeld1 ?_
                refine wpAnyH_done (by kernel_rfl) ?_ _
                have HNO : Hid (vrightB (l.map Nv.nm) = false) := Lib.hid (vrightB_no fun hr => by have h1 := srightB_yes (hr.1 x.nm HXL.out).2.2; rw [show srightB x.nm.st = false from HS.out] at h1; cases h1)
                go_wp2
                go_ret
                exact ⟨ret_bool HNO.out.symm, hbel.trans (hb2'.mono hbs)⟩
              · have HS := Lib.hid hs
                clear hs
                go_simp
                refine hK.out _ _ (by exact ⟨⟨c0, c1', c2, c3⟩, f0⟩) (fun hHeld1 => ?_)
                clear hK hHeld0 K
                try simp only [Act.put, sA, sB, sC]
                refine tk 39 49 rfl hHeld1 ?_
                refine tk 40 50 rfl hHeld1 ?_
                refine wpAnyH_done (by kernel_rfl) ?_ _
                go_wp2
                go_roundw
                case rel => exact ⟨k + 1, by omega, by go_num, by rw [HTK.out]; exact rightV_snoc HN.out ⟨HM.out.1, HM.out.2, srightB_out HS.out⟩ (below_lastV HN.out.2 HZ.out HZX.out (by omega)), hbel.trans (hb2'.mono hbs)⟩
                case measure => simp [intOf]; omega
            · have td : decide (x.node ≤ z.node) = true := decide_eq_true (by omega)
              have HNO : Hid (vrightB (l.map Nv.nm) = false) := Lib.hid (vrightB_no fun hr => hzx (riseV_at hr.2 (show k - 1 < k by omega) HZ.out HX.out))
              simp only at hx
              subst e1
              clear hx
              go_wp2
              have g4i : IntKind.i64.wrap ((k : Int) - 1) = (k : Int) - 1 := IntWalk.i64_in _ (by omega)
              refine wp_region_held_drew (S := (fun w' => (w'.cell? ⟨b, o + k * 4, none⟩ = some (.int .i64 x.node) ∧ w'.cell? ⟨b, o + k * 4 + 1, none⟩ = some (.int .i64 x.v.s.gen) ∧ w'.cell? ⟨b, o + k * 4 + 2, none⟩ = some (.int .i64 x.v.s.beat) ∧ w'.cell? ⟨b, o + k * 4 + 3, none⟩ = some (.slice x.v.A x.v.n x.v.c)) ∧ w'.cell? ⟨b, o + (k - 1) * 4, none⟩ = some (.int .i64 z.node))) (by kernel_rfl) (by exact ⟨⟨c0, c1', c2, c3⟩, f0⟩) (fun hHeld0 => ?_)
              refine tk 0 10 rfl hHeld0 ?_
              refine tk 1 11 rfl hHeld0 ?_
              refine tk 2 12 rfl hHeld0 ?_
              refine tk 3 13 rfl hHeld0 ?_
              refine tk 4 14 rfl hHeld0 ?_
              refine tk 5 15 rfl hHeld0 ?_
              refine tk 6 16 rfl hHeld0 ?_
              refine tk 7 17 rfl hHeld0 ?_
              refine tk 8 18 rfl hHeld0 ?_
              refine tk 9 19 rfl hHeld0 ?_
              refine tk 10 20 rfl hHeld0 ?_
              refine tk 11 21 rfl hHeld0 ?_
              refine tk 12 22 rfl hHeld0 ?_
              refine tk 13 23 rfl hHeld0 ?_
              refine tk 14 24 rfl hHeld0 ?_
              refine tk 15 25 rfl hHeld0 ?_
              refine tk 16 26 rfl hHeld0 ?_
              refine tk 17 27 rfl hHeld0 ?_
              refine tk 18 28 rfl hHeld0 ?_
              refine tk 19 29 rfl hHeld0 ?_
              refine tk 20 30 rfl hHeld0 ?_
              refine tk 21 31 rfl hHeld0 ?_
              refine tk 22 32 rfl hHeld0 ?_
              refine tk 23 33 rfl hHeld0 ?_
              refine tk 24 34 rfl hHeld0 ?_
              refine tk 25 35 rfl hHeld0 ?_
              refine tk 26 36 rfl hHeld0 ?_
              refine tk 27 37 rfl hHeld0 ?_
              refine tk 28 38 rfl hHeld0 ?_
              refine tk 29 39 rfl hHeld0 ?_
              refine tk 30 40 rfl hHeld0 ?_
              refine tk 31 41 rfl hHeld0 ?_
              refine tk 32 42 rfl hHeld0 ?_
              refine tu 33 43 rfl hHeld0 ?_
              refine tu 34 44 rfl hHeld0 ?_
              refine tu 35 45 rfl hHeld0 ?_
              refine tu 36 46 rfl hHeld0 ?_
              refine tu 37 47 rfl hHeld0 ?_
              refine tu 38 48 rfl hHeld0 ?_
              refine tu 39 49 rfl hHeld0 ?_
              refine tk 40 50 rfl hHeld0 ?_
              refine wpAnyH_done (by kernel_rfl) ?_ _
              go_wp2
              go_ret
              exact ⟨ret_bool HNO.out.symm, hbel.drew⟩
          · have hk1 : ¬ (0 : Int) < (k : Int) := by omega
            have hkd : decide ((0 : Int) < (k : Int)) = false := decide_eq_false hk1
            simp only at e1 hx
            subst e1
            clear hx
            go_wp2
            refine wp_region_held_drew (S := (fun w' => w'.cell? ⟨b, o + k * 4, none⟩ = some (.int .i64 x.node) ∧ w'.cell? ⟨b, o + k * 4 + 1, none⟩ = some (.int .i64 x.v.s.gen) ∧ w'.cell? ⟨b, o + k * 4 + 2, none⟩ = some (.int .i64 x.v.s.beat) ∧ w'.cell? ⟨b, o + k * 4 + 3, none⟩ = some (.slice x.v.A x.v.n x.v.c))) (by kernel_rfl) (by exact ⟨c0, c1', c2, c3⟩) (fun hHeld0 => ?_)
            refine tk 0 10 rfl hHeld0 ?_
            refine tk 1 11 rfl hHeld0 ?_
            refine tk 2 12 rfl hHeld0 ?_
            refine tk 3 13 rfl hHeld0 ?_
            refine tk 4 14 rfl hHeld0 ?_
            refine tk 5 15 rfl hHeld0 ?_
            refine tk 6 16 rfl hHeld0 ?_
            refine tk 7 17 rfl hHeld0 ?_
            refine tk 8 18 rfl hHeld0 ?_
            refine tk 9 19 rfl hHeld0 ?_
            refine tk 10 20 rfl hHeld0 ?_
            refine tk 11 21 rfl hHeld0 ?_
            refine tk 12 22 rfl hHeld0 ?_
            refine tk 13 23 rfl hHeld0 ?_
            refine tk 14 24 rfl hHeld0 ?_
            refine tk 15 25 rfl hHeld0 ?_
            refine tk 16 26 rfl hHeld0 ?_
            refine tk 17 27 rfl hHeld0 ?_
            refine tu 18 28 rfl hHeld0 ?_
            refine tu 19 29 rfl hHeld0 ?_
            refine tu 20 30 rfl hHeld0 ?_
            refine tu 21 31 rfl hHeld0 ?_
            refine tu 22 32 rfl hHeld0 ?_
            refine tu 23 33 rfl hHeld0 ?_
            refine tu 24 34 rfl hHeld0 ?_
            refine tu 25 35 rfl hHeld0 ?_
            refine tu 26 36 rfl hHeld0 ?_
            refine tu 27 37 rfl hHeld0 ?_
            refine tu 28 38 rfl hHeld0 ?_
            refine tu 29 39 rfl hHeld0 ?_
            refine tk 30 40 rfl hHeld0 ?_
            refine tk 31 41 rfl hHeld0 ?_
            refine tk 32 42 rfl hHeld0 ?_
            refine tk 33 43 rfl hHeld0 ?_
            refine tk 34 44 rfl hHeld0 ?_
            refine tk 35 45 rfl hHeld0 ?_
            refine tk 36 46 rfl hHeld0 ?_
            refine tk 37 47 rfl hHeld0 ?_
            refine wpAnyH_ready (rs := [38]) (by kernel_rfl) (by simp) (AllReadyH.cons (o := ⟨some 48, _, _, _, _, _⟩) rfl (fun K hK => ?_) AllReadyH.nil)
            go_simp
            refine (rsright_any x.v _ hsx.drew (by omega)).mono ?_
            rintro e w2 ⟨rfl, hb2⟩
            have hb2' : Below wr.heap.size wr w2 := (Below.refl _ _).drew.trans hb2
            replace c0 := (hb2'.cell (p := ⟨b, o + k * 4, none⟩) hb).trans c0
            replace c1' := (hb2'.cell (p := ⟨b, o + k * 4 + 1, none⟩) hb).trans c1'
            replace c2 := (hb2'.cell (p := ⟨b, o + k * 4 + 2, none⟩) hb).trans c2
            replace c3 := (hb2'.cell (p := ⟨b, o + k * 4 + 3, none⟩) hb).trans c3
            clear hb2
            rcases hs : srightB x.v.s
            · have HS := Lib.hid hs
              clear hs
              go_simp
              refine hK.out _ _ (by exact ⟨c0, c1', c2, c3⟩) (fun hHeld1 => ?_)
              clear hK hHeld0 K
              try simp only [Act.put, sA, sB, sC]
              refine tk 39 49 rfl hHeld1 ?_
              refine tk 40 50 rfl hHeld1 ?_
              refine wpAnyH_done (by kernel_rfl) ?_ _
              have HNO : Hid (vrightB (l.map Nv.nm) = false) := Lib.hid (vrightB_no fun hr => by have h1 := srightB_yes (hr.1 x.nm HXL.out).2.2; rw [show srightB x.nm.st = false from HS.out] at h1; cases h1)
              go_wp2
              go_ret
              exact ⟨ret_bool HNO.out.symm, hbel.trans (hb2'.mono hbs)⟩
            · have HS := Lib.hid hs
              clear hs
              go_simp
              refine hK.out _ _ (by exact ⟨c0, c1', c2, c3⟩) (fun hHeld1 => ?_)
              clear hK hHeld0 K
              try simp only [Act.put, sA, sB, sC]
              refine tk 39 49 rfl hHeld1 ?_
              refine tk 40 50 rfl hHeld1 ?_
              refine wpAnyH_done (by kernel_rfl) ?_ _
              go_wp2
              go_roundw
              case rel => exact ⟨k + 1, by omega, by go_num, by rw [HTK.out]; exact rightV_snoc HN.out ⟨HM.out.1, HM.out.2, srightB_out HS.out⟩ (fun y hy => by rw [show k = 0 by omega] at hy; simp at hy), hbel.trans (hb2'.mono hbs)⟩
              case measure => simp [intOf]; omega
    · have he : vrightB (l.map Nv.nm) = true := vrightB_yes (by have := HN.out; rwa [List.take_of_length_le (by have := HL.out; omega)] at this)
      have HE := Lib.hid he
      clear he
      go_wp2
      go_ret
      exact ⟨ret_bool HE.out.symm, hbel⟩
end Go.Proofs.YtmbfldcmiabccaaDoor

namespace Go.Proofs.YtmbfldcmiabccaaDoor
set_option linter.unusedVariables false
set_option linter.unusedSimpArgs false
open Go.RowKit
/-- a scene that a call is given -/
structure SnArg (s : Sn) : Prop where
  ok : SnOk s
  right : V.right s.v.view
  cap1 : s.v.n ≤ s.v.c ∧ s.v.c ≤ 9223372036854775807
  cap2 : s.m ≤ s.d ∧ s.d ≤ 9223372036854775807
/-- ints that are answered -/
def RdI (l : List Int) (w : World) (e : Ending) (w' : World) : Prop :=
  ∃ (A : Option Addr) (n c : Nat), e = .returned (.slice A n c) ∧ l.length = n ∧ Rd w' w'.heap.size 1 A n (I l) ∧ (n ≤ c ∧ c ≤ 9223372036854775807) ∧ Below w.heap.size w w'
/-- records that are answered -/
def RdRc (l : List Rrc) (w : World) (e : Ending) (w' : World) : Prop :=
  ∃ (A : Option Addr) (n c : Nat), e = .returned (.slice A n c) ∧ l.length = n ∧ Rd w' w'.heap.size 5 A n (RC l) ∧ (n ≤ c ∧ c ≤ 9223372036854775807) ∧ Below w.heap.size w w'
theorem OwnI.rd {l : List Int} {w w' : World} {e : Ending} (h : OwnI l w e w') : RdI l w e w' := by
  obtain ⟨A, n, c, h1, h2, h3, h4⟩ := h
  exact ⟨A, n, c, h1, h2, Rd.of_own h3, own_cap h3, h4⟩
theorem OwnRc.rd {l : List Rrc} {w w' : World} {e : Ending} (h : OwnRc l w e w') : RdRc l w e w' := by
  obtain ⟨A, n, c, h1, h2, h3, h4⟩ := h
  exact ⟨A, n, c, h1, h2, Rd.of_own h3, own_cap h3, h4⟩
end Go.Proofs.YtmbfldcmiabccaaDoor

