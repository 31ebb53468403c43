/- The reference's Put on views. -/
import Derived.Test.YtoemefoppkgfaaaVRef2
namespace Go.Proofs.Ytoemefoppkgfaaa
set_option linter.unusedVariables false
set_option linter.unusedSimpArgs false
open Go.RowKit

namespace V
theorem put_lt {l : List Nm} {k : Int} {s : St} (h : ∀ y ∈ l, y.node < k) : put l k s = l ++ [⟨k, s⟩] := by
  induction l with
  | nil => rfl
  | cons z r ih =>
    simp only [put]
    rw [if_pos (h z (by simp)), ih (fun y hy => h y (by simp [hy]))]; rfl
theorem put_at {l : List Nm} {k : Int} {s : St} {z : Nm} (h : ∀ y ∈ l, y.node < k) (hz : k < z.node) : put (l ++ [z]) k s = l ++ [⟨k, s⟩] ++ [z] := by
  induction l with
  | nil =>
    simp only [List.nil_append, put]
    rw [if_neg (by omega), if_neg (by omega)]; rfl
  | cons y r ih =>
    simp only [List.cons_append, put]
    rw [if_pos (h y (by simp)), ih (fun w hw => h w (by simp [hw]))]
theorem put_snoc {l : List Nm} {k : Int} {s : St} {z : Nm} (h : ∃ y ∈ l, k < y.node) : put (l ++ [z]) k s = put l k s ++ [z] := by
  induction l with
  | nil => obtain ⟨y, hy, _⟩ := h; cases hy
  | cons w r ih =>
    simp only [List.cons_append, put]
    split
    · rename_i hlt
      rw [List.cons_append, ih]
      obtain ⟨y, hy, h2⟩ := h
      rcases List.mem_cons.1 hy with rfl | hy
      · omega
      · exact ⟨y, hy, h2⟩
    · split <;> rfl
theorem put_without_put {l : List Nm} (h : rising l) (k : Int) (s : St) : put (without l k) k s = put l k s :=
  rising_ext (put_rising (without_rising h k) k s) (put_rising h k s) fun j => by
    rw [get_put (without_rising h k), get_put h, get_without]
    by_cases hk : k = j
    · rw [if_pos hk, if_pos hk]
    · rw [if_neg hk, if_neg hk, if_neg hk]
end V
/-- how far Put has come over what is left without the endpoint -/
def VPutting (l : List Nm) (node : Int) (s : St) (k : Nat) (p : Bool) (O : List Nm) : Prop :=
  (p = false ∧ O = l.take k ∧ ∀ y ∈ l.take k, y.node < node) ∨ (p = true ∧ O = V.put (l.take k) node s ∧ ∃ y ∈ l.take k, node < y.node)
section
variable {l O : List Nm} {node : Int} {s : St} {k : Nat} {y : Nm}
theorem VPutting.start (l : List Nm) (node : Int) (s : St) : VPutting l node s 0 false [] := Or.inl ⟨rfl, rfl, by simp⟩
theorem VPutting.lower (h : VPutting l node s k false O) (hy : l[k]? = some y) (hlt : y.node < node) : VPutting l node s (k + 1) false (O ++ [y]) := by
  rcases h with ⟨_, rfl, ha⟩ | ⟨e, _⟩
  · refine Or.inl ⟨rfl, (take_more hy).symm, fun z hz => ?_⟩
    rw [take_more hy] at hz
    rcases List.mem_append.1 hz with hz | hz
    · exact ha z hz
    · obtain rfl : z = y := by simpa using hz
      exact hlt
  · cases e
theorem VPutting.upper (h : VPutting l node s k false O) (hy : l[k]? = some y) (hlt : node < y.node) : VPutting l node s (k + 1) true (O ++ [⟨node, s⟩] ++ [y]) := by
  rcases h with ⟨_, rfl, ha⟩ | ⟨e, _⟩
  · refine Or.inr ⟨rfl, ?_, y, by rw [take_more hy]; simp, hlt⟩
    rw [take_more hy, V.put_at ha hlt]
  · cases e
theorem VPutting.more (h : VPutting l node s k true O) (hy : l[k]? = some y) : VPutting l node s (k + 1) true (O ++ [y]) := by
  rcases h with ⟨e, _⟩ | ⟨_, rfl, z, hz, hzx⟩
  · cases e
  · refine Or.inr ⟨rfl, ?_, z, by rw [take_more hy]; simp [hz], hzx⟩
    rw [take_more hy, V.put_snoc ⟨z, hz, hzx⟩]
theorem VPutting.len (h : VPutting l node s k false O) : O.length ≤ k := by
  rcases h with ⟨_, rfl, _⟩ | ⟨e, _⟩
  · rw [List.length_take]; omega
  · cases e
theorem VPutting.endF (h : VPutting l node s k false O) (hk : l.length ≤ k) : O ++ [⟨node, s⟩] = V.put l node s := by
  rcases h with ⟨_, rfl, ha⟩ | ⟨e, _⟩
  · rw [List.take_of_length_le hk] at *
    rw [V.put_lt ha]
  · cases e
theorem VPutting.endT (h : VPutting l node s k true O) (hk : l.length ≤ k) : O = V.put l node s := by
  rcases h with ⟨e, _⟩ | ⟨_, rfl, _⟩
  · cases e
  · rw [List.take_of_length_le hk]
end
theorem nm_at {l : List Nv} {k : Nat} {x : Nv} (h : l[k]? = some x) : (l.map Nv.nm)[k]? = some x.nm := by rw [List.getElem?_map, h]; rfl

set_option maxHeartbeats 4000000 in
set_option maxRecDepth 20000 in
theorem rvput_any (U : Vw) (node : Int) (v : Sv) (w : World) (h : VRd w U) (hn : U.n ≤ 900) (hf : VFit U) (hv : SRd w v) (hvn : v.n ≤ 4000) (hrise : V.rising U.view) :
    Calls Try.prog 17 #[vval U, .int .i64 node, sv v] w (MadeV w (V.put U.view node v.s)) := by
  obtain ⟨⟨g, t, tl⟩, At, nt, ct⟩ := v
  have HR := Lib.hid hrise
  have hvl := h.viewlen
  have HVL := Lib.hid hvl
  clear hrise hvl
  simp only at hvn
  simp only [sv]
  have X := Box.new w #[.int .i64 g, .int .i64 t, .slice At nt ct] 37
  have b1 : Below w.heap.size w (w.alloc (.cells #[.int .i64 g, .int .i64 t, .slice At nt ct] 37)) := (Below.refl _ _).alloc (Nat.le_refl _) _
  have h1 := h.allocH (.cells #[.int .i64 g, .int .i64 t, .slice At nt ct] 37)
  have hv1 := hv.allocH (.cells #[.int .i64 g, .int .i64 t, .slice At nt ct] 37)
  have hs1 : w.heap.size < (w.alloc (.cells #[.int .i64 g, .int .i64 t, .slice At nt ct] 37)).heap.size := by simp
  clear h hv
  go_enter Try.func17, Try.ntmps17
  go_wp2_with fail
  generalize w.alloc (.cells #[.int .i64 g, .int .i64 t, .slice At nt ct] 37) = w0 at *
  refine (rvwithout_any U node w0 h1 (by omega) hf).mono ?_
  rintro e w1 ⟨⟨r, Ar, nr, cr⟩, rfl, hrv, hro, hb1⟩
  have X1 := X.below hb1 hs1
  have hv2 := hv1.belowH hb1
  have b2 := b1.trans (hb1.mono b1.size)
  have hr := hro.vrd
  have HFR : Hid (∀ x ∈ r, Fresh w.heap.size x.v) := Lib.hid fun x hx => ((hro.2 x hx).2.2).mono b1.size
  have hs2 : w.heap.size < w1.heap.size := X1.lt
  have hrl := hr.len
  simp only at hrl
  have HRV : Hid (r.map Nv.nm = V.without U.view node) := Lib.hid hrv
  have hnr : nr ≤ 900 := by
    have h2 := congrArg List.length hrv
    have h3 : (V.without U.view node).length ≤ U.view.length := List.length_filter_le _ _
    have h4 := HVL.out
    rw [show Vw.view ⟨r, Ar, nr, cr⟩ = r.map Nv.nm from rfl, List.length_map] at h2
    omega
  have HRL := Lib.hid hrl
  have hoffr : ∀ x ∈ r, x.node ≠ node := fun x hx he => by
    have h2 : x.nm ∈ V.without U.view node := by rw [← hrv]; exact List.mem_map.2 ⟨x, hx, rfl⟩
    have h3 := (List.mem_filter.1 h2).2
    have h4 : x.nm.node = node := he
    simp [h4] at h3
  have HOFFR := Lib.hid hoffr
  clear hb1 hro hrv X b1 h1 hv1 hrl hoffr
  simp only [vval]
  go_wp2
  go_loopw [7, 8, 10] (fun s p i wr => ∃ (k m : Nat) (A1 : Option Addr) (c1 : Nat) (pb : Bool) (O : List Nv), k ≤ nr ∧ i = .int .i64 k ∧ p = .bool pb ∧ m ≤ k + 1 ∧ s = .slice A1 m c1 ∧ VPutting (r.map Nv.nm) node ⟨g, t, tl⟩ k pb (O.map Nv.nm) ∧ m = O.length ∧
      wr.ownsRow w1.heap.size 39 4 (.slice A1 m c1) m (FC ncl O) ∧ (∀ x ∈ O, SRd wr x.v ∧ Off (.slice A1 m c1) x.v.A x.v.n ∧ Fresh w.heap.size x.v) ∧ Below w1.heap.size w1 wr) (fun _ _ i _ => nr - (intOf i).toNat)
  case atStart => exact ⟨0, 0, none, 0, false, [], by omega, rfl, rfl, by omega, rfl, VPutting.start _ _ _, rfl, World.ownsRow_nil _ _ _ _, by simp, Below.refl _ _⟩
  case round =>
    obtain ⟨k, m, A1, c1, pb, O, hk, rfl, rfl, hmk, rfl, hP, hm, hown, hall, hbel⟩ := hrel
    have HP := Lib.hid hP
    have HM := Lib.hid hm
    have HALL := Lib.hid hall
    have hbs := hbel.size
    have X2 := X1.below hbel hs2
    have y0 := X2.at 0 rfl
    have y1 := X2.at 1 rfl
    have y2 := X2.at 2 rfl
    have hvr := hv2.belowH hbel
    clear hP hm hall
    by_cases hlt : k < nr
    · obtain ⟨b, o, x, e1, hb, hx, hsr, d0, d1, d2, d3⟩ := hr.at hlt
      simp only at e1 hx
      subst e1
      have hoffx := off_below hsr hown (Nat.le_refl _)
      have hsx := hsr.belowH hbel
      replace d0 := (hbel.cell (p := ⟨b, o + k * 4, none⟩) hb).trans d0
      replace d1 := (hbel.cell (p := ⟨b, o + k * 4 + 1, none⟩) hb).trans d1
      replace d2 := (hbel.cell (p := ⟨b, o + k * 4 + 2, none⟩) hb).trans d2
      replace d3 := (hbel.cell (p := ⟨b, o + k * 4 + 3, none⟩) hb).trans d3
      have hk0 : (0 : Int) ≤ (k : Int) := by omega
      have hne := HOFFR.out x (List.mem_of_getElem? hx)
      have HX : Hid ((r.map Nv.nm)[k]? = some x.nm) := Lib.hid (nm_at hx)
      have hfrx := HFR.out x (List.mem_of_getElem? hx)
      clear hx hsr
      cases pb
      · by_cases hgt : node < x.node
        · have t1 : decide (node < x.node) = true := decide_eq_true hgt
          have HGT := Lib.hid hgt
          have hmk2 : m ≤ k := by have := HP.out.len; rw [List.length_map] at this; have := HM.out; omega
          clear hgt hne
          go_wp2_with fail
          refine (rscopy_any ⟨⟨g, t, tl⟩, At, nt, ct⟩ _ hvr (by show nt ≤ _; omega)).mono ?_
          rintro e w2 ⟨⟨s2, A2, n2, c2⟩, rfl, hs2e, hown2, hb2⟩
          simp only at hs2e
          subst hs2e
          have hown3 := own_below hown hb2
          have hbel2 := hbel.trans (hb2.mono hbs)
          have hoff2 := off_made hown hown2 (Nat.le_refl _)
          have hbs2 := hbel2.size
          replace d0 := (hb2.cell (p := ⟨b, o + k * 4, none⟩) (by show b < _; omega)).trans d0
          replace d1 := (hb2.cell (p := ⟨b, o + k * 4 + 1, none⟩) (by show b < _; omega)).trans d1
          replace d2 := (hb2.cell (p := ⟨b, o + k * 4 + 2, none⟩) (by show b < _; omega)).trans d2
          replace d3 := (hb2.cell (p := ⟨b, o + k * 4 + 3, none⟩) (by show b < _; omega)).trans d3
          have hsx2 := hsx.belowH hb2
          clear y0 y1 y2
          simp only [sv]
          go_wp2_with (first | (refine pushF_law (f := ncl) (y := ⟨node, ⟨⟨g, t, tl⟩, A2, n2, c2⟩⟩) nmT ncl_len ncl_one rfl (.tmp 31) (.tmp 36) rfl w1.heap.size rfl rfl rfl hown3 (by omega) (by omega) hbs2 ?_; rintro A3 c3 w3 hown4 hb3 hkeep; replace d0 := (hb3.cell (p := ⟨b, o + k * 4, none⟩) hb).trans d0; replace d1 := (hb3.cell (p := ⟨b, o + k * 4 + 1, none⟩) hb).trans d1; replace d2 := (hb3.cell (p := ⟨b, o + k * 4 + 2, none⟩) hb).trans d2; replace d3 := (hb3.cell (p := ⟨b, o + k * 4 + 3, none⟩) hb).trans d3; have hbel3 := hbel2.trans hb3; have hbs3 := hbel3.size) | (refine pushF_law (f := ncl) (y := x) nmT ncl_len ncl_one rfl (.tmp 38) (.tmp 43) rfl w1.heap.size rfl rfl rfl hown4 (by omega) (by omega) hbs3 ?_; rintro A4 c4 w4 hown5 hb4 hkeep2))
          go_roundw
          case rel =>
            refine ⟨k + 1, m + 1 + 1, A4, c4, true, O ++ [⟨node, ⟨⟨g, t, tl⟩, A2, n2, c2⟩⟩] ++ [x], by omega, by go_num, rfl, by omega, rfl, ?_, ?_, hown5, ?_, hbel3.trans hb4⟩
            · have h9 := HP.out.upper HX.out HGT.out
              rw [List.map_append, List.map_append]
              exact h9
            · rw [List.length_append, List.length_append, HM.out]; rfl
            · intro y hy
              rcases List.mem_append.1 hy with hy | hy
              · rcases List.mem_append.1 hy with hy | hy
                · have h9 := HALL.out y hy
                  have h8 := hkeep (h9.1.belowH hb2) h9.2.1
                  have h7 := hkeep2 h8.1 h8.2
                  exact ⟨h7.1, h7.2, h9.2.2⟩
                · obtain rfl : y = ⟨node, ⟨⟨g, t, tl⟩, A2, n2, c2⟩⟩ := by simpa using hy
                  have h8 := hkeep hown2.srd hoff2
                  have h7 := hkeep2 h8.1 h8.2
                  exact ⟨h7.1, h7.2, fresh_own hown2 (by omega)⟩
              · obtain rfl : y = x := by simpa using hy
                have h8 := hkeep hsx2 hoffx
                have h7 := hkeep2 h8.1 h8.2
                exact ⟨h7.1, h7.2, hfrx⟩
          case measure => simp [intOf]; omega
        · have t1 : decide (node < x.node) = false := decide_eq_false hgt
          have hlow : x.node < node := by omega
          have HLOW := Lib.hid hlow
          clear hgt hne hlow y0 y1 y2
          go_wp2_with (refine pushF_law (f := ncl) (y := x) nmT ncl_len ncl_one rfl (.tmp 38) (.tmp 43) rfl w1.heap.size rfl rfl rfl hown (by omega) (by omega) hbs ?_; rintro A4 c4 w4 hown5 hb4 hkeep2)
          go_roundw
          case rel =>
            refine ⟨k + 1, m + 1, A4, c4, false, O ++ [x], by omega, by go_num, rfl, by omega, rfl, ?_, ?_, hown5, ?_, hbel.trans hb4⟩
            · have h9 := HP.out.lower HX.out HLOW.out
              rw [List.map_append]
              exact h9
            · rw [List.length_append, HM.out]; rfl
            · intro y hy
              rcases List.mem_append.1 hy with hy | hy
              · have h9 := HALL.out y hy
                have h7 := hkeep2 h9.1 h9.2.1
                exact ⟨h7.1, h7.2, h9.2.2⟩
              · obtain rfl : y = x := by simpa using hy
                have h7 := hkeep2 hsx hoffx
                exact ⟨h7.1, h7.2, hfrx⟩
          case measure => simp [intOf]; omega
      · clear hne y0 y1 y2
        go_wp2_with (refine pushF_law (f := ncl) (y := x) nmT ncl_len ncl_one rfl (.tmp 38) (.tmp 43) rfl w1.heap.size rfl rfl rfl hown (by omega) (by omega) hbs ?_; rintro A4 c4 w4 hown5 hb4 hkeep2)
        go_roundw
        case rel =>
          refine ⟨k + 1, m + 1, A4, c4, true, O ++ [x], by omega, by go_num, rfl, by omega, rfl, ?_, ?_, hown5, ?_, hbel.trans hb4⟩
          · have h9 := HP.out.more HX.out
            rw [List.map_append]
            exact h9
          · rw [List.length_append, HM.out]; rfl
          · intro y hy
            rcases List.mem_append.1 hy with hy | hy
            · have h9 := HALL.out y hy
              have h7 := hkeep2 h9.1 h9.2.1
              exact ⟨h7.1, h7.2, h9.2.2⟩
            · obtain rfl : y = x := by simpa using hy
              have h7 := hkeep2 hsx hoffx
              exact ⟨h7.1, h7.2, hfrx⟩
        case measure => simp [intOf]; omega
    · have hkn : (r.map Nv.nm).length ≤ k := by rw [List.length_map]; have := HRL.out; omega
      have HKN := Lib.hid hkn
      clear hkn
      have HPW := Lib.hid (V.put_without_put HR.out node ⟨g, t, tl⟩)
      cases pb
      · go_wp2_with fail
        refine (rscopy_any ⟨⟨g, t, tl⟩, At, nt, ct⟩ _ hvr (by show nt ≤ _; omega)).mono ?_
        rintro e w2 ⟨⟨s2, A2, n2, c2⟩, rfl, hs2e, hown2, hb2⟩
        simp only at hs2e
        subst hs2e
        have hown3 := own_below hown hb2
        have hbel2 := hbel.trans (hb2.mono hbs)
        have hoff2 := off_made hown hown2 (Nat.le_refl _)
        have hbs2 := hbel2.size
        clear y0 y1 y2
        simp only [sv]
        go_wp2_with (refine pushF_law (f := ncl) (y := ⟨node, ⟨⟨g, t, tl⟩, A2, n2, c2⟩⟩) nmT ncl_len ncl_one rfl (.tmp 47) (.tmp 52) rfl w1.heap.size rfl rfl rfl hown3 (by omega) (by omega) hbs2 ?_; rintro A3 c3 w3 hown4 hb3 hkeep)
        go_ret
        refine ⟨⟨O ++ [⟨node, ⟨⟨g, t, tl⟩, A2, n2, c2⟩⟩], A3, m + 1, c3⟩, rfl, ?_, ⟨own_mono hown4 (by omega), ?_⟩, b2.trans ((hbel2.trans hb3).mono (by omega))⟩
        · have h9 := HP.out.endF HKN.out
          rw [HRV.out, HPW.out] at h9
          rw [← h9]
          show (O ++ [_]).map Nv.nm = _
          rw [List.map_append]; rfl
        · intro y hy
          rcases List.mem_append.1 hy with hy | hy
          · have h9 := HALL.out y hy
            have h7 := hkeep (h9.1.belowH hb2) h9.2.1
            exact ⟨h7.1, h7.2, h9.2.2⟩
          · obtain rfl : y = ⟨node, ⟨⟨g, t, tl⟩, A2, n2, c2⟩⟩ := by simpa using hy
            have h7 := hkeep hown2.srd hoff2
            exact ⟨h7.1, h7.2, fresh_own hown2 (by omega)⟩
      · go_wp2
        go_ret
        refine ⟨⟨O, A1, m, c1⟩, rfl, ?_, ⟨own_mono hown (by omega), HALL.out⟩, b2.trans (hbel.mono (by omega))⟩
        have h9 := HP.out.endT HKN.out
        rw [HRV.out, HPW.out] at h9
        exact h9
end Go.Proofs.Ytoemefoppkgfaaa
