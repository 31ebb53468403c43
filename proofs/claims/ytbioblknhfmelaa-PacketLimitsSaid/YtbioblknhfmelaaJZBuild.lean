/- ZBuild (merged). -/
import Derived.Test.YtbioblknhfmelaaJPlain
import Derived.Test.YtbioblknhfmelaaJZR
import Derived.Test.YtbioblknhfmelaaJZRec
namespace Go.Proofs.Ytbioblknhfmelaa
set_option linter.unusedVariables false
set_option linter.unusedSimpArgs false
open Go.RowKit
/-- bytes and a reason came back -/
def ByE (l : List UInt8) (z : Int) (w : World) (e : Ending) (w' : World) : Prop := (∃ A c, e = .returned (.tuple #[.slice A l.length c, .int .i64 z]) ∧ Rd w' w'.heap.size 1 A l.length (U l) ∧ l.length ≤ c ∧ c ≤ 9223372036854775807) ∧ Below w.heap.size w w'
/-- the row lies apart from a block -/
def Apart (A : Option Addr) (b : Nat) : Prop := blk A ≠ some b
theorem Wrote.apart {a w : World} {base n c b : Nat} {A A' : Option Addr} {l : List UInt8} (h : Wrote a w base A A' n c l) (ha : Apart A b) (hb : b < a.heap.size) : Apart A' b := fun e => by
  rcases h.2.2 with h1 | ⟨g, h1, h2⟩
  · exact ha (by rw [← h1]; exact e)
  · rw [h1] at e; injection e with e; omega
theorem Wr.apart {w : World} {base n c : Nat} {A : Option Addr} {l : List UInt8} (h : Wr w base A n c l) : Apart A w.heap.size := fun e => by
  rcases h.2.2.2 with ⟨rfl, _⟩ | ⟨g, o, rfl, _, hg, _⟩
  · cases e
  · injection e with e
    have e2 : g = w.heap.size := e
    omega
theorem Wrote.box' {a w : World} {base n c : Nat} {A A' : Option Addr} {l : List UInt8} (h : Wrote a w base A A' n c l) {b : Nat} {T : TypeId} {cs : Array Value} (hb : Box a b T cs) (ha : Apart A b) : Box w b T cs := hb.grownZ h.2.1 ha
theorem Wrote.rows {a w : World} {base n c B n0 c0 : Nat} {A A' : Option Addr} {l l0 : List UInt8} (h : Wrote a w base A A' n c l) (hw : Wr a base A n0 c0 l0) {w0 : World} (hb : Below B w0 a) (hB : B ≤ base) (hs : B ≤ a.heap.size) : Below B w0 w :=
  hb.trans (h.below hw.base hB hs)
/-- a bound that the walk need not see -/
def Few (n : Nat) : Prop := n ≤ 417200
theorem few_of {n r : Nat} (h : n ≤ 415900) (h2 : r ≤ 1300) : Few (n + r) := by unfold Few; omega
theorem few_of' {n : Nat} (h : n ≤ 417200) : Few n := h
theorem few_add {n k : Nat} (h : Few n) (h2 : k ≤ 100) : k + n ≤ 70368744177664 := by unfold Few at h; omega
theorem few_le {n k : Nat} (h : Few n) : n ≤ 70368744177664 := by unfold Few at h; omega
theorem add12 {n : Nat} (h : n ≤ 415900) : wrap64 (12 + (n : Int)) = 12 + (n : Int) := by unfold wrap64; omega
theorem add12b {n r : Nat} (h : n ≤ 415900) (h2 : r ≤ 1300) : wrap64 (12 + (n : Int) + (r : Int)) = 12 + (n : Int) + (r : Int) := by unfold wrap64; omega
theorem add1n {n : Nat} (h : n ≤ 100) : wrap64 ((n : Int) + 1) = (n : Int) + 1 := by unfold wrap64; omega
theorem lens {m : Int} {n a b r q : Nat} (h : n = a + b) (hr : q = r) : m < 12 + (n : Int) + (r : Int) ↔ m < 12 + (a : Int) + (b : Int) + (q : Int) := by omega
theorem or_flag {f : Int} (h : Pk.two f) : bits .or .i64 f 512 = Pk.cutFlag f := by
  unfold Pk.two at h
  obtain ⟨n, rfl⟩ : ∃ n : Nat, f = n := ⟨f.toNat, by omega⟩
  have := i64_or n 512 (by omega) (by omega)
  unfold Pk.cutFlag
  rw [show ((n : Int)).toNat = n by omega]
  exact this
theorem Wr.setO {w : World} {base n c b o : Nat} {A : Option Addr} {l : List UInt8} (h : Wr w base A n c l) (ha : Apart A b) (v : Value) : Wr (w.setCell ⟨b, o, none⟩ v) base A n c l :=
  h.grown (row := some b) ⟨rfl, rfl, rfl, by simp, fun k hk hne => heap_setCell_other w ⟨b, o, none⟩ k v (fun e => hne (by rw [e]))⟩ (fun g hg e => ha (by rw [hg, ← e]))
theorem below_undrew {w w' : World} (h : Below w.drew.heap.size w.drew w') : Below w.heap.size w w' := ⟨h.os, h.tape, h.output, h.size, h.block⟩
/-- how many records of each list are laid, in memory -/
def nbx (p : Pck) (t : Nat) : Array Value := #[.int .i64 ((Pk.num p t 0 : Nat) : Int), .int .i64 ((Pk.num p t 1 : Nat) : Int), .int .i64 ((Pk.num p t 2 : Nat) : Int)]
theorem nbx_zero (p : Pck) : nbx p 0 = #[.int .i64 0, .int .i64 0, .int .i64 0] := by unfold nbx; rw [Pk.num_zero p 0 (by omega), Pk.num_zero p 1 (by omega), Pk.num_zero p 2 (by omega)]; rfl
theorem nbx_at (p : Pck) (t : Nat) {j : Nat} (hj : j < 3) : (nbx p t)[j]? = some (.int .i64 ((Pk.num p t j : Nat) : Int)) := by rcases Pk.three hj with rfl | rfl | rfl <;> rfl
theorem nbx_set (p : Pck) {j k : Nat} (hj : j < 3) (hk : k < (Pk.lst p j).length) : (nbx p (Pk.off p j + k)).setIfInBounds j (.int .i64 ((Pk.num p (Pk.off p j + k) j : Nat) + 1 : Int)) = nbx p (Pk.off p j + k + 1) := by
  have h1 := Pk.num_same p hj hk
  have h2 := fun i (hi : i < 3) hne => Pk.num_other p (i := i) hi hj hne hk
  unfold nbx
  rcases Pk.three hj with rfl | rfl | rfl
  · rw [h1, h2 1 (by omega) (by omega), h2 2 (by omega) (by omega)]; rfl
  · rw [h1, h2 0 (by omega) (by omega), h2 2 (by omega) (by omega)]; rfl
  · rw [h1, h2 0 (by omega) (by omega), h2 1 (by omega) (by omega)]; rfl
/-- between two records -/
structure BW (p : Pck) (m zf : Int) (w2 : World) (s1 : Nat) (lb : Array Value) (A : Option Addr) (n c t : Nat) (cut : Bool) (ff : Int) (w : World) : Prop where
  fl : ff = Pk.bfl cut zf
  st : Pk.Bst p m t cut
  wr : Wr w w2.heap.size A n c (Pk.qsb p.qs ++ Pk.rsb p.qs ((Pk.all p).take t))
  a1 : Apart A s1
  a2 : Apart A (s1 + 1)
  L : Box w s1 51 lb
  N : Box w (s1 + 1) 53 (nbx p t)
  b : Below w2.heap.size w2 w
  s : s1 + 2 ≤ w.heap.size
theorem Wrote.keepW {a w : World} {base base' n c n' c' : Nat} {A Ah Ah' : Option Addr} {l l' : List UInt8} (h : Wrote a w base Ah Ah' n' c' l') (hb : Wr a base' A n c l) (ho : ∀ g, blk A = some g → Apart Ah g) : Wr w base' A n c l ∧ ∀ g, blk A = some g → Apart Ah' g := by
  refine ⟨hb.grown h.2.1 fun g hg e => ho g hg e, fun g hg => h.apart (ho g hg) ?_⟩
  rcases hb.2.2.2 with ⟨rfl, _⟩ | ⟨g', o, rfl, _, hlt, _⟩
  · cases hg
  · injection hg with hg
    have e2 : g' = g := hg
    omega
theorem apart_none (b : Nat) : Apart none b := fun e => by cases e
theorem cell_lst {p : Pck} {A2 A3 A4 : Option Addr} {n2 c2 n3 c3 n4 c4 : Nat} {w2 : World} (h2 : Rd w2 w2.heap.size 5 A2 n2 (RC p.an)) (h3 : Rd w2 w2.heap.size 5 A3 n3 (RC p.au)) (h4 : Rd w2 w2.heap.size 5 A4 n4 (RC p.mo)) {j : Nat} (hj : j < 3) :
    ∃ Aj nj cj, (#[.slice A2 n2 c2, .slice A3 n3 c3, .slice A4 n4 c4] : Array Value)[j]? = some (.slice Aj nj cj) ∧ Rd w2 w2.heap.size 5 Aj nj (RC (Pk.lst p j)) := by
  rcases Pk.three hj with rfl | rfl | rfl
  · exact ⟨A2, n2, c2, rfl, h2⟩
  · exact ⟨A3, n3, c3, rfl, h3⟩
  · exact ⟨A4, n4, c4, rfl, h4⟩
set_option maxHeartbeats 8000000 in
set_option maxRecDepth 20000 in
theorem rpbuild_any (u : Pv) (m : Int) (w : World) (h : PRd w u) (hm : PMod u) : Calls Try.prog 10 #[pval u, .int .i64 m] w (ByE (Pk.build u.x m).1 (Pk.build u.x m).2 w) := by
  obtain ⟨p, A1, n1, c1, A2, n2, c2, A3, n3, c3, A4, n4, c4⟩ := u
  have RG := fun W h => rpright_any (⟨p, A1, n1, c1, A2, n2, c2, A3, n3, c3, A4, n4, c4⟩ : Pv) W h hm
  have RC' := fun (r : Rrc) W h hr hl => rrecord_any (⟨p, A1, n1, c1, A2, n2, c2, A3, n3, c3, A4, n4, c4⟩ : Pv) r W h (by have := hm.1.1; show n1 ≤ _; have : n1 ≤ 4398046511104 := this; omega) hm.2.1 hr hl
  obtain ⟨zi, hzi⟩ : ∃ z, p.id = z := ⟨_, rfl⟩
  obtain ⟨zf, hzf⟩ : ∃ z, p.flags = z := ⟨_, rfl⟩
  simp only [pval, hzi, hzf] at RG RC' ⊢
  obtain ⟨h1, h2, h3, h4⟩ := h
  simp only at h1 h2 h3 h4
  have ZI := Lib.hid hzi
  have ZF := Lib.hid hzf
  have HM := Lib.hid hm
  have b := (Below.refl w.heap.size w).alloc (Nat.le_refl _) (.cells #[.int .i64 zi, .int .i64 zf, .slice A1 n1 c1, .slice A2 n2 c2, .slice A3 n3 c3, .slice A4 n4 c4] 25)
  have X := Box.new w #[.int .i64 zi, .int .i64 zf, .slice A1 n1 c1, .slice A2 n2 c2, .slice A3 n3 c3, .slice A4 n4 c4] 25
  replace h1 := h1.belowH b
  replace h2 := h2.belowH b
  replace h3 := h3.belowH b
  replace h4 := h4.belowH b
  have x0 := X.at 0 rfl
  have x1 := X.at 1 rfl
  have x2 := X.at 2 rfl
  have x3 := X.at 3 rfl
  have x4 := X.at 4 rfl
  have x5 := X.at 5 rfl
  have hs : (w.alloc (.cells #[.int .i64 zi, .int .i64 zf, .slice A1 n1 c1, .slice A2 n2 c2, .slice A3 n3 c3, .slice A4 n4 c4] 25)).heap.size = w.heap.size + 1 := by simp
  clear hzi hzf hm
  go_enter Try.func10, Try.ntmps10
  go_wp2_with fail
  generalize w.alloc (.cells #[.int .i64 zi, .int .i64 zf, .slice A1 n1 c1, .slice A2 n2 c2, .slice A3 n3 c3, .slice A4 n4 c4] 25) = w1 at *
  refine (RG w1 ⟨h1, h2, h3, h4⟩).mono ?_
  clear RG
  rintro e w2 ⟨rfl, b2⟩
  by_cases hr : Pk.right p
  rotate_left
  · have E : Hid (Pk.build p m = ([], 1)) := Lib.hid (Pk.build_no hr)
    have HR := Lib.hid (decide_eq_false hr)
    clear hr
    rw [HR.out]
    go_wp2
    go_ret2
    rw [E.out]
    exact ⟨⟨none, 0, rfl, Rd.zero _ _ _ _, Nat.le_refl _, by omega⟩, b.trans (b2.mono (by omega))⟩
  rw [decide_eq_true hr]
  have L1 := h1.lenQ
  have RI : Hid (Pk.right p) := Lib.hid hr
  have hn1 : n1 ≤ 100 := by have := hr.2.2.1.1; omega
  have LN := Lib.hid L1
  clear hr L1 x0 x1 x2 x3 x4 x5
  replace X := X.belowH b2
  replace h1 := h1.belowH b2
  replace h2 := h2.belowH b2
  replace h3 := h3.belowH b2
  replace h4 := h4.belowH b2
  replace b := b.trans (b2.mono (by omega))
  have hs2 : w.heap.size + 1 ≤ w2.heap.size := by have := b2.size; omega
  clear b2 hs w1
  go_wp2
  go_loopw [6, 7] (fun v i wr => ∃ (k n c : Nat) (A : Option Addr), k ≤ n1 ∧ v = .slice A n c ∧ i = .int .i64 (k : Int) ∧ Wr wr w2.heap.size A n c (Pk.qsb (p.qs.take k)) ∧ Below w2.heap.size w2 wr) (fun _ i _ => n1 - (intOf i).toNat)
  case atStart => exact ⟨0, 0, 0, none, Nat.zero_le _, rfl, rfl, Wr.nil _ _, Below.refl _ _⟩
  case round =>
    obtain ⟨k, n, c, A, hk, rfl, rfl, hw, hb⟩ := hrel
    have X1 := X.belowH hb
    have g1 := h1.belowH hb
    have x2 := X1.at 2 rfl
    have hbs := hb.size
    have QL : Hid (∀ k, ((Pk.qsb (p.qs.take k)).length) ≤ 25900) := Lib.hid fun k => by
      have h1 := Pk.qsb_le (l := p.qs.take k) fun q hq => RI.out.2.2.1.2 q (List.mem_of_mem_take hq)
      have h2 : (p.qs.take k).length ≤ 100 := by rw [List.length_take]; have := RI.out.2.2.1.1; omega
      omega
    have hn : n ≤ 25900 := by have := QL.out k; have := hw.1; omega
    by_cases hlt : k < n1
    · obtain ⟨bq, oq, q, rfl, hbq, hq, q0, q1, q2⟩ := g1.atQ hlt
      have HQ := Lib.hid hq
      have HQR : Hid (Pk.rightQ q) := Lib.hid (RI.out.2.2.1.2 q (List.mem_of_getElem? hq))
      have ql : q.name.length ≤ 255 := Pk.name_le HQR.out.1
      have t1 := HQR.out.2.1
      have t2 := HQR.out.2.2
      unfold Pk.two at t1 t2
      have hk0 : (0 : Int) ≤ (k : Int) := by omega
      clear hq
      have QB := Box.new wr #[.string (strB q.name), .int .i64 q.typ, .int .i64 q.cls] 48
      have hwa := hw.alloc (.cells #[.string (strB q.name), .int .i64 q.typ, .int .i64 q.cls] 48)
      have hba := hb.alloc hbs (.cells #[.string (strB q.name), .int .i64 q.typ, .int .i64 q.cls] 48)
      have hsa : (wr.alloc (.cells #[.string (strB q.name), .int .i64 q.typ, .int .i64 q.cls] 48)).heap.size = wr.heap.size + 1 := by simp
      have hap : Apart A wr.heap.size := hw.apart
      clear X1 g1
      have y0 := QB.at 0 rfl
      have y1 := QB.at 1 rfl
      have y2 := QB.at 2 rfl
      go_wp2_with fail
      generalize wr.alloc (.cells #[.string (strB q.name), .int .i64 q.typ, .int .i64 q.cls] 48) = wa at *
      clear hw hb x2 q0 q1 q2
      refine wp_region_held_drew (S := (fun w' => w'.cell? ⟨wr.heap.size, 0, none⟩ = some (.string (strB q.name)) ∧ w'.cell? ⟨wr.heap.size, 1, none⟩ = some (.int .i64 q.typ) ∧ w'.cell? ⟨wr.heap.size, 2, none⟩ = some (.int .i64 q.cls))) (by kernel_rfl) (by exact ⟨y0, y1, y2⟩) (fun hHeld0 => ?_)
      refine tk 0 32 rfl hHeld0 ?_
      refine tk 1 33 rfl hHeld0 ?_
      refine tk 2 34 rfl hHeld0 ?_
      refine tk 4 36 rfl hHeld0 ?_
      refine tk 5 37 rfl hHeld0 ?_
      refine tk 7 39 rfl hHeld0 ?_
      refine tk 8 40 rfl hHeld0 ?_
      refine wpAnyH_ready (rs := [3]) (by kernel_rfl) (by simp) (AllReadyH.cons (o := ⟨some 35, _, _, _, _, _⟩) rfl (fun K hK => ?_) AllReadyH.nil)
      (refine wr_str_step rfl (.tmp 32) (.tmp 34) rfl (by rfl) (h := (show Wr wa.drew w2.heap.size A n c _ from hwa)) (by show _ ≤ wa.heap.size; omega) (by rfl) (by omega) ?_; rintro A5 c5 w5 hw5; have ap5 := hw5.apart hap (by show _ < wa.heap.size; omega); have Q5 := hw5.box' (show Box wa.drew _ _ _ from QB) hap; have hb5 := hw5.rows (show Wr wa.drew w2.heap.size A n c _ from hwa) (show Below _ w2 wa.drew from hba.drew) (Nat.le_refl _) (by show _ ≤ wa.heap.size; omega); have hs5 := hw5.2.1.size; replace hs5 : wa.heap.size ≤ w5.heap.size := hs5; clear hwa hba QB y0 y1 y2 hap; have y0 := Q5.at 0 rfl; have y1 := Q5.at 1 rfl; have y2 := Q5.at 2 rfl)
      go_simp
      refine hK.out _ _ (by exact ⟨y0, y1, y2⟩) (fun hHeld1 => ?_)
      clear hK hHeld0 K
      try simp only [Act.put, sA, sB, sC]
      refine wpAnyH_ready (rs := [6]) (by kernel_rfl) (by simp) (AllReadyH.cons (o := ⟨some 38, _, _, _, _, _⟩) rfl (fun K hK => ?_) AllReadyH.nil)
      go_simp
      (refine (rlay2_any A5 _ c5 w2.heap.size _ q.typ _ hw5.1 (by omega) (by omega) (by omega)).mono ?_; rintro e w6 ⟨A6, c6, rfl, hw6⟩; have ap6 := hw6.apart ap5 (by omega); have Q6 := hw6.box' Q5 ap5; have hb6 := hw6.rows hw5.1 hb5 (Nat.le_refl _) (by omega); have hs6 := hw6.2.1.size; clear Q5 y0 y1 y2 hb5 ap5; have y0 := Q6.at 0 rfl; have y1 := Q6.at 1 rfl; have y2 := Q6.at 2 rfl)
      go_simp
      refine hK.out _ _ (by exact ⟨y0, y1, y2⟩) (fun hHeld2 => ?_)
      clear hK hHeld1 K
      try simp only [Act.put, sA, sB, sC]
      refine wpAnyH_ready (rs := [9]) (by kernel_rfl) (by simp) (AllReadyH.cons (o := ⟨some 41, _, _, _, _, _⟩) rfl (fun K hK => ?_) AllReadyH.nil)
      go_simp
      (refine (rlay2_any A6 _ c6 w2.heap.size _ q.cls _ hw6.1 (by omega) (by omega) (by omega)).mono ?_; rintro e w7 ⟨A7, c7, rfl, hw7⟩; have Q7 := hw7.box' Q6 ap6; have hb7 := hw7.rows hw6.1 hb6 (Nat.le_refl _) (by omega); clear Q6 y0 y1 y2 hb6 ap6; have y0 := Q7.at 0 rfl; have y1 := Q7.at 1 rfl; have y2 := Q7.at 2 rfl)
      go_simp
      refine hK.out _ _ (by exact ⟨y0, y1, y2⟩) (fun hHeld3 => ?_)
      clear hK hHeld2 K
      try simp only [Act.put, sA, sB, sC]
      refine tk 10 6 rfl hHeld3 ?_
      refine wpAnyH_done (by kernel_rfl) ?_ _
      have HW := hw7.1
      clear hw7 hw6 hw5 y0 y1 y2 Q7
      go_wp2
      go_roundw
      case rel =>
        refine ⟨k + 1, _, c7, A7, by omega, rfl, by go_num, ?_, hb7⟩
        have e1 : Pk.qsb (p.qs.take (k + 1)) = Pk.qsb (p.qs.take k) ++ q.name ++ Pk.b2 q.typ.toNat ++ Pk.b2 q.cls.toNat := by
          rw [take_more HQ.out]
          unfold Pk.qsb
          rw [List.flatMap_append]
          simp [Pk.qb]
        rw [e1]
        exact HW
      case measure => simp [intOf]; omega
    · obtain rfl : k = n1 := by omega
      rw [List.take_of_length_le (by have := LN.out; omega)] at hw
      have hnq : Hid (n = (Pk.qsb p.qs).length) := Lib.hid hw.1.symm
      have v1 : wrap64 (12 + (n : Int)) = 12 + (n : Int) := by unfold wrap64; omega
      clear hk hlt
      by_cases hlong : m < 12 + (n : Int)
      · have E : Hid (Pk.build p m = ([], 4)) := Lib.hid (Pk.build_long RI.out (by rw [← hnq.out]; exact hlong))
        have d1 : decide (m < 12 + (n : Int)) = true := decide_eq_true hlong
        go_wp2
        go_ret2
        rw [E.out]
        exact ⟨⟨none, 0, rfl, Rd.zero _ _ _ _, Nat.le_refl _, by omega⟩, b.trans (hb.mono (by omega))⟩
      · have E : Hid (Pk.build p m = (Pk.whole (Pk.kept p m), 0)) := Lib.hid (Pk.build_is RI.out (by rw [← hnq.out]; exact hlong))
        have BS : Hid (Pk.Bst p m 0 false) := Lib.hid (Pk.Bst.start (by rw [← hnq.out]; exact hlong))
        have d1 : decide (m < 12 + (n : Int)) = false := decide_eq_false hlong
        have x1 := ((X1.alloc (.cells #[.slice A2 n2 c2, .slice A3 n3 c3, .slice A4 n4 c4] 51)).alloc (.cells #[.int .i64 0, .int .i64 0, .int .i64 0] 53)).at 1 rfl
        have x3 := X1.at 3 rfl
        have x4 := X1.at 4 rfl
        have x5 := X1.at 5 rfl
        have LBX := (Box.new wr #[.slice A2 n2 c2, .slice A3 n3 c3, .slice A4 n4 c4] 51).alloc (.cells #[.int .i64 0, .int .i64 0, .int .i64 0] 53)
        have NBX := Box.new (wr.alloc (.cells #[.slice A2 n2 c2, .slice A3 n3 c3, .slice A4 n4 c4] 51)) #[.int .i64 0, .int .i64 0, .int .i64 0] 53
        rw [show (wr.alloc (.cells #[.slice A2 n2 c2, .slice A3 n3 c3, .slice A4 n4 c4] 51)).heap.size = wr.heap.size + 1 by simp] at NBX
        have hwz := (hw.alloc (.cells #[.slice A2 n2 c2, .slice A3 n3 c3, .slice A4 n4 c4] 51)).alloc (.cells #[.int .i64 0, .int .i64 0, .int .i64 0] 53)
        have hbz := (hb.alloc hbs (.cells #[.slice A2 n2 c2, .slice A3 n3 c3, .slice A4 n4 c4] 51)).alloc (by simp; omega) (.cells #[.int .i64 0, .int .i64 0, .int .i64 0] 53)
        have hsz : ((wr.alloc (.cells #[.slice A2 n2 c2, .slice A3 n3 c3, .slice A4 n4 c4] 51)).alloc (.cells #[.int .i64 0, .int .i64 0, .int .i64 0] 53)).heap.size = wr.heap.size + 2 := by simp
        have hap1 : Apart A wr.heap.size := hw.apart
        have hap2 : Apart A (wr.heap.size + 1) := by have := (hw.alloc (.cells #[.slice A2 n2 c2, .slice A3 n3 c3, .slice A4 n4 c4] 51)).apart; simpa using this
        go_wp2_with fail
        generalize ((wr.alloc (.cells #[.slice A2 n2 c2, .slice A3 n3 c3, .slice A4 n4 c4] 51)).alloc (.cells #[.int .i64 0, .int .i64 0, .int .i64 0] 53)) = wz at *
        clear X1 g1 x1 x2 x3 x4 x5 hw hb
        generalize wr.heap.size = s1 at *
        have HSW := Lib.hid hbs
        have HS : BW p m zf w2 s1 #[.slice A2 n2 c2, .slice A3 n3 c3, .slice A4 n4 c4] A n c 0 false zf wz := ⟨rfl, BS.out, by simp [Pk.rsb]; exact hwz, hap1, hap2, LBX, by rw [nbx_zero]; exact NBX, hbz, by omega⟩
        clear hwz LBX NBX hbz hap1 hap2 hsz v1 BS d1 hlong hbs hn hnq
        go_loopw [6, 11, 12, 13] (fun v f cc i wr' => ∃ (n' c' j t : Nat) (A' : Option Addr) (cut : Bool) (ff : Int), v = .slice A' n' c' ∧ f = .int .i64 ff ∧ cc = .bool cut ∧ i = .int .i64 (j : Int) ∧ j ≤ 3 ∧ Hid (cut = false → t = Pk.off p j) ∧ BW p m zf w2 s1 #[.slice A2 n2 c2, .slice A3 n3 c3, .slice A4 n4 c4] A' n' c' t cut ff wr') (fun _ _ _ i _ => 3 - (intOf i).toNat)
        case atStart => exact ⟨n, c, 0, 0, A, false, zf, rfl, rfl, rfl, rfl, by omega, Lib.hid (fun _ => rfl), HS⟩
        case round =>
          clear HS
          obtain ⟨n', c', j, t, A', cut, ff, rfl, rfl, rfl, rfl, hj, hoff, hS⟩ := hrel
          by_cases hj3 : j < 3
          · obtain ⟨Aj, nj, cj, hlb, hrj⟩ := cell_lst (c2 := c2) (c3 := c3) (c4 := c4) h2 h3 h4 hj3
            have HLB := Lib.hid hlb
            have hjl : Hid ((Pk.lst p j).length = nj) := Lib.hid hrj.lenR
            have hnj : nj ≤ 100 := by have := (Pk.lst_right RI.out hj3).1; have := hjl.out; omega
            have hj0 : (0 : Int) ≤ (j : Int) := by omega
            have hj3' : (j : Int) < 3 := by omega
            clear hlb
            go_wp2
            go_loopw [6, 11, 12, 14] (fun v f cc i wr' => ∃ (n' c' kk t : Nat) (A' : Option Addr) (cut : Bool) (ff : Int), v = .slice A' n' c' ∧ f = .int .i64 ff ∧ cc = .bool cut ∧ i = .int .i64 (kk : Int) ∧ kk ≤ nj ∧ Hid (cut = false → t = Pk.off p j + kk) ∧ BW p m zf w2 s1 #[.slice A2 n2 c2, .slice A3 n3 c3, .slice A4 n4 c4] A' n' c' t cut ff wr') (fun _ _ _ i _ => nj - (intOf i).toNat)
            case atStart => exact ⟨n', c', 0, t, A', cut, ff, rfl, rfl, rfl, rfl, by omega, Lib.hid (fun h => by rw [hoff.out h]; rfl), hS⟩
            case round =>
              clear hS hoff
              obtain ⟨n', c', kk, t, A', cut, ff, rfl, rfl, rfl, rfl, hkk, hoff, hS⟩ := hrel
              have l0 := hS.L.at j HLB.out
              have ws := hS.b.size
              cases cut with
              | true =>
                by_cases hk : kk < nj
                · go_wp2
                  go_roundw
                  case rel => exact ⟨n', c', j + 1, t, A', true, ff, rfl, rfl, rfl, by go_num, by omega, Lib.hid (fun h => by cases h), hS⟩
                  case measure => simp [intOf]; omega
                · go_wp2
                  go_roundw
                  case rel => exact ⟨n', c', j + 1, t, A', true, ff, rfl, rfl, rfl, by go_num, by omega, Lib.hid (fun h => by cases h), hS⟩
                  case measure => simp [intOf]; omega
              | false =>
                by_cases hk : kk < nj
                rotate_left
                · go_wp2
                  go_roundw
                  case rel => exact ⟨n', c', j + 1, t, A', false, ff, rfl, rfl, rfl, by go_num, by omega, Lib.hid (fun h => by rw [hoff.out h, Pk.off_next p hj3, hjl.out]; omega), hS⟩
                  case measure => simp [intOf]; omega
                have ht : t = Pk.off p j + kk := hoff.out rfl
                have gj := hrj.belowH hS.b
                obtain ⟨bq, oq, r, rfl, hbq, hq, r0, r1, r2, r3, r4⟩ := gj.atR hk
                have HQ := Lib.hid hq
                have HA : Hid ((Pk.all p)[t]? = some r) := Lib.hid (by rw [ht]; exact Pk.all_at hj3 hq)
                have HT := Lib.hid ht
                have RR : Hid (Pk.rightR r) := Lib.hid ((Pk.lst_right RI.out hj3).2 r (List.mem_of_getElem? hq))
                have rn : r.name.length ≤ 255 := Pk.name_le RR.out.1
                have X3 := X.belowH hS.b
                have g1 := h1.belowH hS.b
                obtain ⟨rl, hrl⟩ : ∃ x, (Pk.rb p.qs r).length = x := ⟨_, rfl⟩
                have hrl1 : rl ≤ 1300 := by rw [← hrl]; exact Pk.rb_le RR.out
                have hrl0 : 10 ≤ rl := by rw [← hrl]; exact Pk.rb_ge _ _
                have CR := RC' r wr.drew g1 RR.out (by omega)
                rw [hrl] at CR
                have HRL := Lib.hid hrl
                have hnn : n' = (Pk.qsb p.qs).length + (Pk.rsb p.qs ((Pk.all p).take t)).length := by have := hS.wr.1; rw [List.length_append] at this; omega
                have hn' : n' ≤ 415900 := by
                  have h1 := Pk.rsb_taken_le RI.out t
                  have h2 := QL.out p.qs.length
                  rw [List.take_length] at h2
                  omega
                have HNN := Lib.hid hnn
                have hkk0 : (0 : Int) ≤ (kk : Int) := by omega
                have hbs : bq < w2.heap.size ∨ w2.heap.size ≤ bq := by omega
                have HB := Lib.hid hbs
                clear hq ht hrl hnn gj hbs hkk
                have x0 := X3.at 0 rfl
                have x1 := X3.at 1 rfl
                have x2 := X3.at 2 rfl
                have x3 := X3.at 3 rfl
                have x4 := X3.at 4 rfl
                have x5 := X3.at 5 rfl
                go_wp2_with fail
                refine wp_region_held_drew (S := (fun w' => w'.cell? ⟨w.heap.size, 0, none⟩ = some (.int .i64 zi) ∧ w'.cell? ⟨w.heap.size, 1, none⟩ = some (.int .i64 zf) ∧ w'.cell? ⟨w.heap.size, 2, none⟩ = some (.slice A1 k c1) ∧ w'.cell? ⟨w.heap.size, 3, none⟩ = some (.slice A2 n2 c2) ∧ w'.cell? ⟨w.heap.size, 4, none⟩ = some (.slice A3 n3 c3) ∧ w'.cell? ⟨w.heap.size, 5, none⟩ = some (.slice A4 n4 c4) ∧ w'.cell? ⟨s1, j, none⟩ = some (.slice (some ⟨bq, oq, none⟩) nj cj) ∧ w'.cell? ⟨bq, oq + kk * 5, none⟩ = some (.string (strB r.name)) ∧ w'.cell? ⟨bq, oq + kk * 5 + 1, none⟩ = some (.int .i64 r.typ) ∧ w'.cell? ⟨bq, oq + kk * 5 + 2, none⟩ = some (.int .i64 r.cls) ∧ w'.cell? ⟨bq, oq + kk * 5 + 3, none⟩ = some (.int .i64 r.ttl) ∧ w'.cell? ⟨bq, oq + kk * 5 + 4, none⟩ = some (.string (strB r.data)))) (by kernel_rfl) (by exact ⟨x0, x1, x2, x3, x4, x5, l0, r0, r1, r2, r3, r4⟩) (fun hHeld0 => ?_)
                refine tk 0 72 rfl hHeld0 ?_
                refine tk 1 73 rfl hHeld0 ?_
                refine tk 2 74 rfl hHeld0 ?_
                refine tk 3 75 rfl hHeld0 ?_
                refine tk 4 76 rfl hHeld0 ?_
                refine tk 5 77 rfl hHeld0 ?_
                refine tk 6 78 rfl hHeld0 ?_
                refine wpAnyH_ready (rs := [7]) (by kernel_rfl) (by simp) (AllReadyH.cons (o := ⟨some 79, _, _, _, _, _⟩) rfl (fun K hK => ?_) AllReadyH.nil)
                go_simp
                (refine CR.mono ?_; rintro e w8 ⟨A8, c8, rfl, hr8, hb8⟩; have hb8' : Below wr.heap.size wr w8 := below_undrew hb8; have X8 := X3.belowH hb8'; have L8 := hS.L.belowH hb8'; replace r0 := cell_of_below hb8' r0 hbq; replace r1 := cell_of_below hb8' r1 hbq; replace r2 := cell_of_below hb8' r2 hbq; replace r3 := cell_of_below hb8' r3 hbq; replace r4 := cell_of_below hb8' r4 hbq; clear x0 x1 x2 x3 x4 x5 l0; have x0 := X8.at 0 rfl; have x1 := X8.at 1 rfl; have x2 := X8.at 2 rfl; have x3 := X8.at 3 rfl; have x4 := X8.at 4 rfl; have x5 := X8.at 5 rfl; have l0 := L8.at j HLB.out)
                go_simp
                refine hK.out _ _ (by exact ⟨x0, x1, x2, x3, x4, x5, l0, r0, r1, r2, r3, r4⟩) (fun hHeld1 => ?_)
                clear hK hHeld0 K
                try simp only [Act.put, sA, sB, sC]
                refine tk 8 15 rfl hHeld1 ?_
                refine wpAnyH_done (by kernel_rfl) ?_ _
                clear x0 x1 x2 x3 x4 x5 l0 r0 r1 r2 r3 r4 CR
                have S8 := hS.wr.belowH hb8'
                have N8 := hS.N.belowH hb8'
                have sz8 := hb8'.size
                have b8 := hS.b.trans (hb8'.mono ws)
                clear hb8
                have v1 := add12 hn'
                have v2 := add12b hn' hrl1
                have AR : Few (n' + rl) := few_of hn' hrl1
                clear hn' hrl0 hrl1
                by_cases hfit : m < 12 + (n' : Int) + (rl : Int)
                · have d1 : decide (m < 12 + (n' : Int) + (rl : Int)) = true := decide_eq_true hfit
                  have ST : Hid (Pk.Bst p m t true) := Lib.hid (hS.st.cut HA.out ((lens HNN.out HRL.out).1 hfit))
                  have BF : Hid (Pk.cutFlag ff = Pk.bfl true zf) := Lib.hid (by rw [hS.fl]; rfl)
                  have OR := or_flag (f := ff) (by rw [hS.fl, ← ZF.out]; exact RI.out.2.1)
                  generalize Pk.cutFlag ff = fc at *
                  go_wp2
                  go_roundw
                  case rel => exact ⟨n', c', j + 1, t, A', true, fc, rfl, rfl, rfl, by go_num, by omega, Lib.hid (fun h => by cases h), ⟨BF.out, ST.out, S8, hS.a1, hS.a2, L8, N8, b8, by have := hS.s; omega⟩⟩
                  case measure => simp [intOf]; omega
                · have d1 : decide (m < 12 + (n' : Int) + (rl : Int)) = false := decide_eq_false hfit
                  have ST : Hid (Pk.Bst p m (t + 1) false) := Lib.hid (hS.st.take HA.out (fun h => hfit ((lens HNN.out HRL.out).2 h)))
                  obtain ⟨nm, hnm⟩ : ∃ x, Pk.num p t j = x := ⟨_, rfl⟩
                  have NM := Lib.hid hnm
                  have hnm1 : nm ≤ 100 := by have := Pk.num_le p t hj3; rw [hnm, hjl.out] at this; omega
                  have vn := add1n hnm1
                  have hss := hS.s
                  have hbase : w2.heap.size ≤ w8.heap.size := b8.size
                  clear hnm
                  go_wp2_with (at_builtin; refine wrA_law rfl (.tmp 90) (.tmp 91) rfl rfl S8 hbase rfl hr8 (few_le (k := 0) AR) ?_; rintro A9 c9 w9 hw9; have L9 := hw9.box' L8 hS.a1; have N9 := hw9.box' N8 hS.a2; have z0 := N9.at j (nbx_at p t hj3); rw [NM.out] at z0; have z1 := N9.cold j; have hs9 := hw9.2.1.size)
                  go_roundw
                  case rel =>
                    have b9 := hw9.rows S8 b8 (Nat.le_refl _) hbase
                    have a1' := hw9.apart hS.a1 (by omega)
                    have a2' := hw9.apart hS.a2 (by omega)
                    refine ⟨n' + rl, c9, kk + 1, t + 1, A9, false, ff, rfl, rfl, rfl, by go_num, by omega, Lib.hid (fun _ => by rw [HT.out]; omega), ⟨hS.fl, ST.out, ?_, a1', a2', L9.other (by omega) _, ?_, below_set b9 (by have := hS.b.size; have := HSW.out; omega) _, by simp; omega⟩⟩
                    · rw [Pk.rsb_more HA.out, ← List.append_assoc]
                      exact hw9.1.setO a2' _
                    · have h5 := N9.set j (.int .i64 ((nm : Int) + 1))
                      rw [← NM.out, HT.out, nbx_set p hj3 (List.getElem?_eq_some_iff.1 HQ.out).1] at h5
                      rw [← NM.out, HT.out]
                      exact h5
                  case measure => simp [intOf]; omega
          · obtain rfl : j = 3 := by omega
            have hends := hS.st.ends (fun h => by rw [hoff.out h, Pk.off_all])
            have EN := Lib.hid hends
            have FB : Pk.two ff := by rw [hS.fl, ← ZF.out, ← hends.2]; exact (Pk.right_first RI.out t).2.1
            have ffb : 0 ≤ ff ∧ ff ≤ 9223372036854775807 := by unfold Pk.two at FB; omega
            have zib : Pk.two zi := by rw [← ZI.out]; exact RI.out.1
            unfold Pk.two at zib
            have X3 := X.belowH hS.b
            have bs := hS.b.size
            have hPlt : w.heap.size < wr.heap.size := by omega
            have hNlt : s1 + 1 < wr.heap.size := by have := hS.s; omega
            have AR : Few n' := few_of' (by have h1 := Pk.rsb_taken_le RI.out t; have h2 := QL.out p.qs.length; rw [List.take_length] at h2; have h3 := hS.wr.1; rw [List.length_append] at h3; omega)
            have x0 := X3.at 0 rfl
            have x2 := X3.at 2 rfl
            clear FB hends
            go_wp2_with fail
            refine wp_region_held_drew (S := (fun w' => w'.cell? ⟨w.heap.size, 0, none⟩ = some (.int .i64 zi) ∧ w'.cell? ⟨w.heap.size, 2, none⟩ = some (.slice A1 k c1))) (by kernel_rfl) (by exact ⟨x0, x2⟩) (fun hHeld0 => ?_)
            refine tk 0 98 rfl hHeld0 ?_
            refine tk 1 99 rfl hHeld0 ?_
            refine tk 3 101 rfl hHeld0 ?_
            refine tk 5 103 rfl hHeld0 ?_
            refine tk 6 104 rfl hHeld0 ?_
            refine tk 7 105 rfl hHeld0 ?_
            refine wpAnyH_ready (rs := [2]) (by kernel_rfl) (by simp) (AllReadyH.cons (o := ⟨some 100, _, _, _, _, _⟩) rfl (fun K hK => ?_) AllReadyH.nil)
            go_simp
            (refine (rlay2_any none 0 0 w2.heap.size [] zi _ (Wr.nil _ _) (by exact bs) (by omega) (by omega)).mono ?_; rintro e w4 ⟨A4', c4', rfl, hw4⟩; obtain ⟨S4, F4⟩ := hw4.keepW hS.wr (fun g _ => apart_none g); have X4 := hw4.box' X3 (apart_none _); have N4 := hw4.box' hS.N (apart_none _); have p4 := hw4.apart (apart_none _) (by exact hPlt); have q4 := hw4.apart (apart_none _) (by exact hNlt); have b4 := hw4.rows (Wr.nil _ _) (show Below _ w2 wr.drew from hS.b.drew) (Nat.le_refl _) (by exact bs); have s4 := hw4.2.1.size; replace s4 : wr.heap.size ≤ w4.heap.size := s4; clear x0 x2; have x0 := X4.at 0 rfl; have x2 := X4.at 2 rfl)
            go_simp
            refine hK.out _ _ (by exact ⟨x0, x2⟩) (fun hHeld1 => ?_)
            clear hK hHeld0 K
            try simp only [Act.put, sA, sB, sC]
            refine wpAnyH_ready (rs := [4]) (by kernel_rfl) (by simp) (AllReadyH.cons (o := ⟨some 102, _, _, _, _, _⟩) rfl (fun K hK => ?_) AllReadyH.nil)
            go_simp
            (refine (rlay2_any A4' _ c4' w2.heap.size _ ff _ hw4.1 (by omega) (by omega) ffb).mono ?_; rintro e w5 ⟨A5', c5', rfl, hw5⟩; obtain ⟨S5, F5⟩ := hw5.keepW S4 F4; have X5 := hw5.box' X4 p4; have p5 := hw5.apart p4 (by omega); have N5 := hw5.box' N4 q4; have q5 := hw5.apart q4 (by omega); have b5 := hw5.rows hw4.1 b4 (Nat.le_refl _) (by omega); have s5 := hw5.2.1.size; clear x0 x2; have x0 := X5.at 0 rfl; have x2 := X5.at 2 rfl)
            go_simp
            refine hK.out _ _ (by exact ⟨x0, x2⟩) (fun hHeld2 => ?_)
            clear hK hHeld1 K
            try simp only [Act.put, sA, sB, sC]
            refine wpAnyH_ready (rs := [8]) (by kernel_rfl) (by simp) (AllReadyH.cons (o := ⟨some 106, _, _, _, _, _⟩) rfl (fun K hK => ?_) AllReadyH.nil)
            go_simp
            (refine (rlay2_any A5' _ c5' w2.heap.size _ (k : Int) _ hw5.1 (by omega) (by omega) (by omega)).mono ?_; rintro e w6 ⟨A6', c6', rfl, hw6⟩; obtain ⟨S6, F6⟩ := hw6.keepW S5 F5; have X6 := hw6.box' X5 p5; have p6 := hw6.apart p5 (by omega); have N6 := hw6.box' N5 q5; have q6 := hw6.apart q5 (by omega); have b6 := hw6.rows hw5.1 b5 (Nat.le_refl _) (by omega); have s6 := hw6.2.1.size; clear x0 x2; have x0 := X6.at 0 rfl; have x2 := X6.at 2 rfl)
            go_simp
            refine hK.out _ _ (by exact ⟨x0, x2⟩) (fun hHeld3 => ?_)
            clear hK hHeld2 K
            try simp only [Act.put, sA, sB, sC]
            refine tk 9 16 rfl hHeld3 ?_
            refine wpAnyH_done (by kernel_rfl) ?_ _
            clear x0 x2 X6 X5 X4 p6 p5 p4
            obtain ⟨m0, hm0⟩ : ∃ x, Pk.num p t 0 = x := ⟨_, rfl⟩
            obtain ⟨m1, hm1⟩ : ∃ x, Pk.num p t 1 = x := ⟨_, rfl⟩
            obtain ⟨m2, hm2⟩ : ∃ x, Pk.num p t 2 = x := ⟨_, rfl⟩
            have mb0 : 0 ≤ (m0 : Int) ∧ (m0 : Int) ≤ 9223372036854775807 := by have := Pk.num_le p t (j := 0) (by omega); have h := RI.out.2.2.2.1.1; rw [hm0] at this; have : m0 ≤ p.an.length := this; omega
            have mb1 : 0 ≤ (m1 : Int) ∧ (m1 : Int) ≤ 9223372036854775807 := by have := Pk.num_le p t (j := 1) (by omega); have h := RI.out.2.2.2.2.1.1; rw [hm1] at this; have : m1 ≤ p.au.length := this; omega
            have mb2 : 0 ≤ (m2 : Int) ∧ (m2 : Int) ≤ 9223372036854775807 := by have := Pk.num_le p t (j := 2) (by omega); have h := RI.out.2.2.2.2.2.1; rw [hm2] at this; have : m2 ≤ p.mo.length := this; omega
            unfold nbx at N6
            rw [hm0, hm1, hm2] at N6
            have M := Lib.hid (And.intro hm0 (And.intro hm1 hm2))
            clear hm0 hm1 hm2
            have z0 := N6.at 0 rfl
            have z1 := N6.at 1 rfl
            have z2 := N6.at 2 rfl
            go_wp2_with fail
            have H6 : Wr w6.drew w2.heap.size A6' _ c6' _ := hw6.1
            have S6d : Wr w6.drew w2.heap.size _ _ _ _ := S6
            have N6d : Box w6.drew (s1 + 1) _ _ := N6
            have b6d : Below w2.heap.size w2 w6.drew := b6.drew
            refine wp_region_held_drew (S := (fun w' => w'.cell? ⟨s1 + 1, 0, none⟩ = some (.int .i64 (m0 : Int)) ∧ w'.cell? ⟨s1 + 1, 1, none⟩ = some (.int .i64 (m1 : Int)) ∧ w'.cell? ⟨s1 + 1, 2, none⟩ = some (.int .i64 (m2 : Int)))) (by kernel_rfl) (by exact ⟨z0, z1, z2⟩) (fun hHeld0 => ?_)
            refine tk 0 107 rfl hHeld0 ?_
            refine tk 1 108 rfl hHeld0 ?_
            refine tk 2 109 rfl hHeld0 ?_
            refine tk 4 111 rfl hHeld0 ?_
            refine tk 5 112 rfl hHeld0 ?_
            refine tk 7 114 rfl hHeld0 ?_
            refine tk 8 115 rfl hHeld0 ?_
            refine tk 10 117 rfl hHeld0 ?_
            refine wpAnyH_ready (rs := [3]) (by kernel_rfl) (by simp) (AllReadyH.cons (o := ⟨some 110, _, _, _, _, _⟩) rfl (fun K hK => ?_) AllReadyH.nil)
            go_simp
            (refine (rlay2_any A6' _ c6' w2.heap.size _ (m0 : Int) _ H6 (by show _ ≤ w6.heap.size; omega) (by omega) mb0).mono ?_; rintro e w7 ⟨A7', c7', rfl, hw7⟩; obtain ⟨S7, F7⟩ := hw7.keepW S6d F6; have N7 := hw7.box' N6d q6; have q7 := hw7.apart q6 (by show _ < w6.heap.size; omega); have b7 := hw7.rows H6 b6d (Nat.le_refl _) (by show _ ≤ w6.heap.size; omega); have s7 := hw7.2.1.size; replace s7 : w6.heap.size ≤ w7.heap.size := s7; clear z0 z1 z2; have z0 := N7.at 0 rfl; have z1 := N7.at 1 rfl; have z2 := N7.at 2 rfl)
            go_simp
            refine hK.out _ _ (by exact ⟨z0, z1, z2⟩) (fun hHeld1 => ?_)
            clear hK hHeld0 K
            try simp only [Act.put, sA, sB, sC]
            refine wpAnyH_ready (rs := [6]) (by kernel_rfl) (by simp) (AllReadyH.cons (o := ⟨some 113, _, _, _, _, _⟩) rfl (fun K hK => ?_) AllReadyH.nil)
            go_simp
            (refine (rlay2_any A7' _ c7' w2.heap.size _ (m1 : Int) _ hw7.1 (by omega) (by omega) mb1).mono ?_; rintro e w8 ⟨A8', c8', rfl, hw8⟩; obtain ⟨S8, F8⟩ := hw8.keepW S7 F7; have N8 := hw8.box' N7 q7; have q8 := hw8.apart q7 (by omega); have b8 := hw8.rows hw7.1 b7 (Nat.le_refl _) (by omega); have s8 := hw8.2.1.size; clear z0 z1 z2; have z0 := N8.at 0 rfl; have z1 := N8.at 1 rfl; have z2 := N8.at 2 rfl)
            go_simp
            refine hK.out _ _ (by exact ⟨z0, z1, z2⟩) (fun hHeld2 => ?_)
            clear hK hHeld1 K
            try simp only [Act.put, sA, sB, sC]
            refine wpAnyH_ready (rs := [9]) (by kernel_rfl) (by simp) (AllReadyH.cons (o := ⟨some 116, _, _, _, _, _⟩) rfl (fun K hK => ?_) AllReadyH.nil)
            go_simp
            (refine (rlay2_any A8' _ c8' w2.heap.size _ (m2 : Int) _ hw8.1 (by omega) (by omega) mb2).mono ?_; rintro e w9 ⟨A9', c9', rfl, hw9⟩; obtain ⟨S9, F9⟩ := hw9.keepW S8 F8; have N9 := hw9.box' N8 q8; have q9 := hw9.apart q8 (by omega); have b9 := hw9.rows hw8.1 b8 (Nat.le_refl _) (by omega); have s9 := hw9.2.1.size; clear z0 z1 z2; have z0 := N9.at 0 rfl; have z1 := N9.at 1 rfl; have z2 := N9.at 2 rfl)
            go_simp
            refine hK.out _ _ (by exact ⟨z0, z1, z2⟩) (fun hHeld3 => ?_)
            clear hK hHeld2 K
            try simp only [Act.put, sA, sB, sC]
            refine wpAnyH_ready (rs := [11]) (by kernel_rfl) (by simp) (AllReadyH.cons (o := ⟨some 118, _, _, _, _, _⟩) rfl (fun K hK => ?_) AllReadyH.nil)
            (refine wr_step rfl (.tmp 116) (.tmp 117) rfl (by rfl) hw9.1 (by omega) (by rfl) S9.rd (few_add AR (by omega)) ?_; rintro A10 c10 w10 hw10; have N10 := hw10.box' N9 q9; have b10 := hw10.rows hw9.1 b9 (Nat.le_refl _) (by omega); clear z0 z1 z2; have z0 := N10.at 0 rfl; have z1 := N10.at 1 rfl; have z2 := N10.at 2 rfl)
            go_simp
            refine hK.out _ _ (by exact ⟨z0, z1, z2⟩) (fun hHeld4 => ?_)
            clear hK hHeld3 K
            try simp only [Act.put, sA, sB, sC]
            refine tk 12 4 rfl hHeld4 ?_
            refine tk 13 5 rfl hHeld4 ?_
            refine wpAnyH_done (by kernel_rfl) ?_ _
            go_wp2
            go_ret2
            have EQ : Pk.whole (Pk.kept p m) = [] ++ Pk.b2 zi.toNat ++ Pk.b2 ff.toNat ++ Pk.b2 ((k : Int)).toNat ++ Pk.b2 ((m0 : Int)).toNat ++ Pk.b2 ((m1 : Int)).toNat ++ Pk.b2 ((m2 : Int)).toNat ++ (Pk.qsb p.qs ++ Pk.rsb p.qs ((Pk.all p).take t)) := by
              rw [EN.out.1, Pk.whole_laid, EN.out.2, ZF.out, ← hS.fl, ZI.out, LN.out, M.out.1, M.out.2.1, M.out.2.2]
              simp only [Int.toNat_natCast]
            have hlen := hw10.1.1
            rw [E.out]
            refine ⟨⟨A10, c10, ?_, ?_, ?_, hw10.1.2.2.1⟩, b.trans (b10.mono (by omega))⟩
            · show Ending.returned (.tuple #[.slice A10 _ c10, .int .i64 0]) = Ending.returned (.tuple #[.slice A10 (Pk.whole (Pk.kept p m)).length c10, .int .i64 0])
              rw [EQ, hlen]
            · show Rd w10 w10.heap.size 1 A10 (Pk.whole (Pk.kept p m)).length (U (Pk.whole (Pk.kept p m)))
              have hrd := hw10.1.rd
              rw [EQ]
              rw [← hlen] at hrd
              exact hrd
            · show (Pk.whole (Pk.kept p m)).length ≤ c10
              rw [EQ, hlen]
              exact hw10.1.2.1
end Go.Proofs.Ytbioblknhfmelaa

