/- The document's services: what a value says. -/
import Derived.Test.YtfgpncbcelafoaaYRef2
namespace Go.Proofs.Ytfgpncbcelafoaa
set_option linter.unusedVariables false
set_option linter.unusedSimpArgs false
open Go.RowKit
/-- a text, what is left, an error -/
def TTR (t r : List UInt8) (er : Int) (w : World) (e : Ending) (w' : World) : Prop := (∃ A c, e = .returned (.tuple #[.string (strB t), .slice A r.length c, .int .i64 er]) ∧ Rd w' w'.heap.size 1 A r.length (U r) ∧ r.length ≤ c ∧ c ≤ 9223372036854775807) ∧ Below w.heap.size w w'
theorem kdrewY {B : Nat} {w w' : World} (h : Below B w w') (q : Nat) : Below B w (w'.drewN q) := ⟨h.os, h.tape, h.output, h.size, h.block⟩
theorem rytt_at {l t r : List UInt8} {e : Nat} {er most : Int} (hq : Q.taketext l most = (e, t, r)) (he : (e : Int) = er) (A : Option Addr) (n c : Nat) (w : World) (h : Rd w w.heap.size 1 A n (U l)) (hc : n ≤ c ∧ c ≤ 9223372036854775807) :
    Calls Try.prog 28 #[.slice A n c, .int .i64 most] w (TTR t r er w) := by
  have := rtaketext_any A n c w.heap.size l most w h hc.1 hc.2
  rw [hq] at this
  subst he
  exact this.mono fun _ _ ⟨⟨A', c', h1, h2, h3, h4⟩, q, h5⟩ => ⟨⟨A', c', h1, by subst h5; exact h2, h3, h4⟩, by subst h5; exact kdrewY (Below.refl _ _) q⟩
/-- a number, what is left, an error -/
def TNR (x : Int) (r : List UInt8) (er : Int) (w : World) (e : Ending) (w' : World) : Prop := (∃ A c, e = .returned (.tuple #[.int .i64 x, .slice A r.length c, .int .i64 er]) ∧ Rd w' w'.heap.size 1 A r.length (U r) ∧ r.length ≤ c ∧ c ≤ 9223372036854775807) ∧ Below w.heap.size w w'
theorem rytake_at {l r : List UInt8} {e N k : Nat} {x er : Int} (hq : Q.take l = (e, N, k)) (hr : Q.rest l = r) (hx : (N : Int) = x) (he : (e : Int) = er) (A : Option Addr) (n c : Nat) (w : World) (h : Rd w w.heap.size 1 A n (U l)) (hc : n ≤ c ∧ c ≤ 9223372036854775807) :
    Calls Try.prog 29 #[.slice A n c] w (TNR x r er w) := by
  have := rtake_any A n c w.heap.size l w h hc.1 hc.2
  rw [hq] at this
  subst he hr hx
  exact this.mono fun _ _ ⟨⟨A', c', h1, h2, h3, h4⟩, q, h5⟩ => ⟨⟨A', c', h1, by subst h5; exact h2, h3, h4⟩, by subst h5; exact kdrewY (Below.refl _ _) q⟩
/-- is it no byte -/
def noU8 : Value → Bool
  | .int .u8 _ => false
  | _ => true
/-- bytes' reading behind a store into a box that holds no bytes -/
theorem rd_box {w : World} {b : Nat} {T : TypeId} {n : Nat} {A : Option Addr} {l : List UInt8} {cs : Array Value} {o : Nat} (hB : Box w b T cs) (hh : cs.toList.all noU8 = true) (h : Rd w w.heap.size 1 A n (U l)) (v : Value) : Rd (w.setCell ⟨b, o, none⟩ v) (w.setCell ⟨b, o, none⟩ v).heap.size 1 A n (U l) := by
  by_cases hn : n = 0
  · exact ⟨h.1, fun h0 => absurd hn h0⟩
  · refine (h.other (fun bk ok hA e => ?_) v).more (by simp)
    subst e
    obtain ⟨b', o', e', _, hc⟩ := h.2 hn
    rw [hA] at e'
    obtain ⟨rfl, rfl⟩ : bk = b' ∧ ok = o' := by simpa using e'
    have hl := ulen h
    have h0 := hc 0 (by rw [U_length]; omega)
    rw [cell_of_row w bk (ok + 0) cs T (0, 0) hB] at h0
    obtain ⟨x, hx⟩ : ∃ x, l[0]? = some x := ⟨_, List.getElem?_eq_getElem (by omega)⟩
    rw [U_get, hx] at h0
    have hm : Value.int .u8 (x.toNat : Int) ∈ cs.toList := by
      rw [← Array.getElem?_toList] at h0
      exact List.mem_of_getElem? h0
    have := List.all_eq_true.1 hh _ hm
    simp [noU8] at this
/-- a service and an error -/
def SvR (x : Svc) (er : Int) (w : World) (e : Ending) (w' : World) : Prop := e = .returned (.tuple #[ysv x, .int .i64 er]) ∧ Below w.heap.size w w'
/-- how far the numbers are taken -/
def NumAt (l0 : List UInt8) (k : Nat) (x0 x1 x2 x3 : Int) (r : List UInt8) (er : Int) : Prop :=
  (er = 0 ∧ ∃ a : List Nat, a.length = k ∧ Y.nums 4 [] l0 = Y.nums (4 - k) a r ∧ (a.map fun n : Nat => (n : Int)) = [x0, x1, x2, x3].take k) ∨ (er ≠ 0 ∧ 1 ≤ k ∧ ∃ e : Nat, (e : Int) = er ∧ Y.nums 4 [] l0 = (e, [], []))
theorem nums_no {k : Nat} {a : List Nat} {l : List UInt8} (h : (Q.take l).1 ≠ 0) : Y.nums (k + 1) a l = ((Q.take l).1, [], []) := by unfold Y.nums; rw [if_pos h]
theorem nums_yes {k N j : Nat} {a : List Nat} {l : List UInt8} (h : Q.take l = (0, N, j)) : Y.nums (k + 1) a l = Y.nums k (a ++ [N]) (Q.rest l) := by
  show (if (Q.take l).1 ≠ 0 then _ else _) = _
  rw [h]
  simp
/-- what lies in the four places -/
def four (x0 x1 x2 x3 : Int) (k : Nat) (v : Int) : Int × Int × Int × Int := if k = 0 then (v, x1, x2, x3) else if k = 1 then (x0, v, x2, x3) else if k = 2 then (x0, x1, v, x3) else (x0, x1, x2, v)
theorem num_step {l0 r r' : List UInt8} {k e N j : Nat} {x0 x1 x2 x3 : Int} (hk : k < 4) (h : NumAt l0 k x0 x1 x2 x3 r 0) (hq : Q.take r = (e, N, j)) (hr : Q.rest r = r') :
    NumAt l0 (k + 1) (four x0 x1 x2 x3 k (N : Int)).1 (four x0 x1 x2 x3 k (N : Int)).2.1 (four x0 x1 x2 x3 k (N : Int)).2.2.1 (four x0 x1 x2 x3 k (N : Int)).2.2.2 r' (e : Int) := by
  rcases h with ⟨_, a, h1, h2, h3⟩ | ⟨h1, _⟩
  · obtain ⟨m, hm⟩ : ∃ m, 4 - k = m + 1 := ⟨3 - k, by omega⟩
    by_cases he : e = 0
    · subst he
      left
      refine ⟨rfl, a ++ [N], by simp [h1], ?_, ?_⟩
      · rw [h2, hm, nums_yes hq, hr, show 4 - (k + 1) = m by omega]
      · rw [List.map_append, h3]
        have : k = 0 ∨ k = 1 ∨ k = 2 ∨ k = 3 := by omega
        rcases this with rfl | rfl | rfl | rfl <;> rfl
    · right
      refine ⟨by omega, by omega, e, rfl, ?_⟩
      rw [h2, hm, nums_no (by rw [hq]; exact he), hq]
  · exact absurd rfl h1
theorem num_end {l0 r : List UInt8} {x0 x1 x2 x3 : Int} (h : NumAt l0 4 x0 x1 x2 x3 r 0) : ∃ n0 n1 n2 n3 : Nat, (n0 : Int) = x0 ∧ (n1 : Int) = x1 ∧ (n2 : Int) = x2 ∧ (n3 : Int) = x3 ∧ Y.nums 4 [] l0 = (0, [n0, n1, n2, n3], r) := by
  rcases h with ⟨_, a, h1, h2, h3⟩ | ⟨h1, _⟩
  · match a, h1, h2, h3 with
    | [n0, n1, n2, n3], _, h2, h3 =>
      simp only [List.map_cons, List.map_nil, List.take_succ_cons, List.take_zero, List.cons.injEq, and_true] at h3
      exact ⟨n0, n1, n2, n3, h3.1, h3.2.1, h3.2.2.1, h3.2.2.2, h2⟩
  · exact absurd rfl h1
/-- the two texts that were taken -/
def Got (v nm pr r2 : List UInt8) : Prop := ∃ r1, Q.taketext v 20 = (0, nm, r1) ∧ Q.taketext r1 20 = (0, pr, r2)
/-- how far a value is taken -/
def Stat (v nm pr : List UInt8) (k : Nat) (x0 x1 x2 x3 : Int) (r : List UInt8) (er : Int) : Prop := (er = 0 ∧ ∃ r2, Got v nm pr r2 ∧ NumAt r2 k x0 x1 x2 x3 r 0) ∨ (er ≠ 0 ∧ Y.dec v = (Y.none, er))
theorem stat_start {v nm pr r2 : List UInt8} (h : Got v nm pr r2) : Stat v nm pr 0 0 0 0 0 r2 0 := Or.inl ⟨rfl, r2, h, Or.inl ⟨rfl, [], rfl, rfl, rfl⟩⟩
theorem stat_bad1 {v nm pr nm' r1 r : List UInt8} {k e : Nat} {x0 x1 x2 x3 : Int} (h : Q.taketext v 20 = (e, nm', r1)) (he : e ≠ 0) : Stat v nm pr k x0 x1 x2 x3 r (e : Int) := Or.inr ⟨by omega, by rw [Y.dec_e1 (by rw [h]; exact he), h]⟩
theorem stat_bad2 {v nm pr nm' pr' r1 r2 r : List UInt8} {k e : Nat} {x0 x1 x2 x3 : Int} (h : Q.taketext v 20 = (0, nm', r1)) (h2 : Q.taketext r1 20 = (e, pr', r2)) (he : e ≠ 0) : Stat v nm pr k x0 x1 x2 x3 r (e : Int) := Or.inr ⟨by omega, by rw [Y.dec_e2 h (by rw [h2]; exact he), h2]⟩
theorem stat_step {v nm pr r r' : List UInt8} {k e N j : Nat} {x0 x1 x2 x3 : Int} (hk : k < 4) (h : Stat v nm pr k x0 x1 x2 x3 r 0) (hq : Q.take r = (e, N, j)) (hr : Q.rest r = r') :
    Stat v nm pr (k + 1) (four x0 x1 x2 x3 k (N : Int)).1 (four x0 x1 x2 x3 k (N : Int)).2.1 (four x0 x1 x2 x3 k (N : Int)).2.2.1 (four x0 x1 x2 x3 k (N : Int)).2.2.2 r' (e : Int) := by
  rcases h with ⟨_, r2, ⟨r1, g1, g2⟩, h⟩ | ⟨h, _⟩
  · have hs := num_step hk h hq hr
    by_cases he : e = 0
    · subst he
      exact Or.inl ⟨rfl, r2, ⟨r1, g1, g2⟩, hs⟩
    · right
      refine ⟨by omega, ?_⟩
      rcases hs with ⟨h1, _⟩ | ⟨_, _, e', h1, h2⟩
      · omega
      · obtain rfl : e' = e := by omega
        rw [Y.dec_e3 g1 g2 (by rw [h2]; exact he), h2]
  · exact absurd rfl h
theorem stat_end {v nm pr r : List UInt8} {x0 x1 x2 x3 : Int} (h : Stat v nm pr 4 x0 x1 x2 x3 r 0) : ∃ n0 n1 n2 n3 : Nat, (n0 : Int) = x0 ∧ (n1 : Int) = x1 ∧ (n2 : Int) = x2 ∧ (n3 : Int) = x3 ∧ Y.dec v = Y.made nm pr [n0, n1, n2, n3] r ∧ nm.length ≤ 20 ∧ pr.length ≤ 20 := by
  rcases h with ⟨_, r2, ⟨r1, g1, g2⟩, h⟩ | ⟨h, _⟩
  · obtain ⟨n0, n1, n2, n3, h0, h1, h2, h3, h4⟩ := num_end h
    have a1 := (Y.taketext_once g1).2
    have a2 := (Y.taketext_once g2).2
    exact ⟨n0, n1, n2, n3, h0, h1, h2, h3, Y.dec_is g1 g2 h4, by omega, by omega⟩
  · exact absurd rfl h
/-- the frame behind the texts -/
def Texts (W : World) (ob xb gb : Nat) (v : List UInt8) (s6 s7 : Value) (wx : World) : Prop := ∃ (nm pr r : List UInt8) (er : Int) (A : Option Addr) (c : Nat), s6 = .slice A r.length c ∧ s7 = .int .i64 er ∧ Stat v nm pr 0 0 0 0 0 r er ∧
  Box wx ob 23 #[.string ⟨#[]⟩, .string ⟨#[]⟩, .int .i64 0, .int .i64 0, .int .i64 0, .bool false] ∧ Box wx xb 23 #[.string (strB nm), .string (strB pr), .int .i64 0, .int .i64 0, .int .i64 0, .bool false] ∧ Box wx gb 51 #[.int .i64 0, .int .i64 0, .int .i64 0, .int .i64 0] ∧ Rd wx wx.heap.size 1 A r.length (U r) ∧ (r.length ≤ c ∧ c ≤ 9223372036854775807) ∧ Below W.heap.size W wx
/-- the frame in the loop -/
def Taken (W : World) (ob xb gb : Nat) (v : List UInt8) (s8 s6 s7 : Value) (wx : World) : Prop := ∃ (nm pr r : List UInt8) (k : Nat) (x0 x1 x2 x3 er : Int) (A : Option Addr) (c : Nat), k ≤ 4 ∧ s8 = .int .i64 (k : Int) ∧ s6 = .slice A r.length c ∧ s7 = .int .i64 er ∧ Stat v nm pr k x0 x1 x2 x3 r er ∧
  Box wx ob 23 #[.string ⟨#[]⟩, .string ⟨#[]⟩, .int .i64 0, .int .i64 0, .int .i64 0, .bool false] ∧ Box wx xb 23 #[.string (strB nm), .string (strB pr), .int .i64 0, .int .i64 0, .int .i64 0, .bool false] ∧ Box wx gb 51 #[.int .i64 x0, .int .i64 x1, .int .i64 x2, .int .i64 x3] ∧ Rd wx wx.heap.size 1 A r.length (U r) ∧ (r.length ≤ c ∧ c ≤ 9223372036854775807) ∧ Below W.heap.size W wx
theorem made_yes {n p l : List UInt8} {n0 n1 n2 n3 : Nat} (h1 : l = []) (h2 : n3 ≤ 1) (h3 : Y.right ⟨n, p, n0, n1, n2, decide (n3 = 1)⟩) : Y.made n p [n0, n1, n2, n3] l = (⟨n, p, n0, n1, n2, decide (n3 = 1)⟩, 0) := if_pos ⟨h1, h2, h3⟩
theorem made_no {n p l : List UInt8} {n0 n1 n2 n3 : Nat} (h : ¬ (l = [] ∧ n3 ≤ 1 ∧ Y.right ⟨n, p, n0, n1, n2, decide (n3 = 1)⟩)) : Y.made n p [n0, n1, n2, n3] l = (Y.none, 3) := if_neg h
set_option maxHeartbeats 8000000 in
set_option maxRecDepth 20000 in
theorem rydecode_any (v : List UInt8) (hv : v.length ≤ 140737488351232) (w : World) : Calls Try.prog 10 #[.string (strB v)] w (SvR (Y.dec v).1 (Y.dec v).2 w) := by
  have O := ((Box.new w #[.string ⟨#[]⟩, .string ⟨#[]⟩, .int .i64 0, .int .i64 0, .int .i64 0, .bool false] 23).alloc (.cells #[.string ⟨#[]⟩, .string ⟨#[]⟩, .int .i64 0, .int .i64 0, .int .i64 0, .bool false] 23)).alloc (.cells #[.int .i64 0, .int .i64 0, .int .i64 0, .int .i64 0] 51)
  have X := (Box.new (w.alloc (.cells #[.string ⟨#[]⟩, .string ⟨#[]⟩, .int .i64 0, .int .i64 0, .int .i64 0, .bool false] 23)) #[.string ⟨#[]⟩, .string ⟨#[]⟩, .int .i64 0, .int .i64 0, .int .i64 0, .bool false] 23).alloc (.cells #[.int .i64 0, .int .i64 0, .int .i64 0, .int .i64 0] 51)
  have G := Box.new ((w.alloc (.cells #[.string ⟨#[]⟩, .string ⟨#[]⟩, .int .i64 0, .int .i64 0, .int .i64 0, .bool false] 23)).alloc (.cells #[.string ⟨#[]⟩, .string ⟨#[]⟩, .int .i64 0, .int .i64 0, .int .i64 0, .bool false] 23)) #[.int .i64 0, .int .i64 0, .int .i64 0, .int .i64 0] 51
  have b := (((Below.refl w.heap.size w).alloc (Nat.le_refl _) (.cells #[.string ⟨#[]⟩, .string ⟨#[]⟩, .int .i64 0, .int .i64 0, .int .i64 0, .bool false] 23)).alloc (by simp) (.cells #[.string ⟨#[]⟩, .string ⟨#[]⟩, .int .i64 0, .int .i64 0, .int .i64 0, .bool false] 23)).alloc (by simp; omega) (.cells #[.int .i64 0, .int .i64 0, .int .i64 0, .int .i64 0] 51)
  rw [show (w.alloc (.cells #[.string ⟨#[]⟩, .string ⟨#[]⟩, .int .i64 0, .int .i64 0, .int .i64 0, .bool false] 23)).heap.size = w.heap.size + 1 by simp] at X
  rw [show ((w.alloc (.cells #[.string ⟨#[]⟩, .string ⟨#[]⟩, .int .i64 0, .int .i64 0, .int .i64 0, .bool false] 23)).alloc (.cells #[.string ⟨#[]⟩, .string ⟨#[]⟩, .int .i64 0, .int .i64 0, .int .i64 0, .bool false] 23)).heap.size = w.heap.size + 1 + 1 by simp] at G
  go_enter Try.func10, Try.ntmps10
  go_upto_region 3 with fail
  generalize ((w.alloc (.cells #[.string ⟨#[]⟩, .string ⟨#[]⟩, .int .i64 0, .int .i64 0, .int .i64 0, .bool false] 23)).alloc (.cells #[.string ⟨#[]⟩, .string ⟨#[]⟩, .int .i64 0, .int .i64 0, .int .i64 0, .bool false] 23)).alloc (.cells #[.int .i64 0, .int .i64 0, .int .i64 0, .int .i64 0] 51) = w3 at *
  have hby := run_bytes w3 (strB v)
  have hcg := strC_ge w3 (strB v)
  have hcl := strC_le w3 (strB v) (by rw [strB_size]; unfold maxLen; omega)
  unfold maxLen at hcl
  have R : Rd (w3.alloc (strO w3 (strB v))).drew (w3.alloc (strO w3 (strB v))).drew.heap.size 1 (some ⟨w3.heap.size, 0, none⟩) v.length (U v) := (Rd.bytes w3 v).more (show w3.heap.size + 1 ≤ (w3.drew.alloc (strO w3 (strB v))).heap.size by simp)
  rw [strB_size] at hby hcg
  generalize strC w3 (strB v) = cv at *
  replace O := (O.alloc (strO w3 (strB v))).drew
  replace X := (X.alloc (strO w3 (strB v))).drew
  replace G := (G.alloc (strO w3 (strB v))).drew
  replace b := (b.alloc b.size (strO w3 (strB v))).drew
  go_wp2_with fail
  clear hby
  generalize (w3.alloc (strO w3 (strB v))).drew = w4 at *
  generalize w3.heap.size = vb at *
  have HC : Hid (v.length ≤ cv ∧ cv ≤ 9223372036854775807) := Lib.hid ⟨hcg, hcl⟩
  clear hcg hcl
  rcases hT1 : Q.taketext v 20 with ⟨e1, nm, r1⟩
  obtain ⟨z1, hz1⟩ : ∃ z : Int, (e1 : Int) = z := ⟨_, rfl⟩
  refine (rytt_at hT1 hz1 _ _ _ _ R HC.out).mono ?_
  rintro _ w5 ⟨⟨A5, c5, rfl, R5, hc5⟩, hb⟩
  have HT1 := Lib.hid hT1
  have HZ1 := Lib.hid hz1
  clear R hT1 hz1
  replace O := O.belowH hb
  replace X := X.belowH hb
  replace G := G.belowH hb
  replace b := b.trans (hb.mono b.size)
  clear hb
  have x0 := X.at 0 rfl
  have x1 := X.at 1 rfl
  have x2 := X.at 2 rfl
  have x3 := X.at 3 rfl
  have x4 := X.at 4 rfl
  have x5 := X.at 5 rfl
  have o0 := O.at 0 rfl
  have o1 := O.at 1 rfl
  have o2 := O.at 2 rfl
  have o3 := O.at 3 rfl
  have o4 := O.at 4 rfl
  have o5 := O.at 5 rfl
  have xc := X.cold
  have oc := O.cold
  have xl := X.lt
  have ol := O.lt
  have hob : w.heap.size < w5.heap.size := O.lt
  go_upto_if 19 with fail
  have X2 := X.set 0 (.string (strB nm))
  have O2 := O.other (b' := w.heap.size + 1) (o := 0) (by omega) (.string (strB nm))
  have G2 := G.other (b' := w.heap.size + 1) (o := 0) (by omega) (.string (strB nm))
  have b2 := below_set (o := 0) b (show w.heap.size ≤ w.heap.size + 1 by omega) (.string (strB nm))
  have R2 : Rd (w5.setCell ⟨w.heap.size + 1, 0, none⟩ (.string (strB nm))) (w5.setCell ⟨w.heap.size + 1, 0, none⟩ (.string (strB nm))).heap.size 1 A5 r1.length (U r1) := rd_box X rfl R5 _
  clear O X G b R5 hob
  clear x0 x1 x2 x3 x4 x5 xc xl o0 o1 o2 o3 o4 o5 oc ol
  generalize w5.setCell ⟨w.heap.size + 1, 0, none⟩ (.string (strB nm)) = w6 at *
  go_cut [6, 7] (Texts w w.heap.size (w.heap.size + 1) (w.heap.size + 1 + 1) v)
  case first =>
    by_cases h1 : z1 = 0
    rotate_left
    · have t1 : (z1 == 0) = false := beq_eq_false_iff_ne.2 h1
      have ST : Stat v nm [] 0 0 0 0 0 r1 z1 := by rw [← HZ1.out]; exact stat_bad1 HT1.out (fun h => h1 (by rw [← HZ1.out, h]; rfl))
      have HST := Lib.hid ST
      clear ST h1
      go_wp2_with fail
      go_meet
      exact ⟨nm, [], r1, z1, A5, c5, rfl, rfl, HST.out, O2, X2, G2, R2, hc5, b2⟩
    · subst h1
      have e10 : e1 = 0 := by have := HZ1.out; omega
      subst e10
      rcases hT2 : Q.taketext r1 20 with ⟨e2, pr, r2⟩
      obtain ⟨z2, hz2⟩ : ∃ z : Int, (e2 : Int) = z := ⟨_, rfl⟩
      have HT2 := Lib.hid hT2
      have HZ2 := Lib.hid hz2
      clear hT2 hz2
      go_wp2_with fail
      refine (rytt_at HT2.out HZ2.out _ _ _ _ R2 hc5).mono ?_
      rintro _ w7 ⟨⟨A7, c7, rfl, R7, hc7⟩, hb⟩
      replace O2 := O2.belowH hb
      replace X2 := X2.belowH hb
      replace G2 := G2.belowH hb
      replace b2 := b2.trans (hb.mono b2.size)
      clear hb R2
      have y0 := X2.at 0 rfl
      have y1 := X2.at 1 rfl
      have yc := X2.cold
      have X3 := X2.set 1 (.string (strB pr))
      have O3 := O2.other (b' := w.heap.size + 1) (o := 1) (by omega) (.string (strB pr))
      have G3 := G2.other (b' := w.heap.size + 1) (o := 1) (by omega) (.string (strB pr))
      have b3 := below_set (o := 1) b2 (show w.heap.size ≤ w.heap.size + 1 by omega) (.string (strB pr))
      have R3 : Rd (w7.setCell ⟨w.heap.size + 1, 1, none⟩ (.string (strB pr))) (w7.setCell ⟨w.heap.size + 1, 1, none⟩ (.string (strB pr))).heap.size 1 A7 r2.length (U r2) := rd_box X2 rfl R7 _
      have ST : Stat v nm pr 0 0 0 0 0 r2 z2 := by
        rw [← HZ2.out]
        by_cases he : e2 = 0
        · subst he; exact stat_start ⟨r1, HT1.out, HT2.out⟩
        · exact stat_bad2 HT1.out HT2.out he
      have HST := Lib.hid ST
      clear ST
      go_wp2_with fail
      go_meet
      exact ⟨nm, pr, r2, z2, A7, c7, rfl, rfl, HST.out, O3, X3, G3, R3, hc7, b3⟩
  case rest =>
    clear O2 X2 G2 b2 R2 HT1 HZ1 hc5
    obtain ⟨nm', pr, r, er, A, c, rfl, rfl, hst, O, X, G, R, hc, b⟩ := hcut
    go_wp2_with fail
    go_loopw [8, 6, 7] (Taken w w.heap.size (w.heap.size + 1) (w.heap.size + 1 + 1) v) (fun i _ _ _ => 4 - (intOf i).toNat)
    case atStart => exact ⟨nm', pr, r, 0, 0, 0, 0, 0, er, A, c, by omega, rfl, rfl, rfl, hst, O, X, G, R, hc, b⟩
    case round =>
      clear O X G R hc b hst
      obtain ⟨nm', pr', r', k, x0, x1, x2, x3, er', A', c', hk, rfl, rfl, rfl, hst, O, X, G, R, hc, b⟩ := hrel
      have HST := Lib.hid hst
      clear hst
      have hk0 : (0 : Int) ≤ (k : Int) := by omega
      by_cases he : er' = 0
      · subst he
        by_cases hk4 : k < 4
        · have g1 : decide ((k : Int) < 4) = true := decide_eq_true (by omega)
          have g1' : decide (k < 4) = true := decide_eq_true (by omega)
          rcases hT : Q.take r' with ⟨e5, N5, j5⟩
          obtain ⟨z5, hz5⟩ : ∃ z : Int, (e5 : Int) = z := ⟨_, rfl⟩
          obtain ⟨x5, hx5⟩ : ∃ z : Int, (N5 : Int) = z := ⟨_, rfl⟩
          obtain ⟨r5, hr5⟩ : ∃ l, Q.rest r' = l := ⟨_, rfl⟩
          have NST := Lib.hid (stat_step hk4 HST.out hT hr5)
          rw [hz5, hx5] at NST
          have HA := Lib.hid (And.intro hT (And.intro hr5 (And.intro hx5 hz5)))
          clear hT hz5 hx5 hr5
          go_wp2_with fail
          refine (rytake_at HA.out.1 HA.out.2.1 HA.out.2.2.1 HA.out.2.2.2 _ _ _ _ R hc).mono ?_
          rintro _ wk ⟨⟨A6, c6, rfl, R6, hc6⟩, hb⟩
          replace O := O.belowH hb
          replace X := X.belowH hb
          replace G := G.belowH hb
          replace b := b.trans (hb.mono b.size)
          clear hb R hc HST HA
          have g0 := G.at 0 (v := .int .i64 x0) rfl
          have g1 := G.at 1 (v := .int .i64 x1) rfl
          have g2 := G.at 2 (v := .int .i64 x2) rfl
          have g3 := G.at 3 (v := .int .i64 x3) rfl
          have gc := G.cold
          have G2 := G.set k (.int .i64 x5)
          have O2 := O.other (b' := w.heap.size + 1 + 1) (o := k) (by omega) (.int .i64 x5)
          have X2 := X.other (b' := w.heap.size + 1 + 1) (o := k) (by omega) (.int .i64 x5)
          have b2 := below_set (o := k) b (show w.heap.size ≤ w.heap.size + 1 + 1 by omega) (.int .i64 x5)
          have R2 : Rd (wk.setCell ⟨w.heap.size + 1 + 1, k, none⟩ (.int .i64 x5)) (wk.setCell ⟨w.heap.size + 1 + 1, k, none⟩ (.int .i64 x5)).heap.size 1 A6 r5.length (U r5) := rd_box G rfl R6 _
          clear O X G b R6
          have hkk : k = 0 ∨ k = 1 ∨ k = 2 ∨ k = 3 := by omega
          rcases hkk with rfl | rfl | rfl | rfl
          all_goals go_wp2
          all_goals go_roundw
          case rel => exact ⟨nm', pr', r5, 1, x5, x1, x2, x3, z5, A6, c6, by omega, by go_num, rfl, rfl, NST.out, O2, X2, G2, R2, hc6, b2⟩
          case rel => exact ⟨nm', pr', r5, 2, x0, x5, x2, x3, z5, A6, c6, by omega, by go_num, rfl, rfl, NST.out, O2, X2, G2, R2, hc6, b2⟩
          case rel => exact ⟨nm', pr', r5, 3, x0, x1, x5, x3, z5, A6, c6, by omega, by go_num, rfl, rfl, NST.out, O2, X2, G2, R2, hc6, b2⟩
          case rel => exact ⟨nm', pr', r5, 4, x0, x1, x2, x5, z5, A6, c6, by omega, by go_num, rfl, rfl, NST.out, O2, X2, G2, R2, hc6, b2⟩
          all_goals (simp [intOf])
        · obtain rfl : k = 4 := by omega
          have g1 : decide ((4 : Int) < 4) = false := by decide
          obtain ⟨n0, n1, n2, n3, h0, h1, h2, h3, hd, hn1, hn2⟩ := stat_end HST.out
          have HD := Lib.hid hd
          have HN := Lib.hid (And.intro h0 (And.intro h1 (And.intro h2 h3)))
          clear hd h0 h1 h2 h3 HST
          obtain ⟨b3, hb3⟩ : ∃ z : Bool, (x3 == 1) = z := ⟨_, rfl⟩
          have HB3 := Lib.hid hb3
          have G0 := G.at 0 (v := .int .i64 x0) rfl
          have G1 := G.at 1 (v := .int .i64 x1) rfl
          have G2 := G.at 2 (v := .int .i64 x2) rfl
          have G3 := G.at 3 (v := .int .i64 x3) rfl
          have y2 := X.at 2 (v := .int .i64 0) rfl
          have y3 := X.at 3 (v := .int .i64 0) rfl
          have y4 := X.at 4 (v := .int .i64 0) rfl
          have y5 := X.at 5 (v := .bool false) rfl
          have yc := X.cold
          go_upto_region 14 with fail
          go_region
          have X9 : Box (((((wr.setCell ⟨w.heap.size + 1, 2, none⟩ (.int .i64 x0)).setCell ⟨w.heap.size + 1, 3, none⟩ (.int .i64 x1)).setCell ⟨w.heap.size + 1, 4, none⟩ (.int .i64 x2)).setCell ⟨w.heap.size + 1, 5, none⟩ (.bool b3))).drew (w.heap.size + 1) 23 #[.string (strB nm'), .string (strB pr'), .int .i64 x0, .int .i64 x1, .int .i64 x2, .bool b3] := ((((X.set 2 (.int .i64 x0)).set 3 (.int .i64 x1)).set 4 (.int .i64 x2)).set 5 (.bool b3)).drew
          have O9 := ((((O.other (b' := w.heap.size + 1) (o := 2) (by omega) (.int .i64 x0)).other (b' := w.heap.size + 1) (o := 3) (by omega) (.int .i64 x1)).other (b' := w.heap.size + 1) (o := 4) (by omega) (.int .i64 x2)).other (b' := w.heap.size + 1) (o := 5) (by omega) (.bool b3)).drew
          have G9 := ((((G.other (b' := w.heap.size + 1) (o := 2) (by omega) (.int .i64 x0)).other (b' := w.heap.size + 1) (o := 3) (by omega) (.int .i64 x1)).other (b' := w.heap.size + 1) (o := 4) (by omega) (.int .i64 x2)).other (b' := w.heap.size + 1) (o := 5) (by omega) (.bool b3)).drew
          have b9 := (below_set (o := 5) (below_set (o := 4) (below_set (o := 3) (below_set (o := 2) b (show w.heap.size ≤ w.heap.size + 1 by omega) (.int .i64 x0)) (show w.heap.size ≤ w.heap.size + 1 by omega) (.int .i64 x1)) (show w.heap.size ≤ w.heap.size + 1 by omega) (.int .i64 x2)) (show w.heap.size ≤ w.heap.size + 1 by omega) (.bool b3)).drew
          clear O X G b R y2 y3 y4 y5 yc G0 G1 G2 G3 hb3
          generalize (((((wr.setCell ⟨w.heap.size + 1, 2, none⟩ (.int .i64 x0)).setCell ⟨w.heap.size + 1, 3, none⟩ (.int .i64 x1)).setCell ⟨w.heap.size + 1, 4, none⟩ (.int .i64 x2)).setCell ⟨w.heap.size + 1, 5, none⟩ (.bool b3))).drew = w9 at *
          have G3 := G9.at 3 (v := .int .i64 x3) rfl
          have o0 := O9.at 0 (v := .string ⟨#[]⟩) rfl
          have o1 := O9.at 1 (v := .string ⟨#[]⟩) rfl
          have o2 := O9.at 2 (v := .int .i64 0) rfl
          have o3 := O9.at 3 (v := .int .i64 0) rfl
          have o4 := O9.at 4 (v := .int .i64 0) rfl
          have o5 := O9.at 5 (v := .bool false) rfl
          have oc := O9.cold
          have x0' := X9.at 0 (v := .string (strB nm')) rfl
          have x1' := X9.at 1 (v := .string (strB pr')) rfl
          have x2' := X9.at 2 (v := .int .i64 x0) rfl
          have x3' := X9.at 3 (v := .int .i64 x1) rfl
          have x4' := X9.at 4 (v := .int .i64 x2) rfl
          have x5' := X9.at 5 (v := .bool b3) rfl
          have HBB : Hid (b3 = decide (n3 = 1)) := Lib.hid (by rw [← HB3.out, ← HN.out.2.2.2]; rw [Bool.eq_iff_iff, beq_iff_eq, decide_eq_true_iff]; omega)
          have HX3 : Hid ((n3 : Int) = x3) := Lib.hid HN.out.2.2.2
          by_cases hr : r'.length = 0
          rotate_left
          · have f1 : decide ((0 : Int) < (r'.length : Int)) = true := decide_eq_true (by omega)
            have f1' : decide (0 < r'.length) = true := decide_eq_true (by omega)
            have E : Hid (Y.dec v = (Y.none, 3)) := Lib.hid (by rw [HD.out]; exact made_no (fun h => hr (by rw [h.1]; rfl)))
            clear hr x0' x1' x2' x3' x4' x5' G3 X9 G9
            go_wp2
            have Q0 := (((((O9.set 0 (.string ⟨#[]⟩)).set 1 (.string ⟨#[]⟩)).set 2 (.int .i64 0)).set 3 (.int .i64 0)).set 4 (.int .i64 0)).set 5 (.bool false)
            have q0 := Q0.at 0 (v := .string ⟨#[]⟩) rfl
            have q1 := Q0.at 1 (v := .string ⟨#[]⟩) rfl
            have q2 := Q0.at 2 (v := .int .i64 0) rfl
            have q3 := Q0.at 3 (v := .int .i64 0) rfl
            have q4 := Q0.at 4 (v := .int .i64 0) rfl
            have q5 := Q0.at 5 (v := .bool false) rfl
            refine bodyPost_ret (v := .tuple #[.agg #[.string ⟨#[]⟩, .string ⟨#[]⟩, .int .i64 0, .int .i64 0, .int .i64 0, .bool false], .int .i64 3]) (by simp [results, Try.results10, go_sem, q0, q1, q2, q3, q4, q5]; try rfl) rfl ⟨by rw [E.out]; rfl, ?_⟩
            repeat (first | (with_reducible exact b9) | (with_reducible refine below_set ?_ (by omega) _))
          have f1 : decide ((0 : Int) < (r'.length : Int)) = false := decide_eq_false (by omega)
          have f1' : decide (0 < r'.length) = false := decide_eq_false (by omega)
          have HR : Hid (r' = []) := Lib.hid (List.eq_nil_of_length_eq_zero hr)
          clear hr
          by_cases h3 : 1 < x3
          · have f2 : decide ((1 : Int) < x3) = true := decide_eq_true h3
            have E : Hid (Y.dec v = (Y.none, 3)) := Lib.hid (by rw [HD.out]; exact made_no (fun h => by have := h.2.1; have := HX3.out; omega))
            clear h3 x0' x1' x2' x3' x4' x5' X9
            go_wp2
            have Q0 := (((((O9.set 0 (.string ⟨#[]⟩)).set 1 (.string ⟨#[]⟩)).set 2 (.int .i64 0)).set 3 (.int .i64 0)).set 4 (.int .i64 0)).set 5 (.bool false)
            have q0 := Q0.at 0 (v := .string ⟨#[]⟩) rfl
            have q1 := Q0.at 1 (v := .string ⟨#[]⟩) rfl
            have q2 := Q0.at 2 (v := .int .i64 0) rfl
            have q3 := Q0.at 3 (v := .int .i64 0) rfl
            have q4 := Q0.at 4 (v := .int .i64 0) rfl
            have q5 := Q0.at 5 (v := .bool false) rfl
            refine bodyPost_ret (v := .tuple #[.agg #[.string ⟨#[]⟩, .string ⟨#[]⟩, .int .i64 0, .int .i64 0, .int .i64 0, .bool false], .int .i64 3]) (by simp [results, Try.results10, go_sem, q0, q1, q2, q3, q4, q5]; try rfl) rfl ⟨by rw [E.out]; rfl, ?_⟩
            repeat (first | (with_reducible exact b9) | (with_reducible refine below_set ?_ (by omega) _))
          have f2 : decide ((1 : Int) < x3) = false := decide_eq_false h3
          have H31 : Hid (n3 ≤ 1) := Lib.hid (by have := HX3.out; omega)
          have HS : Hid ((⟨nm', pr', (n0 : Int), (n1 : Int), (n2 : Int), decide (n3 = 1)⟩ : Svc) = ⟨nm', pr', x0, x1, x2, b3⟩) := Lib.hid (by rw [HN.out.1, HN.out.2.1, HN.out.2.2.1, ← HBB.out])
          clear h3
          go_wp2_with fail
          refine (ryright_any ⟨nm', pr', x0, x1, x2, b3⟩ ⟨by show nm'.length ≤ _; omega, by show pr'.length ≤ _; omega⟩ _).mono ?_
          rintro _ wz ⟨rfl, hb⟩
          clear x0' x1' x2' x3' x4' x5' o0 o1 o2 o3 o4 o5 oc G3
          replace X9 := X9.belowH hb
          replace O9 := O9.belowH hb
          replace b9 := b9.trans (hb.mono b9.size)
          clear hb G9
          have o0 := O9.at 0 (v := .string ⟨#[]⟩) rfl
          have o1 := O9.at 1 (v := .string ⟨#[]⟩) rfl
          have o2 := O9.at 2 (v := .int .i64 0) rfl
          have o3 := O9.at 3 (v := .int .i64 0) rfl
          have o4 := O9.at 4 (v := .int .i64 0) rfl
          have o5 := O9.at 5 (v := .bool false) rfl
          have oc := O9.cold
          have x0' := X9.at 0 (v := .string (strB nm')) rfl
          have x1' := X9.at 1 (v := .string (strB pr')) rfl
          have x2' := X9.at 2 (v := .int .i64 x0) rfl
          have x3' := X9.at 3 (v := .int .i64 x1) rfl
          have x4' := X9.at 4 (v := .int .i64 x2) rfl
          have x5' := X9.at 5 (v := .bool b3) rfl
          by_cases hy : Y.right ⟨nm', pr', x0, x1, x2, b3⟩
          rotate_left
          · have E : Hid (Y.dec v = (Y.none, 3)) := Lib.hid (by rw [HD.out]; exact made_no (fun h => hy (by rw [← HS.out]; exact h.2.2)))
            rw [decide_eq_false hy]
            clear hy x0' x1' x2' x3' x4' x5' X9
            go_wp2
            have Q0 := (((((O9.set 0 (.string ⟨#[]⟩)).set 1 (.string ⟨#[]⟩)).set 2 (.int .i64 0)).set 3 (.int .i64 0)).set 4 (.int .i64 0)).set 5 (.bool false)
            have q0 := Q0.at 0 (v := .string ⟨#[]⟩) rfl
            have q1 := Q0.at 1 (v := .string ⟨#[]⟩) rfl
            have q2 := Q0.at 2 (v := .int .i64 0) rfl
            have q3 := Q0.at 3 (v := .int .i64 0) rfl
            have q4 := Q0.at 4 (v := .int .i64 0) rfl
            have q5 := Q0.at 5 (v := .bool false) rfl
            refine bodyPost_ret (v := .tuple #[.agg #[.string ⟨#[]⟩, .string ⟨#[]⟩, .int .i64 0, .int .i64 0, .int .i64 0, .bool false], .int .i64 3]) (by simp [results, Try.results10, go_sem, q0, q1, q2, q3, q4, q5]; try rfl) rfl ⟨by rw [E.out]; rfl, ?_⟩
            repeat (first | (with_reducible exact b9) | (with_reducible refine below_set ?_ (by omega) _))
          have E : Hid (Y.dec v = (⟨nm', pr', x0, x1, x2, b3⟩, 0)) := Lib.hid (by rw [HD.out, made_yes HR.out H31.out (by rw [HS.out]; exact hy), HS.out])
          rw [decide_eq_true hy]
          clear hy
          go_wp2
          have Q0 := (((((O9.set 0 (.string (strB nm'))).set 1 (.string (strB pr'))).set 2 (.int .i64 x0)).set 3 (.int .i64 x1)).set 4 (.int .i64 x2)).set 5 (.bool b3)
          have q0 := Q0.at 0 (v := .string (strB nm')) rfl
          have q1 := Q0.at 1 (v := .string (strB pr')) rfl
          have q2 := Q0.at 2 (v := .int .i64 x0) rfl
          have q3 := Q0.at 3 (v := .int .i64 x1) rfl
          have q4 := Q0.at 4 (v := .int .i64 x2) rfl
          have q5 := Q0.at 5 (v := .bool b3) rfl
          refine bodyPost_ret (v := .tuple #[.agg #[.string (strB nm'), .string (strB pr'), .int .i64 x0, .int .i64 x1, .int .i64 x2, .bool b3], .int .i64 0]) (by simp [results, Try.results10, go_sem, q0, q1, q2, q3, q4, q5]; try rfl) rfl ⟨by rw [E.out]; rfl, ?_⟩
          repeat (first | (with_reducible exact b9) | (with_reducible refine below_set ?_ (by omega) _))
      · have E : Hid (Y.dec v = (Y.none, er')) := Lib.hid (by rcases HST.out with ⟨h, _⟩ | ⟨_, h⟩; exact absurd h he; exact h)
        have t1 : (er' == 0) = false := beq_eq_false_iff_ne.2 he
        have t2 : (er' != 0) = true := bne_iff_ne.2 he
        have O9 := O
        have b9 := b
        have o0 := O9.at 0 (v := .string ⟨#[]⟩) rfl
        have o1 := O9.at 1 (v := .string ⟨#[]⟩) rfl
        have o2 := O9.at 2 (v := .int .i64 0) rfl
        have o3 := O9.at 3 (v := .int .i64 0) rfl
        have o4 := O9.at 4 (v := .int .i64 0) rfl
        have o5 := O9.at 5 (v := .bool false) rfl
        have oc := O9.cold
        clear he HST
        by_cases hk4 : k < 4
        · have g1 : decide ((k : Int) < 4) = true := decide_eq_true (by omega)
          have g1' : decide (k < 4) = true := decide_eq_true (by omega)
          go_wp2
          have Q0 := (((((O9.set 0 (.string ⟨#[]⟩)).set 1 (.string ⟨#[]⟩)).set 2 (.int .i64 0)).set 3 (.int .i64 0)).set 4 (.int .i64 0)).set 5 (.bool false)
          have q0 := Q0.at 0 (v := .string ⟨#[]⟩) rfl
          have q1 := Q0.at 1 (v := .string ⟨#[]⟩) rfl
          have q2 := Q0.at 2 (v := .int .i64 0) rfl
          have q3 := Q0.at 3 (v := .int .i64 0) rfl
          have q4 := Q0.at 4 (v := .int .i64 0) rfl
          have q5 := Q0.at 5 (v := .bool false) rfl
          refine bodyPost_ret (v := .tuple #[.agg #[.string ⟨#[]⟩, .string ⟨#[]⟩, .int .i64 0, .int .i64 0, .int .i64 0, .bool false], .int .i64 er']) (by simp [results, Try.results10, go_sem, q0, q1, q2, q3, q4, q5]; try rfl) rfl ⟨by rw [E.out]; rfl, ?_⟩
          repeat (first | (with_reducible exact b9) | (with_reducible refine below_set ?_ (by omega) _))
        · have g1 : decide ((k : Int) < 4) = false := decide_eq_false (by omega)
          have g1' : decide (k < 4) = false := decide_eq_false (by omega)
          go_wp2
          have Q0 := (((((O9.set 0 (.string ⟨#[]⟩)).set 1 (.string ⟨#[]⟩)).set 2 (.int .i64 0)).set 3 (.int .i64 0)).set 4 (.int .i64 0)).set 5 (.bool false)
          have q0 := Q0.at 0 (v := .string ⟨#[]⟩) rfl
          have q1 := Q0.at 1 (v := .string ⟨#[]⟩) rfl
          have q2 := Q0.at 2 (v := .int .i64 0) rfl
          have q3 := Q0.at 3 (v := .int .i64 0) rfl
          have q4 := Q0.at 4 (v := .int .i64 0) rfl
          have q5 := Q0.at 5 (v := .bool false) rfl
          refine bodyPost_ret (v := .tuple #[.agg #[.string ⟨#[]⟩, .string ⟨#[]⟩, .int .i64 0, .int .i64 0, .int .i64 0, .bool false], .int .i64 er']) (by simp [results, Try.results10, go_sem, q0, q1, q2, q3, q4, q5]; try rfl) rfl ⟨by rw [E.out]; rfl, ?_⟩
          repeat (first | (with_reducible exact b9) | (with_reducible refine below_set ?_ (by omega) _))
end Go.Proofs.Ytfgpncbcelafoaa
