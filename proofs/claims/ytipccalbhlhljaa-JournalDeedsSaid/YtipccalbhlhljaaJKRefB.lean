/- KRef3 KWalk KRef4 KRef5 KTear0 KRef6 (merged). -/
import Derived.Deep.WholeRow
import Derived.Laws.Alloc2
import Derived.BigFrame
import Derived.Deep.AppendLies
import Derived.Test.YtipccalbhlhljaaJKMem
import Derived.Test.YtipccalbhlhljaaJKRef2
namespace Go.Proofs.Ytipccalbhlhljaa
set_option linter.unusedVariables false
set_option linter.unusedSimpArgs false
open Go.RowKit
/-- a sector and an error -/
def SecR (s : List UInt8) (er : Int) (w : World) (e : Ending) (w' : World) : Prop := e = .returned (.tuple #[.agg (U s).toArray, .int .i64 er]) ∧ Below w.heap.size w w'
/-- a whole sector into a block, and out of it -/
theorem sec_store {ops : Array Oper} {rest : List Oper} {op : Oper} {a : Act} {w : World} {Q : Exit → Act → World → Prop} (b o : Nat) (s : List UInt8) (hs : s.length = 64) (ht : w.there b o 64)
    (hgd : op.guard = none) (x y : Operand) (ho : op.op = .store 24 x y) (hx : a.eval x = .pointer (some ⟨b, o, none⟩)) (cs : Array Value) (hy : a.eval y = .agg cs) (hcs : cs = (U s).toArray)
    (h : wpList Try.prog ops Q rest (a.put op.dst undef) (w.setCells b o (U s))) : wpList Try.prog ops Q (op :: rest) a w :=
  wpList_store_mid hgd 24 x y ho b o (U s).toArray hx (hcs ▸ hy) (by simpa [U_length, hs] using ht) (by rw [List.size_toArray, U_length, hs]; rfl) (all_oneCell_toArray (U_one s)) h
theorem sec_get {ops : Array Oper} {rest : List Oper} {op : Oper} {a : Act} {w : World} {Q : Exit → Act → World → Prop} (b o : Nat) (s : List UInt8) (hs : s.length = 64) (hc : w.rangeAt b o (U s))
    (hgd : op.guard = none) (x : Operand) (ho : op.op = .load 24 x) (hx : a.eval x = .pointer (some ⟨b, o, none⟩))
    (h : wpList Try.prog ops Q rest (a.put op.dst (.agg (U s).toArray)) w) : wpList Try.prog ops Q (op :: rest) a w :=
  wpList_load_mid hgd 24 x ho b o hx (U s) _ hc Try.underlying24 rfl (by rw [U_length, hs]; rfl) h
theorem Box.there {w : World} {b : Nat} {T : TypeId} {cs : Array Value} (h : Box w b T cs) : w.there b 0 cs.size := fun j hj => ⟨by rw [Nat.zero_add, h.at j (Array.getElem?_eq_getElem hj)]; rfl, by rw [Nat.zero_add]; exact h.cold j⟩
theorem zero_len : K.zero.length = 64 := by simp [K.zero]
theorem sec_build (w : World) (a : Act) (d : Option Nat) (T : TypeId) (pos : String) (af : Array Edge) (g : Option (Nat × Bool)) : (execOp a.eval ⟨d, .build 24 #[], T, pos, af, g⟩).run Try.prog w = .ok (.value (.agg (U K.zero).toArray)) w := by
  have h := run_build (P := Try.prog) w 24 #[] (U K.zero).toArray (by kernel_rfl)
  unfold execOp
  simp only [Array.map_empty, Sem.run_bind, h, Result.andThen_ok, Sem.run_pure]
theorem sec_zero {ops : Array Oper} {rest : List Oper} {T : TypeId} {pos : String} {af : Array Edge} {a : Act} {w : World} {Q : Exit → Act → World → Prop} (d : Nat)
    (h : wpList Try.prog ops Q rest (a.put (some d) (.agg (U K.zero).toArray)) w) : wpList Try.prog ops Q (⟨some d, .build 24 #[], T, pos, af, none⟩ :: rest) a w :=
  wpList_plain rfl fun K hK => by
    unfold Oper.wp
    rw [sec_build]
    exact hK _ _ h
/-- a result that stands in a cell, beside one that stands in a slot -/
theorem results_cell_tmp {P : Program} {fn : Func} {tmps : Array Value} {w : World} (a : Nat) (t : TypeId) (k : Nat) (hf : fn.results = #[.cell a t, .tmp k]) (x : Addr) (ha : tmps.getD a undef = .pointer (some x)) (v u : Value) (hu : tmps.getD k undef = u)
    (hl : (loadVar t x).run P w = .ok v w) : (results fn tmps).run P w = .ok (.tuple #[v, u]) w := by
  unfold results
  rw [hf]
  have ha' : tmps[a]?.getD undef = .pointer (some x) := by simpa using ha
  have hu' : tmps[k]?.getD undef = u := by simpa using hu
  simp [Sem.run_bind, asAddr, ha', hu', hl]
theorem below_setCells {B b : Nat} {w0 : World} (hb : B ≤ b) : ∀ (vs : List Value) (o : Nat) (w : World), Below B w0 w → Below B w0 (w.setCells b o vs)
  | [], _, _, h => h
  | v :: vs, o, w, h => below_setCells hb vs (o + 1) (w.setCell ⟨b, o, none⟩ v) (h.setCell hb v)
theorem sec_got {ops : Array Oper} {rest : List Oper} {T : TypeId} {pos : String} {af : Array Edge} {x : Operand} {a : Act} {w : World} {Q : Exit → Act → World → Prop} (d b o : Nat) (s : List UInt8) (hs : s.length = 64) (hc : w.rangeAt b o (U s))
    (hx : a.eval x = .pointer (some ⟨b, o, none⟩))
    (h : wpList Try.prog ops Q rest (a.put (some d) (.agg (U s).toArray)) w) : wpList Try.prog ops Q (⟨some d, .load 24 x, T, pos, af, none⟩ :: rest) a w :=
  sec_get b o s hs hc rfl x rfl hx h
/-- the walk stops here -/
theorem body_stop {P : Program} {fn : Func} {R : Ending → World → Prop} {a : Act} {w : World} (h : Hid (bodyPost P fn R .ret a w)) : bodyPost P fn R .ret a w := h.out
end Go.Proofs.Ytipccalbhlhljaa

namespace Go.Proofs.Ytipccalbhlhljaa
set_option linter.unusedVariables false
set_option linter.unusedSimpArgs false
open Go.RowKit
theorem sec_box {w : World} {b : Nat} {T : TypeId} {l : List Value} (h : Box w b T l.toArray) : w.rangeAt b 0 l := fun j v hv => by
  rw [Nat.zero_add]
  exact h.at j (by rw [List.getElem?_toArray]; exact hv)
theorem new_setCells (T : TypeId) (w : World) : ∀ (vs : List Value) (o : Nat) (cs : List Value), (w.alloc (.cells cs.toArray T)).setCells w.heap.size o vs = w.alloc (.cells (laid cs o vs).toArray T)
  | [], _, _ => rfl
  | v :: vs, o, cs => by
    show ((w.alloc (.cells cs.toArray T)).setCell ⟨w.heap.size, o, none⟩ v).setCells w.heap.size (o + 1) vs = _
    rw [World.setCell_alloc_new, List.setIfInBounds_toArray, new_setCells T w vs (o + 1) (cs.set o v)]
    rfl
theorem laid_all {cs vs : List Value} (h : vs.length = cs.length) : laid cs 0 vs = vs := by
  refine List.ext_getElem? fun j => ?_
  by_cases hj : j < vs.length
  · have := laid_in vs cs 0 j (by omega) hj
    rwa [Nat.zero_add] at this
  · rw [List.getElem?_eq_none (by rw [laid_length]; omega), List.getElem?_eq_none (by omega)]
theorem sec_take {ops : Array Oper} {rest : List Oper} {T : TypeId} {pos : String} {af : Array Edge} {g : Option (Nat × Bool)} {x : Operand} {a : Act} {w : World} {Q : Exit → Act → World → Prop} (d b o : Nat) (s : List UInt8) (hs : s.length = 64) (hc : w.rangeAt b o (U s))
    (hw : Region.wanted ⟨some d, .load 24 x, T, pos, af, g⟩ (yielded ops a.tmps) = true) (hx : a.eval x = .pointer (some ⟨b, o, none⟩))
    (h : wpList Try.prog ops Q rest (a.put (some d) (.agg (U s).toArray)) w) : wpList Try.prog ops Q (⟨some d, .load 24 x, T, pos, af, g⟩ :: rest) a w :=
  BigFrame.wpList_want hw fun _ hK => wp_load_mid 24 x rfl b o hx (U s) _ hc Try.underlying24 rfl (by rw [U_length, hs]; rfl) (hK _ _ h)
theorem run_alloc_sec (w : World) (ρ : Operand → Value) (d : Option Nat) (T : TypeId) (pos : String) (af : Array Edge) (g : Option (Nat × Bool)) : (execOp ρ ⟨d, .alloc 24, T, pos, af, g⟩).run Try.prog w = .ok (.value (.pointer (some ⟨w.heap.size, 0, none⟩))) (w.alloc (.cells (U K.zero).toArray 24)) := by kernel_rfl
/-- a new block of a sector -/
theorem sec_alloc {ops : Array Oper} {rest : List Oper} {T : TypeId} {pos : String} {af : Array Edge} {a : Act} {w : World} {Q : Exit → Act → World → Prop} (d : Nat)
    (h : wpList Try.prog ops Q rest (a.put (some d) (.pointer (some ⟨w.heap.size, 0, none⟩))) (w.alloc (.cells (U K.zero).toArray 24))) :
    wpList Try.prog ops Q (⟨some d, .alloc 24, T, pos, af, none⟩ :: rest) a w := by
  refine wpList_plain rfl fun KK hK => ?_
  unfold Oper.wp
  rw [run_alloc_sec]
  exact hK _ _ h
/-- a new block of a sector, and what is stored there at once -/
theorem sec_new {ops : Array Oper} {rest : List Oper} {T T' : TypeId} {pos pos' : String} {af af' : Array Edge} {y : Operand} {a : Act} {w : World} {Q : Exit → Act → World → Prop} (d : Nat) (s : List UInt8) (hs : s.length = 64)
    (hd : (a.put (some d) (.pointer (some ⟨w.heap.size, 0, none⟩))).eval (.tmp d) = .pointer (some ⟨w.heap.size, 0, none⟩)) (hy : (a.put (some d) (.pointer (some ⟨w.heap.size, 0, none⟩))).eval y = .agg (U s).toArray)
    (h : wpList Try.prog ops Q rest ((a.put (some d) (.pointer (some ⟨w.heap.size, 0, none⟩))).put none undef) (w.alloc (.cells (U s).toArray 24))) :
    wpList Try.prog ops Q (⟨some d, .alloc 24, T, pos, af, none⟩ :: ⟨none, .store 24 (.tmp d) y, T', pos', af', none⟩ :: rest) a w := by
  refine wpList_plain rfl fun KK hK => ?_
  unfold Oper.wp
  rw [run_alloc_sec]
  refine hK _ _ ?_
  have X := Box.new w (U K.zero).toArray 24
  have ht := X.there
  have e64 : (U K.zero).toArray.size = 64 := by rw [List.size_toArray, U_length, zero_len]
  rw [e64] at ht
  refine sec_store w.heap.size 0 s hs ht rfl (.tmp d) y rfl hd _ hy rfl ?_
  rw [new_setCells, laid_all (by rw [U_length, U_length, hs, zero_len])]
  exact h
end Go.Proofs.Ytipccalbhlhljaa

namespace Go.Proofs.Ytipccalbhlhljaa
set_option linter.unusedVariables false
set_option linter.unusedSimpArgs false
open Go.RowKit
theorem secT : SlT Try.prog 32 24 (.agg (U K.zero).toArray) 64 64 := ⟨Try.underlying32, by kernel_rfl, by kernel_rfl, by omega⟩
theorem litS (w : World) : (w.alloc (.cells #[] 24)).ownsRow w.heap.size 24 64 (.slice (some ⟨w.heap.size, 0, none⟩) 0 0) 0 [] := by
  have := World.ownsRow_lit (base := w.heap.size) (e := 24) (size := 64) w #[] 0 (Nat.le_refl _) (by decide) rfl
  simpa using this
theorem S_one (l : List (List UInt8)) : ∀ u ∈ S l, u.oneCell' = true := by
  intro u hu
  obtain ⟨s, _, h⟩ := List.mem_flatMap.1 hu
  exact U_one s u h
/-- a disk of one's own -/
def CopyR (u : Kv) (w : World) (e : Ending) (w' : World) : Prop := (∃ (A : Option Addr) (c : Nat), e = .returned (.agg #[.slice A u.n c, .int .i64 u.x.fuse, .bool u.x.down]) ∧ w'.ownsRow w.heap.size 24 64 (.slice A u.n c) u.n (S u.x.secs)) ∧ Below w.heap.size w w'
set_option maxHeartbeats 1000000 in
theorem rkcopy_any (u : Kv) (w : World) (h : KRd w u) (hn : u.n ≤ 1000) :
    Calls Try.prog 13 #[kval u] w (CopyR u w) := by
  obtain ⟨⟨l, f, o⟩, A, n, c⟩ := u
  obtain ⟨h, hw, hc, hm⟩ := h
  simp only at h hw hc hm hn
  simp only [kval]
  have X := (Box.new w #[.slice A n c, .int .i64 f, .bool o] 34).below ((Below.refl _ _).alloc (Nat.le_refl _) (.cells #[.slice none 0 0, .int .i64 0, .bool false] 34)) (by simp)
  have Z := Box.new (w.alloc (.cells #[.slice A n c, .int .i64 f, .bool o] 34)) #[.slice none 0 0, .int .i64 0, .bool false] 34
  have b := ((Below.refl w.heap.size w).alloc (Nat.le_refl _) (.cells #[.slice A n c, .int .i64 f, .bool o] 34)).alloc (by simp) (.cells #[.slice none 0 0, .int .i64 0, .bool false] 34)
  rw [show (w.alloc (.cells #[.slice A n c, .int .i64 f, .bool o] 34)).heap.size = w.heap.size + 1 by simp] at Z
  replace h := h.below b
  have hsz : ((w.alloc (.cells #[.slice A n c, .int .i64 f, .bool o] 34)).alloc (.cells #[.slice none 0 0, .int .i64 0, .bool false] 34)).heap.size = w.heap.size + 2 := by simp
  go_enter Try.func13, Try.ntmps13
  go_wp2_with (at_builtin; go_loud (refine app_law0 secT rfl (.tmp 3) (.tmp 5) rfl (w.heap.size + 2) rfl (hsz ▸ litS _) rfl (h.alloc (by omega) _) (S_one l) (by omega) (by omega) (by simp) ?_); rintro A2 c2 w3 ⟨hown, hg, _, _⟩; have hb3 := below_app (b.alloc b.size (.cells #[] 24)) (hsz ▸ litS _) hg (by omega) (by simp); have hq := below_app ((Below.refl (w.heap.size + 2) _).alloc (by omega) (.cells #[] 24)) (hsz ▸ litS _) hg (Nat.le_refl _) (by simp); rw [List.nil_append] at hown; clear hg; replace X := X.below hq (by omega); replace Z := Z.below hq (by omega); clear hq; have x0 := X.at 0 rfl; have x1 := X.at 1 rfl; have x2 := X.at 2 rfl; have z0 := Z.at 0 rfl; have z1 := Z.at 1 rfl; have z2 := Z.at 2 rfl; have xc := X.cold; have zc := Z.cold)
  have Z2 := (((Z.other (b' := w.heap.size) (o := 0) (by omega) (.slice A2 n c2)).set 0 (.slice A2 n c2)).set 1 (.int .i64 f)).set 2 (.bool o)
  have q0 := Z2.at 0 rfl
  have q1 := Z2.at 1 rfl
  have q2 := Z2.at 2 rfl
  refine bodyPost_ret (v := .agg #[.slice A2 n c2, .int .i64 f, .bool o]) (by simp [results, Try.results13, go_sem, q0, q1, q2]; try rfl) rfl ⟨⟨A2, c2, rfl, ?_⟩, ?_⟩
  · refine own_mono ?_ (show w.heap.size ≤ w.heap.size + 2 by omega)
    exact ownsRow_setCell_below (ownsRow_setCell_below (ownsRow_setCell_below (ownsRow_setCell_below hown (by show w.heap.size < _; omega) _) (by show w.heap.size + 1 < _; omega) _) (by show w.heap.size + 1 < _; omega) _) (by show w.heap.size + 1 < _; omega) _
  · exact below_set (below_set (below_set (below_set hb3 (by omega) _) (by omega) _) (by omega) _) (by omega) _
end Go.Proofs.Ytipccalbhlhljaa

namespace Go.Proofs.Ytipccalbhlhljaa
set_option linter.unusedVariables false
set_option linter.unusedSimpArgs false
open Go.RowKit
theorem KRd.of_own {w : World} {base e n c : Nat} {A : Option Addr} {x : Dk} (h : w.ownsRow base e 64 (.slice A n c) n (S x.secs)) (hw : K.wf x) : KRd w ⟨x, A, n, c⟩ := ⟨Rd.of_own h, hw, (own_cap h).1, (own_cap h).2⟩
theorem own_far {w : World} {base e size n c : Nat} {A : Option Addr} {xs : List Value} (h : w.ownsRow base e size (.slice A n c) n xs) {ad : Addr} (hA : A = some ad) : base ≤ ad.block := by
  rcases h.2 with ⟨e1, _⟩ | ⟨g, cap, cur, hv, hb, _⟩
  · subst hA; simp at e1
  · subst hA
    obtain ⟨rfl, rfl⟩ : ad = ⟨g, 0, none⟩ ∧ c = cap := by simpa using hv
    exact hb
theorem own3 {w : World} {base e size n bz : Nat} {v : Value} {xs : List Value} (h : w.ownsRow base e size v n xs) (hz : bz < base) (ob : Obj) (v0 v1 v2 : Value) :
    ((((w.alloc ob).setCell ⟨bz, 0, none⟩ v0).setCell ⟨bz, 1, none⟩ v1).setCell ⟨bz, 2, none⟩ v2).ownsRow base e size v n xs :=
  ownsRow_setCell_below (ownsRow_setCell_below (ownsRow_setCell_below (h.alloc ob) (by show bz < _; omega) _) (by show bz < _; omega) _) (by show bz < _; omega) _
set_option maxHeartbeats 1000000 in
theorem rkwake_any (u : Kv) (w : World) (h : KRd w u) :
    Calls Try.prog 25 #[kval u] w (DiskR (K.wake u.x).1 (K.wake u.x).2 w) := by
  obtain ⟨⟨l, f, o⟩, A, n, c⟩ := u
  have hw := h.2.1
  have hlen := h.len
  simp only at hlen
  simp only [kval]
  have X := (Box.new w #[.slice A n c, .int .i64 f, .bool o] 34).below ((Below.refl _ _).alloc (Nat.le_refl _) (.cells #[.slice none 0 0, .int .i64 0, .bool false] 34)) (by simp)
  have Z := Box.new (w.alloc (.cells #[.slice A n c, .int .i64 f, .bool o] 34)) #[.slice none 0 0, .int .i64 0, .bool false] 34
  have b := ((Below.refl w.heap.size w).alloc (Nat.le_refl _) (.cells #[.slice A n c, .int .i64 f, .bool o] 34)).alloc (by simp) (.cells #[.slice none 0 0, .int .i64 0, .bool false] 34)
  rw [show (w.alloc (.cells #[.slice A n c, .int .i64 f, .bool o] 34)).heap.size = w.heap.size + 1 by simp] at Z
  have hR := rkright_any ⟨⟨l, f, o⟩, A, n, c⟩ _ (h.belowH b)
  have h0 := h
  replace h := h.belowH b
  simp only [kval] at hR
  go_enter Try.func25, Try.ntmps25
  go_wp2_with fail
  refine hR.mono ?_
  rintro _ w2 ⟨rfl, b2⟩
  replace h := h.belowH b2
  have hlt : w.heap.size + 1 < w2.heap.size := by have := b2.size; simp at this; omega
  replace X := X.below b2 (by simp; omega)
  replace Z := Z.below b2 (by simp)
  replace b := b.trans (b2.mono b.size)
  have hs2 : w.heap.size ≤ w2.heap.size := b.size
  clear b2 hR
  have x0 := X.at 0 rfl
  have x1 := X.at 1 rfl
  have x2 := X.at 2 rfl
  have z0 := Z.at 0 rfl
  have z1 := Z.at 1 rfl
  have z2 := Z.at 2 rfl
  have zc := Z.cold
  have H := Lib.hid h
  have HW := Lib.hid hw
  clear h hw
  by_cases r : K.right ⟨l, f, o⟩
  · have hn : n ≤ 1000 := by have := r.1; simp only at this; omega
    have r' := decide_eq_true r
    have HLEN := Lib.hid hlen
    clear hlen
    have ew : K.wake ⟨l, f, o⟩ = (⟨l, -1, false⟩, 0) := by unfold K.wake; rw [if_neg (Classical.not_not.2 r)]
    rw [r']
    have EW := Lib.hid ew
    clear r r' ew
    go_wp2_with (go_at_call 13; refine (rkcopy_any ⟨⟨l, f, o⟩, A, n, c⟩ _ H.out hn).mono ?_; rintro e w3 ⟨⟨A3, c3, rfl, hown⟩, b3⟩; replace X := X.belowH b3; replace Z := Z.belowH b3; replace b := b.trans (b3.mono b.size); have hs3 := b3.size; clear b3; have Y := Box.new w3 #[.slice A3 n c3, .int .i64 f, .bool o] 34; have b4 := b.alloc (by omega) (.cells #[.slice A3 n c3, .int .i64 f, .bool o] 34); have z0 := fun ob => (Z.alloc ob).at 0 rfl; have z1 := fun ob => (Z.alloc ob).at 1 rfl; have z2 := fun ob => (Z.alloc ob).at 2 rfl; have zc := fun ob => (Z.alloc ob).cold)
    have Z2 := (((Z.alloc (.cells #[.slice A3 n c3, .int .i64 (-1), .bool false] 34)).set 0 (.slice A3 n c3)).set 1 (.int .i64 (-1))).set 2 (.bool false)
    have q0 := Z2.at 0 rfl
    have q1 := Z2.at 1 rfl
    have q2 := Z2.at 2 rfl
    have b5 := below_set (o := 2) (below_set (o := 1) (below_set (o := 0) (b.alloc (show w.heap.size ≤ w3.heap.size by omega) (.cells #[.slice A3 n c3, .int .i64 (-1), .bool false] 34)) (show w.heap.size ≤ w.heap.size + 1 by omega) (.slice A3 n c3)) (show w.heap.size ≤ w.heap.size + 1 by omega) (.int .i64 (-1))) (show w.heap.size ≤ w.heap.size + 1 by omega) (.bool false)
    refine bodyPost_ret (v := .tuple #[.agg #[.slice A3 n c3, .int .i64 (-1), .bool false], .int .i64 0]) (by simp [results, Try.results25, go_sem, q0, q1, q2]; try rfl) rfl (by rw [EW.out]; refine ⟨⟨A3, n, c3, rfl, ?_, fun _ bk ok hA => by have h9 : w2.heap.size ≤ bk := own_far hown hA; omega⟩, b5⟩; exact KRd.of_own (own3 hown (show w.heap.size + 1 < w2.heap.size by omega) (.cells #[.slice A3 n c3, .int .i64 (-1), .bool false] 34) (.slice A3 n c3) (.int .i64 (-1)) (.bool false)) HW.out)
  · have r' := decide_eq_false r
    clear hlen
    have ew : K.wake ⟨l, f, o⟩ = (⟨l, f, o⟩, 1) := by unfold K.wake; rw [if_pos r]
    rw [r']
    have EW := Lib.hid ew
    clear r r' ew
    go_wp2
    have Z2 := ((Z.set 0 (.slice A n c)).set 1 (.int .i64 f)).set 2 (.bool o)
    have q0 := Z2.at 0 rfl
    have q1 := Z2.at 1 rfl
    have q2 := Z2.at 2 rfl
    refine bodyPost_ret (v := .tuple #[.agg #[.slice A n c, .int .i64 f, .bool o], .int .i64 1]) (by simp [results, Try.results25, go_sem, q0, q1, q2]; try rfl) rfl (by
      have b5 := below_set (o := 2) (below_set (o := 1) (below_set (o := 0) b (show w.heap.size ≤ w.heap.size + 1 by omega) (.slice A n c)) (show w.heap.size ≤ w.heap.size + 1 by omega) (.int .i64 f)) (show w.heap.size ≤ w.heap.size + 1 by omega) (.bool o)
      rw [EW.out]
      exact ⟨⟨A, n, c, rfl, h0.belowH b5, fun h => absurd (show (1 : Int) = 0 from h) (by decide)⟩, b5⟩)
set_option maxHeartbeats 1000000 in
theorem rkarm_any (u : Kv) (m : Int) (w : World) (h : KRd w u) (hn : u.n ≤ 1000) :
    Calls Try.prog 24 #[kval u, .int .i64 m] w (DiskR (K.arm u.x m).1 (K.arm u.x m).2 w) := by
  obtain ⟨⟨l, f, o⟩, A, n, c⟩ := u
  have hw := h.2.1
  simp only at hn
  simp only [kval]
  have X := (Box.new w #[.slice A n c, .int .i64 f, .bool o] 34).below ((Below.refl _ _).alloc (Nat.le_refl _) (.cells #[.slice none 0 0, .int .i64 0, .bool false] 34)) (by simp)
  have Z := Box.new (w.alloc (.cells #[.slice A n c, .int .i64 f, .bool o] 34)) #[.slice none 0 0, .int .i64 0, .bool false] 34
  have b := ((Below.refl w.heap.size w).alloc (Nat.le_refl _) (.cells #[.slice A n c, .int .i64 f, .bool o] 34)).alloc (by simp) (.cells #[.slice none 0 0, .int .i64 0, .bool false] 34)
  rw [show (w.alloc (.cells #[.slice A n c, .int .i64 f, .bool o] 34)).heap.size = w.heap.size + 1 by simp] at Z
  have hR := rkright_any ⟨⟨l, f, o⟩, A, n, c⟩ _ (h.belowH b)
  have h0 := h
  replace h := h.belowH b
  simp only [kval] at hR
  go_enter Try.func24, Try.ntmps24
  go_wp2_with fail
  refine hR.mono ?_
  rintro _ w2 ⟨rfl, b2⟩
  replace h := h.belowH b2
  have hlt : w.heap.size + 1 < w2.heap.size := by have := b2.size; simp at this; omega
  replace X := X.below b2 (by simp; omega)
  replace Z := Z.below b2 (by simp)
  replace b := b.trans (b2.mono b.size)
  have hs2 : w.heap.size ≤ w2.heap.size := b.size
  clear b2 hR
  have x0 := X.at 0 rfl
  have x1 := X.at 1 rfl
  have x2 := X.at 2 rfl
  have z0 := Z.at 0 rfl
  have z1 := Z.at 1 rfl
  have z2 := Z.at 2 rfl
  have zc := Z.cold
  have H := Lib.hid h
  have HW := Lib.hid hw
  clear h hw
  by_cases r : K.right ⟨l, f, o⟩
  · have r' := decide_eq_true r
    rw [r']
    cases o
    · by_cases m1 : m < -1
      · have EW : Hid (K.arm ⟨l, f, false⟩ m = (⟨l, f, false⟩, 1)) := Lib.hid (by unfold K.arm; rw [if_neg (Classical.not_not.2 r)]; simp [m1])
        clear r r'
        go_wp2
        have Z2 := ((Z.set 0 (.slice A n c)).set 1 (.int .i64 f)).set 2 (.bool false)
        have q0 := Z2.at 0 rfl
        have q1 := Z2.at 1 rfl
        have q2 := Z2.at 2 rfl
        refine bodyPost_ret (v := .tuple #[.agg #[.slice A n c, .int .i64 f, .bool false], .int .i64 1]) (by simp [results, Try.results24, go_sem, q0, q1, q2]; try rfl) rfl (by
          have b5 := below_set (o := 2) (below_set (o := 1) (below_set (o := 0) b (show w.heap.size ≤ w.heap.size + 1 by omega) (.slice A n c)) (show w.heap.size ≤ w.heap.size + 1 by omega) (.int .i64 f)) (show w.heap.size ≤ w.heap.size + 1 by omega) (.bool false)
          rw [EW.out]
          exact ⟨⟨A, n, c, rfl, h0.belowH b5, fun h => absurd (show (1 : Int) = 0 from h) (by decide)⟩, b5⟩)
      · have EW : Hid (K.arm ⟨l, f, false⟩ m = (⟨l, m, false⟩, 0)) := Lib.hid (by unfold K.arm; rw [if_neg (Classical.not_not.2 r)]; simp [m1])
        clear r r'
        go_wp2_with (go_at_call 13; refine (rkcopy_any ⟨⟨l, f, false⟩, A, n, c⟩ _ H.out hn).mono ?_; rintro e w3 ⟨⟨A3, c3, rfl, hown⟩, b3⟩; replace X := X.belowH b3; replace Z := Z.belowH b3; replace b := b.trans (b3.mono b.size); have hs3 := b3.size; clear b3; have Y := Box.new w3 #[.slice A3 n c3, .int .i64 f, .bool false] 34; have b4 := b.alloc (by omega) (.cells #[.slice A3 n c3, .int .i64 f, .bool false] 34); have z0 := fun ob => (Z.alloc ob).at 0 rfl; have z1 := fun ob => (Z.alloc ob).at 1 rfl; have z2 := fun ob => (Z.alloc ob).at 2 rfl; have zc := fun ob => (Z.alloc ob).cold)
        have Z2 := (((Z.alloc (.cells #[.slice A3 n c3, .int .i64 m, .bool false] 34)).set 0 (.slice A3 n c3)).set 1 (.int .i64 m)).set 2 (.bool false)
        have q0 := Z2.at 0 rfl
        have q1 := Z2.at 1 rfl
        have q2 := Z2.at 2 rfl
        have b5 := below_set (o := 2) (below_set (o := 1) (below_set (o := 0) (b.alloc (show w.heap.size ≤ w3.heap.size by omega) (.cells #[.slice A3 n c3, .int .i64 m, .bool false] 34)) (show w.heap.size ≤ w.heap.size + 1 by omega) (.slice A3 n c3)) (show w.heap.size ≤ w.heap.size + 1 by omega) (.int .i64 m)) (show w.heap.size ≤ w.heap.size + 1 by omega) (.bool false)
        refine bodyPost_ret (v := .tuple #[.agg #[.slice A3 n c3, .int .i64 m, .bool false], .int .i64 0]) (by simp [results, Try.results24, go_sem, q0, q1, q2]; try rfl) rfl (by rw [EW.out]; refine ⟨⟨A3, n, c3, rfl, ?_, fun _ bk ok hA => by have h9 : w2.heap.size ≤ bk := own_far hown hA; omega⟩, b5⟩; exact KRd.of_own (own3 hown (show w.heap.size + 1 < w2.heap.size by omega) (.cells #[.slice A3 n c3, .int .i64 m, .bool false] 34) (.slice A3 n c3) (.int .i64 m) (.bool false)) HW.out)
    · have EW : Hid (K.arm ⟨l, f, true⟩ m = (⟨l, f, true⟩, 9)) := Lib.hid (by unfold K.arm; rw [if_neg (Classical.not_not.2 r)]; simp)
      clear r r'
      go_wp2
      have Z2 := ((Z.set 0 (.slice A n c)).set 1 (.int .i64 f)).set 2 (.bool true)
      have q0 := Z2.at 0 rfl
      have q1 := Z2.at 1 rfl
      have q2 := Z2.at 2 rfl
      refine bodyPost_ret (v := .tuple #[.agg #[.slice A n c, .int .i64 f, .bool true], .int .i64 9]) (by simp [results, Try.results24, go_sem, q0, q1, q2]; try rfl) rfl (by
        have b5 := below_set (o := 2) (below_set (o := 1) (below_set (o := 0) b (show w.heap.size ≤ w.heap.size + 1 by omega) (.slice A n c)) (show w.heap.size ≤ w.heap.size + 1 by omega) (.int .i64 f)) (show w.heap.size ≤ w.heap.size + 1 by omega) (.bool true)
        rw [EW.out]
        exact ⟨⟨A, n, c, rfl, h0.belowH b5, fun h => absurd (show (9 : Int) = 0 from h) (by decide)⟩, b5⟩)
  · have r' := decide_eq_false r
    have ew : K.arm ⟨l, f, o⟩ m = (⟨l, f, o⟩, 1) := by unfold K.arm; rw [if_pos r]
    rw [r']
    have EW := Lib.hid ew
    clear r r' ew
    go_wp2
    have Z2 := ((Z.set 0 (.slice A n c)).set 1 (.int .i64 f)).set 2 (.bool o)
    have q0 := Z2.at 0 rfl
    have q1 := Z2.at 1 rfl
    have q2 := Z2.at 2 rfl
    refine bodyPost_ret (v := .tuple #[.agg #[.slice A n c, .int .i64 f, .bool o], .int .i64 1]) (by simp [results, Try.results24, go_sem, q0, q1, q2]; try rfl) rfl (by
      have b5 := below_set (o := 2) (below_set (o := 1) (below_set (o := 0) b (show w.heap.size ≤ w.heap.size + 1 by omega) (.slice A n c)) (show w.heap.size ≤ w.heap.size + 1 by omega) (.int .i64 f)) (show w.heap.size ≤ w.heap.size + 1 by omega) (.bool o)
      rw [EW.out]
      exact ⟨⟨A, n, c, rfl, h0.belowH b5, fun h => absurd (show (1 : Int) = 0 from h) (by decide)⟩, b5⟩)
end Go.Proofs.Ytipccalbhlhljaa

namespace Go.Proofs.Ytipccalbhlhljaa
set_option linter.unusedVariables false
set_option linter.unusedSimpArgs false
open Go.RowKit
theorem exec_sec {w : World} {ρ : Operand → Value} {d : Nat} {ty : TypeId} {pos : String} {af : Array Edge} {g : Option (Nat × Bool)} {x : Operand} (b o : Nat) (s : List UInt8) (hs : s.length = 64) (hc : w.rangeAt b o (U s)) (hx : ρ x = .pointer (some ⟨b, o, none⟩)) :
    (execOp ρ ⟨some d, .load 24 x, ty, pos, af, g⟩).run Try.prog w = .ok (.value (.agg (U s).toArray)) w := by
  unfold execOp
  simp only [hx, Instr.loadAt, Instr.sureAddr, Sem.run_bind, Sem.run_pure, Result.andThen_ok, run_loadVar_mid w b o 24 (U s) _ hc Try.underlying24 rfl (by rw [U_length, hs]; rfl)]
end Go.Proofs.Ytipccalbhlhljaa

namespace Go.Proofs.Ytipccalbhlhljaa
set_option linter.unusedVariables false
set_option linter.unusedSimpArgs false
open Go.RowKit
theorem U_zero : U K.zero = List.replicate 64 (.int .u8 0) := by simp [U, K.zero]
theorem S_zero (n : Nat) : S (List.replicate n K.zero) = List.replicate (n * 64) (.int .u8 0) := by
  induction n with
  | zero => rfl
  | succ n ih => rw [List.replicate_succ, S_cons, ih, U_zero, List.replicate_append_replicate]; congr 1; omega
theorem made_rep (k m : Nat) (hk : 0 < k) (v : Value) : (madeCells (List.replicate k v).toArray m).toList = List.replicate m v := by
  apply List.ext_getElem
  · simp [madeCells]
  · intro i h1 h2
    have h64 : i % k < k := Nat.mod_lt _ hk
    simp [madeCells, h64]
theorem made_zero (m : Nat) : (madeCells (U K.zero).toArray m).toList = List.replicate m (.int .u8 0) := by rw [U_zero]; exact made_rep 64 m (by omega) _
/-- make of n sectors -/
theorem makeS_law {w : World} {ops : Array Oper} {rest : List Oper} {o : Oper} {a : Act} {Q : Exit → Act → World → Prop}
    (hg : o.guard = none) (l c : Operand) (hop : o.op = Op.makeSlice 32 l c) (base : Nat) {kl kc : IntKind} {L C : Int} (n : Nat) (hl : a.eval l = .int kl L) (hc : a.eval c = .int kc C) (hL : L = n) (hC : C = n)
    (hb : n ≤ 1000) (hbase : base ≤ w.heap.size)
    (h : ∀ w', w'.ownsRow base 24 64 (.slice (some ⟨w.heap.size, 0, none⟩) n n) n (S (List.replicate n K.zero)) → w.grownBy w' none → wpList Try.prog ops Q rest (a.put o.dst (.slice (some ⟨w.heap.size, 0, none⟩) n n)) w') : wpList Try.prog ops Q (o :: rest) a w := by
  obtain ⟨i, hi, hz, hsz, hby⟩ := secT.parts
  refine wpList_make_full w hg l c 32 hop base 24 i (.agg (U K.zero).toArray) 64 secT.ht hi hz hsz kl kc L C n hl hc hL hC (by rw [hby]; omega) (by unfold maxLen; omega) hbase fun w' h2 h3 => h w' ?_ h3
  have e : (Value.agg (U K.zero).toArray).cells = (U K.zero).toArray := by kernel_rfl
  rw [e, made_zero] at h2
  rw [S_zero]
  exact h2
set_option maxHeartbeats 1000000 in
theorem rknew_any (m : Int) (w : World) : Calls Try.prog 23 #[.int .i64 m] w (DiskR (K.new m).1 (K.new m).2 w) := by
  have Z := Box.new w #[.slice none 0 0, .int .i64 0, .bool false] 34
  have b := (Below.refl w.heap.size w).alloc (Nat.le_refl _) (.cells #[.slice none 0 0, .int .i64 0, .bool false] 34)
  by_cases hbad : m < 1 ∨ 64 < m
  · have EW : Hid (K.new m = (⟨[], 0, false⟩, 1)) := Lib.hid (by unfold K.new; rw [if_pos hbad])
    have q0 := Z.at 0 rfl
    have q1 := Z.at 1 rfl
    have q2 := Z.at 2 rfl
    have fin : DiskR (K.new m).1 (K.new m).2 w (.returned (.tuple #[.agg #[.slice none 0 0, .int .i64 0, .bool false], .int .i64 1])) (w.alloc (.cells #[.slice none 0 0, .int .i64 0, .bool false] 34)) := by
      rw [EW.out]
      exact ⟨⟨none, 0, 0, rfl, ⟨Rd.zero _ _ _ _, fun s hs => by simp at hs, Nat.le_refl _, by show 0 ≤ _; omega⟩, fun h => absurd (show (1 : Int) = 0 from h) (by decide)⟩, b⟩
    have FIN := Lib.hid fin
    clear fin
    by_cases h1 : m < 1
    all_goals try (have h2 : 64 < m := by omega)
    all_goals clear hbad
    all_goals go_enter Try.func23, Try.ntmps23
    all_goals go_wp2
    all_goals exact bodyPost_ret (v := .tuple #[.agg #[.slice none 0 0, .int .i64 0, .bool false], .int .i64 1]) (by simp [results, Try.results23, go_sem, q0, q1, q2]; try rfl) rfl FIN.out
  · obtain ⟨n, rfl⟩ := Int.eq_ofNat_of_zero_le (show 0 ≤ m by omega)
    have hn1 : ¬ (n : Int) < 1 := by omega
    have hn2 : ¬ 64 < (n : Int) := by omega
    have EW : Hid (K.new (n : Int) = (⟨List.replicate n K.zero, -1, false⟩, 0)) := Lib.hid (by unfold K.new; rw [if_neg hbad]; simp)
    have hs : (w.alloc (.cells #[.slice none 0 0, .int .i64 0, .bool false] 34)).heap.size = w.heap.size + 1 := by simp
    clear hbad
    go_enter Try.func23, Try.ntmps23
    go_wp2_with (at_make; go_loud (refine makeS_law rfl _ _ rfl (w.heap.size + 1) n rfl rfl rfl rfl (by omega) (by omega) ?_); rintro w2 hown hg; have b2 := (Below.refl (w.heap.size + 1) _).grown hg (by omega) (fun k hk => by simp at hk); replace Z := Z.below b2 (by omega); have b := b.grown hg (by omega) (fun k hk => by simp at hk); have z0 := Z.at 0 rfl; have z1 := Z.at 1 rfl; have z2 := Z.at 2 rfl; have zc := Z.cold)
    have Z2 := ((Z.set 0 (.slice (some ⟨w.heap.size + 1, 0, none⟩) n n)).set 1 (.int .i64 (-1))).set 2 (.bool false)
    have q0 := Z2.at 0 rfl
    have q1 := Z2.at 1 rfl
    have q2 := Z2.at 2 rfl
    refine bodyPost_ret (v := .tuple #[.agg #[.slice (some ⟨w.heap.size + 1, 0, none⟩) n n, .int .i64 (-1), .bool false], .int .i64 0]) (by simp [results, Try.results23, go_sem, q0, q1, q2]; try rfl) rfl ?_
    have b5 := below_set (o := 2) (below_set (o := 1) (below_set (o := 0) b (show w.heap.size ≤ w.heap.size by omega) (.slice (some ⟨w.heap.size + 1, 0, none⟩) n n)) (show w.heap.size ≤ w.heap.size by omega) (.int .i64 (-1))) (show w.heap.size ≤ w.heap.size by omega) (.bool false)
    rw [hs] at hown
    have hwf := K.new_wf (n : Int)
    rw [EW.out] at hwf ⊢
    have hk := ownsRow_setCell_below (ownsRow_setCell_below (ownsRow_setCell_below hown (a := ⟨w.heap.size, 0, none⟩) (by show w.heap.size < _; omega) (.slice (some ⟨w.heap.size + 1, 0, none⟩) n n)) (a := ⟨w.heap.size, 1, none⟩) (by show w.heap.size < _; omega) (.int .i64 (-1))) (a := ⟨w.heap.size, 2, none⟩) (by show w.heap.size < _; omega) (.bool false)
    exact ⟨⟨_, n, n, rfl, KRd.of_own hk hwf, fun _ bk ok hA => by have h9 : w.heap.size + 1 ≤ bk := own_far hown hA; omega⟩, b5⟩
end Go.Proofs.Ytipccalbhlhljaa

