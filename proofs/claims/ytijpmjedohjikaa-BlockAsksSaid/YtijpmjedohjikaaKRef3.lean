/- A whole sector into a block, and out of it (for the document's Get, Put, Copy). -/
import Derived.Test.YtijpmjedohjikaaKRef2
import Derived.Deep.WholeRow
namespace Go.Proofs.Ytijpmjedohjikaa
set_option linter.unusedVariables false
set_option linter.unusedSimpArgs false
open Go.RowKit
/-- a sector and an error -/
def SecR (s : List UInt8) (er : Int) (w : World) (e : Ending) (w' : World) : Prop := e = .returned (.tuple #[.agg (U s).toArray, .int .i64 er]) ∧ Below w.heap.size w w'
/-- a whole sector into a block, and out of it -/
theorem sec_store {ops : Array Oper} {rest : List Oper} {op : Oper} {a : Act} {w : World} {Q : Exit → Act → World → Prop} (b o : Nat) (s : List UInt8) (hs : s.length = 64) (ht : w.there b o 64)
    (hgd : op.guard = none) (x y : Operand) (ho : op.op = .store 26 x y) (hx : a.eval x = .pointer (some ⟨b, o, none⟩)) (cs : Array Value) (hy : a.eval y = .agg cs) (hcs : cs = (U s).toArray)
    (h : wpList Try.prog ops Q rest (a.put op.dst undef) (w.setCells b o (U s))) : wpList Try.prog ops Q (op :: rest) a w :=
  wpList_store_mid hgd 26 x y ho b o (U s).toArray hx (hcs ▸ hy) (by simpa [U_length, hs] using ht) (by rw [List.size_toArray, U_length, hs]; rfl) (all_oneCell_toArray (U_one s)) h
theorem sec_get {ops : Array Oper} {rest : List Oper} {op : Oper} {a : Act} {w : World} {Q : Exit → Act → World → Prop} (b o : Nat) (s : List UInt8) (hs : s.length = 64) (hc : w.rangeAt b o (U s))
    (hgd : op.guard = none) (x : Operand) (ho : op.op = .load 26 x) (hx : a.eval x = .pointer (some ⟨b, o, none⟩))
    (h : wpList Try.prog ops Q rest (a.put op.dst (.agg (U s).toArray)) w) : wpList Try.prog ops Q (op :: rest) a w :=
  wpList_load_mid hgd 26 x ho b o hx (U s) _ hc Try.underlying26 rfl (by rw [U_length, hs]; rfl) h
theorem Box.there {w : World} {b : Nat} {T : TypeId} {cs : Array Value} (h : Box w b T cs) : w.there b 0 cs.size := fun j hj => ⟨by rw [Nat.zero_add, h.at j (Array.getElem?_eq_getElem hj)]; rfl, by rw [Nat.zero_add]; exact h.cold j⟩
theorem zero_len : K.zero.length = 64 := by simp [K.zero]
theorem sec_build (w : World) (a : Act) (d : Option Nat) (T : TypeId) (pos : String) (af : Array Edge) (g : Option (Nat × Bool)) : (execOp a.eval ⟨d, .build 26 #[], T, pos, af, g⟩).run Try.prog w = .ok (.value (.agg (U K.zero).toArray)) w := by
  have h := run_build (P := Try.prog) w 26 #[] (U K.zero).toArray (by kernel_rfl)
  unfold execOp
  simp only [Array.map_empty, Sem.run_bind, h, Result.andThen_ok, Sem.run_pure]
theorem sec_zero {ops : Array Oper} {rest : List Oper} {T : TypeId} {pos : String} {af : Array Edge} {a : Act} {w : World} {Q : Exit → Act → World → Prop} (d : Nat)
    (h : wpList Try.prog ops Q rest (a.put (some d) (.agg (U K.zero).toArray)) w) : wpList Try.prog ops Q (⟨some d, .build 26 #[], T, pos, af, none⟩ :: rest) a w :=
  wpList_plain rfl fun K hK => by
    unfold Oper.wp
    rw [sec_build]
    exact hK _ _ h
/-- a result that stands in a cell, beside one that stands in a slot -/
theorem results_cell_tmp {P : Program} {fn : Func} {tmps : Array Value} {w : World} (a : Nat) (t : TypeId) (k : Nat) (hf : fn.results = #[.cell a t, .tmp k]) (x : Addr) (ha : tmps.getD a undef = .pointer (some x)) (v u : Value) (hu : tmps.getD k undef = u)
    (hl : (loadVar t x).run P w = .ok v w) : (results fn tmps).run P w = .ok (.tuple #[v, u]) w := by
  unfold results
  rw [hf]
  have ha' : tmps[a]?.getD undef = .pointer (some x) := by simpa using ha
  have hu' : tmps[k]?.getD undef = u := by simpa using hu
  simp [Sem.run_bind, asAddr, ha', hu', hl]
theorem below_setCells {B b : Nat} {w0 : World} (hb : B ≤ b) : ∀ (vs : List Value) (o : Nat) (w : World), Below B w0 w → Below B w0 (w.setCells b o vs)
  | [], _, _, h => h
  | v :: vs, o, w, h => below_setCells hb vs (o + 1) (w.setCell ⟨b, o, none⟩ v) (h.setCell hb v)
theorem sec_got {ops : Array Oper} {rest : List Oper} {T : TypeId} {pos : String} {af : Array Edge} {x : Operand} {a : Act} {w : World} {Q : Exit → Act → World → Prop} (d b o : Nat) (s : List UInt8) (hs : s.length = 64) (hc : w.rangeAt b o (U s))
    (hx : a.eval x = .pointer (some ⟨b, o, none⟩))
    (h : wpList Try.prog ops Q rest (a.put (some d) (.agg (U s).toArray)) w) : wpList Try.prog ops Q (⟨some d, .load 26 x, T, pos, af, none⟩ :: rest) a w :=
  sec_get b o s hs hc rfl x rfl hx h
/-- the walk stops here -/
theorem body_stop {P : Program} {fn : Func} {R : Ending → World → Prop} {a : Act} {w : World} (h : Hid (bodyPost P fn R .ret a w)) : bodyPost P fn R .ret a w := h.out
theorem sec_cells {P : Program} (w : World) (b : Nat) (s : List UInt8) (hs : s.length = 64) (ht : w.there b 0 64) :
    (storeCells ⟨b, 0, none⟩ (U s)).run P w = .ok () (w.setCells b 0 (U s)) := by
  have h := run_storeCells_cells (P := P) b 0 (U s) 0 w (fun j hj => by simpa using (ht j (by rwa [U_length, hs] at hj)).1) (fun j hj => by simpa using (ht j (by rwa [U_length, hs] at hj)).2) (U_one s)
  simpa using h
set_option maxHeartbeats 400000 in
set_option maxRecDepth 20000 in
theorem rkget_any (u : Kv) (i : Int) (w : World) (h : KRd w u) :
    Calls Try.prog 13 #[kval u, .int .i64 i] w (SecR (K.get u.x i) (K.asked u.x i) w) := by
  have hlen := h.len
  obtain ⟨⟨l, f, o⟩, A, n, c⟩ := u
  simp only at hlen
  simp only [kval]
  go_enter Try.func13, Try.ntmps13
  go_wp2_with fail
  have hR : KRd ((w.alloc (.cells #[.slice A n c, .int .i64 f, .bool o] 24)).alloc (.cells (U K.zero).toArray 26)) ⟨⟨l, f, o⟩, A, n, c⟩ := (h.alloc _).alloc _
  have X : Box ((w.alloc (.cells #[.slice A n c, .int .i64 f, .bool o] 24)).alloc (.cells (U K.zero).toArray 26)) w.heap.size 24 #[.slice A n c, .int .i64 f, .bool o] := (Box.new w _ _).below ((Below.refl _ _).alloc (Nat.le_refl _) _) (by simp)
  have Z : Box ((w.alloc (.cells #[.slice A n c, .int .i64 f, .bool o] 24)).alloc (.cells (U K.zero).toArray 26)) (w.heap.size + 1) 26 (U K.zero).toArray := by
    have := Box.new (w.alloc (.cells #[.slice A n c, .int .i64 f, .bool o] 24)) (U K.zero).toArray 26
    simpa using this
  have b := ((Below.refl w.heap.size w).alloc (Nat.le_refl _) (.cells #[.slice A n c, .int .i64 f, .bool o] 24)).alloc (by simp) (.cells (U K.zero).toArray 26)
  refine (rkasked_any ⟨⟨l, f, o⟩, A, n, c⟩ i _ hR).mono ?_
  rintro _ w2 ⟨rfl, b2⟩
  replace hR := hR.belowH b2
  replace X := X.below b2 (by simp; omega)
  replace Z := Z.below b2 (by simp)
  replace b := b.trans (b2.mono b.size)
  clear b2
  have y0 := X.at 0 rfl
  have HR := Lib.hid hR
  have HL := Lib.hid hlen
  clear h hR hlen
  have HT : Hid (w2.there (w.heap.size + 1) 0 64) := Lib.hid (by have h1 := Z.there; have e : (U K.zero).toArray.size = 64 := (by rw [List.size_toArray, U_length, zero_len]); rw [e] at h1; exact h1)
  by_cases h0 : K.asked ⟨l, f, o⟩ i = 0
  · obtain ⟨r, hd, i0, i1⟩ := K.asked_right h0
    rw [h0]
    obtain ⟨k, rfl⟩ := Int.eq_ofNat_of_zero_le i0
    have hk : k < n := by have := HL.out; simp at i1; omega
    obtain ⟨bk, ok, s, rfl, hb, hx, h64, hcell⟩ := HR.out.1.atS HR.out.2.1 HL.out hk
    have e : K.get ⟨l, f, o⟩ k = s := by unfold K.get; rw [if_pos h0]; simp [List.getD, hx]
    have E := Lib.hid e
    have H0 := Lib.hid h0
    have L64 : (U s).length = 64 := by rw [U_length, h64]
    have SC := sec_cells (P := Try.prog) w2 (w.heap.size + 1) s h64 HT.out
    have HC : Hid (w2.rangeAt bk (ok + k * 64) (U s)) := Lib.hid hcell
    have H64 := Lib.hid h64
    clear i0 i1 hcell r hd hx e h0 h64
    have hk0 : (0 : Int) ≤ (k : Int) := by omega
    go_wp2_with (first | ((with_reducible refine sec_got _ bk (ok + k * 64) s H64.out HC.out ?hx ?_); (case hx => rfl)) | with_reducible refine body_stop ?_)
    have LV : (loadVar 26 ⟨w.heap.size + 1, 0, none⟩).run Try.prog (w2.setCells (w.heap.size + 1) 0 (U s)) = .ok (.agg (U s).toArray) (w2.setCells (w.heap.size + 1) 0 (U s)) :=
      run_loadVar_mid _ _ _ _ _ _ (World.rangeAt_setCells_same _ _ _ _ (by rw [U_length, H64.out]; exact HT.out)) Try.underlying26 rfl (by rw [U_length, H64.out]; rfl)
    refine Lib.hid (bodyPost_ret (v := .tuple #[.agg (U s).toArray, .int .i64 0]) ?_ rfl ?_)
    · exact results_cell_tmp 4 26 5 Try.results13 _ rfl _ _ rfl LV
    · refine ⟨by rw [E.out, H0.out], ?_⟩
      exact below_setCells (by omega) _ _ _ b
  · have t1 : (K.asked ⟨l, f, o⟩ i != 0) = true := bne_iff_ne.2 h0
    have SC := sec_cells (P := Try.prog) w2 (w.heap.size + 1) K.zero zero_len HT.out
    go_wp2_with (first | with_reducible refine sec_zero _ ?_ | with_reducible refine body_stop ?_)
    have LV : (loadVar 26 ⟨w.heap.size + 1, 0, none⟩).run Try.prog (w2.setCells (w.heap.size + 1) 0 (U K.zero)) = .ok (.agg (U K.zero).toArray) (w2.setCells (w.heap.size + 1) 0 (U K.zero)) :=
      run_loadVar_mid _ _ _ _ _ _ (World.rangeAt_setCells_same _ _ _ _ (by rw [U_length, zero_len]; exact HT.out)) Try.underlying26 rfl (by rw [U_length, zero_len]; rfl)
    refine Lib.hid (bodyPost_ret (v := .tuple #[.agg (U K.zero).toArray, .int .i64 (K.asked ⟨l, f, o⟩ i)]) ?_ rfl ?_)
    · exact results_cell_tmp 4 26 5 Try.results13 _ rfl _ _ rfl LV
    · have e : K.get ⟨l, f, o⟩ i = K.zero := by unfold K.get; rw [if_neg h0]
      rw [e]
      refine ⟨rfl, ?_⟩
      exact below_setCells (by omega) _ _ _ b
end Go.Proofs.Ytijpmjedohjikaa
