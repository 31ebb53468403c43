/- Digests in memory (no program). -/
import Derived.Test.YtoemefoppkgfaaaDMath
import Derived.Test.YtoemefoppkgfaaaRowsOf
namespace Go.Proofs.Ytoemefoppkgfaaa
set_option linter.unusedVariables false
open Go.RowKit Go.ChangeShapes Go.WideShapes Go.Joins Go.Deep

def dcl (x : Dg) : List Value := [.int .i64 x.node, .int .i64 x.gen, .int .i64 x.ver]
/-- a digest's value -/
def dgv (x : Dg) : Value := .agg #[.int .i64 x.node, .int .i64 x.gen, .int .i64 x.ver]
theorem dcl_len (x : Dg) : (dcl x).length = 3 := rfl
theorem dcl_one (x : Dg) : ∀ u ∈ dcl x, u.oneCell' = true := by
  intro u hu
  simp [dcl] at hu
  rcases hu with rfl | rfl | rfl <;> rfl
/-- a list of digests reads -/
def DRd (w : World) (A : Option Addr) (n : Nat) (l : List Dg) : Prop := Rd w w.heap.size 3 A n (FC dcl l)
theorem DRd.belowH {w w' : World} {A : Option Addr} {n : Nat} {l : List Dg} (h : DRd w A n l) (hb : Below w.heap.size w w') : DRd w' A n l := Rd.belowH h hb
theorem DRd.allocH {w : World} {A : Option Addr} {n : Nat} {l : List Dg} (h : DRd w A n l) (o : Obj) : DRd (w.alloc o) A n l := (Rd.alloc h (Nat.le_refl _) o).more (by simp)
theorem DRd.drewH {w : World} {A : Option Addr} {n : Nat} {l : List Dg} (h : DRd w A n l) : DRd w.drew A n l := h
theorem DRd.drewN {w : World} {A : Option Addr} {n : Nat} {l : List Dg} (h : DRd w A n l) (q : Nat) : DRd (w.drewN q) A n l := h
theorem DRd.len {w : World} {A : Option Addr} {n : Nat} {l : List Dg} (h : DRd w A n l) : l.length = n := Rd.lenF (by omega) dcl_len h
theorem DRd.zero (w : World) (A : Option Addr) : DRd w A 0 [] := Rd.zero _ _ _ _
theorem DRd.at {w : World} {A : Option Addr} {n : Nat} {l : List Dg} (h : DRd w A n l) {k : Nat} (hk : k < n) :
    ∃ b o x, A = some ⟨b, o, none⟩ ∧ b < w.heap.size ∧ l[k]? = some x ∧ w.cell? ⟨b, o + k * 3, none⟩ = some (.int .i64 x.node) ∧ w.cell? ⟨b, o + k * 3 + 1, none⟩ = some (.int .i64 x.gen) ∧ w.cell? ⟨b, o + k * 3 + 2, none⟩ = some (.int .i64 x.ver) := by
  obtain ⟨b, o, x, e, hb, hx, hc⟩ := Rd.atF (by omega) dcl_len h hk
  refine ⟨b, o, x, e, hb, hx, hc 0 _ rfl, ?_, ?_⟩
  · have := hc 1 _ rfl; rwa [← Nat.add_assoc] at this
  · have := hc 2 _ rfl; rwa [← Nat.add_assoc] at this
/-- a list of digests that came in -/
def DIn (W : World) (A : Option Addr) (n c : Nat) (l : List Dg) : Prop := DRd W A n l ∧ n ≤ c ∧ n * 24 ≤ 140737488351232

section
variable {H : Type} {enc : TypeId × Value → H} {P : Program} {W : World} {base fuel : Nat} {spare : Nat → Bool} {held : Bool}
theorem dg_of {t : TypeId} {f0 f1 f2 : Field} {cs : List Value} {x : DataW H × List MemPlace} (hs : P.underlying t = some (.struct #[f0, f1, f2])) (hone : oneCellFields P #[f0, f1, f2] = true)
    (h0 : P.underlying f0.type = some (.int .i64)) (h1 : P.underlying f1.type = some (.int .i64)) (h2 : P.underlying f2.type = some (.int .i64))
    (hl : cs.length = 3) (h : DataW.trod enc P W base spare held fuel t cs = some x) : ∃ v : Dg, cs = dcl v ∧ True := by
  obtain ⟨y0, y1, y2, n, hx, _, q0, q1, q2⟩ := trod_struct3 hs h
  obtain ⟨o0, c0⟩ := hone_of hone 0 f0 rfl
  obtain ⟨o1, c1⟩ := hone_of hone 1 f1 rfl
  obtain ⟨o2, c2⟩ := hone_of hone 2 f2 rfl
  match cs, hl with
  | [u0, u1, u2], _ =>
    rw [o0, c0] at q0
    rw [o1, c1] at q1
    rw [o2, c2] at q2
    obtain ⟨g, e0, _, _⟩ := DataW.trod_int h0 q0
    obtain ⟨b, e1, _, _⟩ := DataW.trod_int h1 q1
    obtain ⟨d, e2, _, _⟩ := DataW.trod_int h2 q2
    obtain rfl : u0 = .int .i64 g := by simpa using e0
    obtain rfl : u1 = .int .i64 b := by simpa using e1
    obtain rfl : u2 = .int .i64 d := by simpa using e2
    exact ⟨⟨g, b, d⟩, rfl, trivial⟩
end
/-! ### Two rows of one's own: one grows, the other stays -/
section
variable {α : Type} {f : α → List Value} {k : Nat}
/-- what a push of one's own row leaves of another one -/
def Spares (w w' : World) (v v' : Value) : Prop := ∀ {base e size n : Nat} {u : Value} {xs : List Value}, w.ownsRow base e size u n xs → (u.ownBlock = none ∨ u.ownBlock ≠ v.ownBlock) → w'.ownsRow base e size u n xs ∧ (u.ownBlock = none ∨ u.ownBlock ≠ v'.ownBlock)
theorem spares_of {w w' : World} {v v' : Value} {cs : Array Value} {ty : TypeId} (hg : (w.alloc (.cells cs ty)).grownBy w' v.ownBlock) (hl : v'.ownBlock = v.ownBlock ∨ v'.ownBlock = some (w.alloc (.cells cs ty)).heap.size) : Spares w w' v v' := by
  intro base e size n u xs hu hne
  refine ⟨(hu.alloc _).kept hg hne, ?_⟩
  rcases hl with hl | hl
  · rw [hl]; exact hne
  · rcases hb : u.ownBlock with _ | b
    · exact Or.inl rfl
    · right
      intro h
      rw [hl] at h
      injection h with h
      have h1 := (hu.lt b hb).2
      have h2 : (w.alloc (.cells cs ty)).heap.size = w.heap.size + 1 := by simp
      omega
/-- pushF_law, and what it leaves of other rows of one's own -/
theorem pushS_law {P : Program} {t e : TypeId} {z : Value} {bytes : Nat} {w : World} {ops : Array Oper} {rest : List Oper} {o : Oper} {a : Act} {Q : Exit → Act → World → Prop} (T : SlT P t e z k bytes) (hf : ∀ x, (f x).length = k) (h1 : ∀ x, ∀ u ∈ f x, u.oneCell' = true)
    (hgd : o.guard = none) (s x : Operand) (ho : o.op = .call { callee := .builtin .append, args := #[s, x], argTypes := #[t, t] })
    (base : Nat) {A : Option Addr} {m c : Nat} {O : List α} {y : α} {cs : Array Value} {ty : TypeId} (hcs : cs.toList = f y) (hs : a.eval s = .slice A m c) (hx : a.eval x = .slice (some ⟨w.heap.size, 0, none⟩) 1 1)
    (hown : w.ownsRow base e k (.slice A m c) m (FC f O)) (hb : (m + 1) * bytes ≤ 140737488355328) (hm : m + 1 ≤ 140737488355328) (hbase : base ≤ w.heap.size)
    (h : ∀ A' c' w', w'.ownsRow base e k (.slice A' (m + 1) c') (m + 1) (FC f (O ++ [y])) → Below base w w' → Spares w w' (.slice A m c) (.slice A' (m + 1) c') → wpList P ops Q rest (a.put o.dst (.slice A' (m + 1) c')) w') :
    wpList P ops Q (o :: rest) a (w.alloc (.cells cs ty)) := by
  have hsz : cs.size = 1 * k := by rw [← Array.length_toList, hcs, hf]; omega
  refine app_law T hgd s x ho base hs (hown.alloc _) hx (Rd.lit w cs ty k 1 hsz) (by rw [hcs]; exact h1 y) hb hm (by simp; omega) fun A2 c2 w2 ap => ?_
  have hown2 := ap.own
  rw [hcs, show FC f O ++ f y = FC f (O ++ [y]) by rw [FC_append, FC_one]] at hown2
  exact h A2 c2 w2 hown2 (below_app ((Below.refl _ _).alloc hbase _) (hown.alloc _) ap.grown (Nat.le_refl _) (by simp; omega)) (spares_of ap.grown ap.loc)
end
end Go.Proofs.Ytoemefoppkgfaaa
