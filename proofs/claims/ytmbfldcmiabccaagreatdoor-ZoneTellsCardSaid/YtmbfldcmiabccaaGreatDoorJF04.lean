/- TRef3 Gen2 VMath RowsOf VMem VRef (merged). -/
import Derived.Test.YtmbfldcmiabccaaGreatDoorJF00
import Derived.Test.YtmbfldcmiabccaaGreatDoorJF03
namespace Go.Proofs.YtmbfldcmiabccaaGreatDoor
set_option linter.unusedVariables false
set_option linter.unusedSimpArgs false
open Go.RowKit

end Go.Proofs.YtmbfldcmiabccaaGreatDoor

namespace Go.Proofs.YtmbfldcmiabccaaGreatDoor
set_option linter.unusedVariables false
open Go.RowKit

/-- a slice's cells don't lie in the row of one's own -/
def Off (v : Value) (A : Option Addr) (n : Nat) : Prop := n ≠ 0 → ∀ b o, A = some ⟨b, o, none⟩ → v.ownBlock ≠ some b
/-- a row of one's own that is made behind it -/
theorem off_made {w w' : World} {base base' e e' size size' m n c : Nat} {v : Value} {xs ys : List Value} {A : Option Addr} (ho : w.ownsRow base e size v m ys) (h : w'.ownsRow base' e' size' (.slice A n c) n xs) (hb : w.heap.size ≤ base') : Off v A n := fun hn b o ea hv => by
  have h1 := (ho.lt b hv).2
  have h2 := (h.lt b (by rw [ea]; rfl)).1
  omega
theorem Rd.grownX {w w' : World} {size n : Nat} {A : Option Addr} {xs : List Value} {v : Value} (h : Rd w w.heap.size size A n xs) (hg : w.grownBy w' v.ownBlock) (ho : Off v A n) : Rd w' w'.heap.size size A n xs := by
  refine ⟨h.1, fun hn => ?_⟩
  obtain ⟨b, o, e, hb, hc⟩ := h.2 hn
  refine ⟨b, o, e, Nat.lt_of_lt_of_le hb hg.size, fun j hj => (World.cell?_of_block (a := ⟨b, o + j, none⟩) (hg.block b hb fun hne => ho hn b o e hne.symm)).trans (hc j hj)⟩
/-- behind an append it is apart from the new row, too -/
theorem Off.app {w : World} {size n : Nat} {A : Option Addr} {xs : List Value} {v v' : Value} (ho : Off v A n) (h : Rd w w.heap.size size A n xs) (hl : v'.ownBlock = v.ownBlock ∨ v'.ownBlock = some w.heap.size) : Off v' A n := fun hn b o e hb => by
  rcases hl with hl | hl
  · exact ho hn b o e (hl ▸ hb)
  · obtain ⟨b', o', e', hlt, _⟩ := h.2 hn
    rw [e] at e'
    injection e' with e'
    injection e' with e' _
    rw [hl] at hb
    injection hb with hb
    omega

section
variable {α : Type} {f : α → List Value} {k : Nat}
/-- what a push keeps: each slice that reads, and lies apart from the row -/
def Keeps (w w' : World) (v v' : Value) : Prop := ∀ {size n : Nat} {A : Option Addr} {xs : List Value}, Rd w w.heap.size size A n xs → Off v A n → Rd w' w'.heap.size size A n xs ∧ Off v' A n
/-- an element behind a row of the call's own: its cells were laid in a block ahead -/
theorem pushF_law {P : Program} {t e : TypeId} {z : Value} {bytes : Nat} {w : World} {ops : Array Oper} {rest : List Oper} {o : Oper} {a : Act} {Q : Exit → Act → World → Prop} (T : SlT P t e z k bytes) (hf : ∀ x, (f x).length = k) (h1 : ∀ x, ∀ u ∈ f x, u.oneCell' = true)
    (hgd : o.guard = none) (s x : Operand) (ho : o.op = .call { callee := .builtin .append, args := #[s, x], argTypes := #[t, t] })
    (base : Nat) {A : Option Addr} {m c : Nat} {O : List α} {y : α} {cs : Array Value} {ty : TypeId} (hcs : cs.toList = f y) (hs : a.eval s = .slice A m c) (hx : a.eval x = .slice (some ⟨w.heap.size, 0, none⟩) 1 1)
    (hown : w.ownsRow base e k (.slice A m c) m (FC f O)) (hb : (m + 1) * bytes ≤ 140737488355328) (hm : m + 1 ≤ 140737488355328) (hbase : base ≤ w.heap.size)
    (h : ∀ A' c' w', w'.ownsRow base e k (.slice A' (m + 1) c') (m + 1) (FC f (O ++ [y])) → Below base w w' → Keeps w w' (.slice A m c) (.slice A' (m + 1) c') → wpList P ops Q rest (a.put o.dst (.slice A' (m + 1) c')) w') :
    wpList P ops Q (o :: rest) a (w.alloc (.cells cs ty)) := by
  have hsz : cs.size = 1 * k := by rw [← Array.length_toList, hcs, hf]; omega
  refine app_law T hgd s x ho base hs (hown.alloc _) hx (Rd.lit w cs ty k 1 hsz) (by rw [hcs]; exact h1 y) hb hm (by simp; omega) fun A2 c2 w2 ap => ?_
  have hown2 := ap.own
  rw [hcs, show FC f O ++ f y = FC f (O ++ [y]) by rw [FC_append, FC_one]] at hown2
  refine h A2 c2 w2 hown2 (below_app ((Below.refl _ _).alloc hbase _) (hown.alloc _) ap.grown (Nat.le_refl _) (by simp; omega)) ?_
  intro size n A0 xs hr hoff
  have hr2 : Rd (w.alloc (.cells cs ty)) (w.alloc (.cells cs ty)).heap.size size A0 n xs := (hr.alloc (Nat.le_refl _) _).more (by simp)
  exact ⟨hr2.grownX ap.grown hoff, hoff.app hr2 ap.loc⟩
theorem Keeps.trans {w w' w'' : World} {u v v' : Value} (h1 : Keeps w w' u v) (h2 : Keeps w' w'' v v') : Keeps w w'' u v' := fun hr ho => by
  obtain ⟨h3, h4⟩ := h1 hr ho
  exact h2 h3 h4
end
end Go.Proofs.YtmbfldcmiabccaaGreatDoor

namespace Go.Proofs.YtmbfldcmiabccaaGreatDoor
set_option linter.unusedSimpArgs false

/-- an endpoint's state -/
structure Nm where
  node : Int
  st : St
deriving DecidableEq

namespace V
def rising : List Nm → Prop
  | [] => True
  | x :: r => (∀ y ∈ r, x.node < y.node) ∧ rising r
def may (x : Nm) : Prop := 0 ≤ x.node ∧ x.node < 8 ∧ S.right x.st
def right (l : List Nm) : Prop := (∀ x ∈ l, may x) ∧ rising l
def get (l : List Nm) (k : Int) : Option St := (l.find? fun x => x.node == k).map Nm.st
def without (l : List Nm) (k : Int) : List Nm := l.filter fun x => !(x.node == k)
def put : List Nm → Int → St → List Nm
  | [], k, s => [⟨k, s⟩]
  | y :: r, k, s => if y.node < k then y :: put r k s else if y.node = k then ⟨k, s⟩ :: r else ⟨k, s⟩ :: y :: r
def step (l : List Nm) (y : Nm) : List Nm :=
  match get l y.node with
  | none => put l y.node y.st
  | some x => put l y.node (S.join x y.st)
def join (a b : List Nm) : List Nm := b.foldl step a
def over (a b : List Nm) : Prop := join a b = a
theorem get_cons (x : Nm) (r : List Nm) (k : Int) : get (x :: r) k = if x.node = k then some x.st else get r k := by
  unfold get
  rw [List.find?_cons]
  by_cases h : x.node = k
  · simp [h]
  · have hb : (x.node == k) = false := beq_eq_false_iff_ne.2 h
    rw [hb, if_neg h]
theorem get_mem {l : List Nm} {k : Int} {s : St} (h : get l k = some s) : ⟨k, s⟩ ∈ l := by
  induction l with
  | nil => cases h
  | cons x r ih =>
    rw [get_cons] at h
    by_cases hk : x.node = k
    · rw [if_pos hk] at h
      injection h with h
      obtain ⟨n, t⟩ := x
      simp only at hk h
      subst hk h
      exact List.mem_cons_self ..
    · rw [if_neg hk] at h
      exact List.mem_cons_of_mem _ (ih h)
theorem get_low {l : List Nm} {k : Int} (h : ∀ y ∈ l, k < y.node) : get l k = none := by
  unfold get
  rw [List.find?_eq_none.2]
  · rfl
  · intro y hy
    have := h y hy
    simp; omega
theorem get_of_mem {l : List Nm} (hr : rising l) {x : Nm} (hx : x ∈ l) : get l x.node = some x.st := by
  induction l with
  | nil => cases hx
  | cons y r ih =>
    rw [get_cons]
    rcases List.mem_cons.1 hx with rfl | hx
    · rw [if_pos rfl]
    · have := hr.1 x hx
      rw [if_neg (by omega)]
      exact ih hr.2 hx
/-! ### The lattice -/
def ok (x : Option St) : Prop := ∀ s, x = some s → S.rise s
/-! ### Without -/
end V
end Go.Proofs.YtmbfldcmiabccaaGreatDoor

namespace Go.Proofs.YtmbfldcmiabccaaGreatDoor
set_option linter.unusedVariables false
open Go.RowKit Go.ChangeShapes Go.WideShapes Go.Joins Go.Deep

theorem rows_of {H : Type} {enc : TypeId × Value → H} {P : Program} {W : World} {base fuel : Nat} {spare : Nat → Bool} {held : Bool} {α : Type} {f : α → List Value} {k by_ : Nat} {R : α → Prop} {t e : TypeId} {v : Value} {x : DataW H × List MemPlace}
    (hk : 0 < k) (hf : ∀ x, (f x).length = k) (ht : P.underlying t = some (.slice e)) (hC : P.cellsOf e = k) (hB : P.bytesOf e = by_) (hb0 : 1 ≤ by_)
    (hel : ∀ (cs : List Value) (y : DataW H × List MemPlace) (fl : Nat), cs.length = k → DataW.trod enc P W base spare held fl e cs = some y → (∀ n ∈ y.1.weights P e, n ≤ 140737488351232) → ∃ a : α, cs = f a ∧ R a)
    (hw : ∀ n ∈ x.1.weights P t, n ≤ 140737488351232) (h : DataW.trod enc P W base spare held fuel t [v] = some x) :
    ∃ a len cap l, v = .slice a len cap ∧ Rd W W.heap.size k a len (FC f l) ∧ len ≤ cap ∧ cap ≤ 9223372036854775807 ∧ len * by_ ≤ 140737488351232 ∧ ∀ y ∈ l, R y := by
  rcases open_slice ht h with ⟨hcs, _⟩ | ⟨a, len, cap, m, n, D, Pl, hcs, hb, hl, hm, hmm, hx0, hi⟩
  · obtain rfl : v = .slice none 0 0 := by simpa using hcs
    exact ⟨none, 0, 0, [], rfl, Rd.zero _ _ _ _, Nat.le_refl _, by omega, by omega, by simp⟩
  · obtain rfl : v = .slice (some a) len cap := by simpa using hcs
    have hlm : len ≤ m := by rw [hmm]; split <;> omega
    rw [hC] at hi
    rw [hx0] at hw
    have hw : ∀ n ∈ (DataW.slice ((List.range len).map D) ((List.range (m - len)).map fun j => D (len + j))).weights P t, n ≤ 140737488351232 := hw
    rw [weights_slice ht, hB] at hw
    have hlen := hw _ (List.mem_cons_self ..)
    simp only [List.length_map, List.length_range] at hlen
    have hlen2 : len * by_ ≤ 140737488351232 := by
      have h1 : len ≤ len + (m - len) := Nat.le_add_right _ _
      exact Nat.le_trans (Nat.mul_le_mul_right _ h1) hlen
    have each : ∀ i, i < len → ∃ u : α, (∀ j, j < k → W.cell? ((a.add (i * k)).add j) = (f u)[j]?) ∧ R u := by
      intro i hi2
      obtain ⟨cs, hcs, htr⟩ := hi i (by omega)
      obtain ⟨_, hcl, hat⟩ := World.cells?_some hcs
      obtain ⟨u, rfl, g1⟩ := hel _ _ _ hcl htr (fun n hn => hw _ (List.mem_cons_of_mem _ (List.mem_append_left _ (weights_all (d := D i) (List.mem_map.2 ⟨i, by simpa using hi2, rfl⟩) _ hn))))
      exact ⟨u, hat, g1⟩
    clear hi
    have all : ∀ q, q ≤ len → ∃ l : List α, l.length = q ∧ (∀ y ∈ l, R y) ∧
        ∀ i u, l[i]? = some u → ∀ j, j < k → W.cell? ((a.add (i * k)).add j) = (f u)[j]? := by
      intro q
      induction q with
      | zero => exact fun _ => ⟨[], rfl, by simp, by simp⟩
      | succ q ih =>
        intro hq
        obtain ⟨l, h3, h4, h5⟩ := ih (by omega)
        obtain ⟨u, h6, h7⟩ := each q (by omega)
        refine ⟨l ++ [u], by simp [h3], ?_, ?_⟩
        · intro y hy
          rcases List.mem_append.1 hy with hy | hy
          · exact h4 y hy
          · obtain rfl : y = u := by simpa using hy
            exact h7
        · intro i u' hiu
          by_cases hik : i < q
          · rw [List.getElem?_append_left (by omega)] at hiu
            exact h5 i u' hiu
          · rw [List.getElem?_append_right (by omega), h3] at hiu
            have hi0 : i = q := by
              have := (List.getElem?_eq_some_iff.1 hiu).1
              simp at this
              omega
            subst hi0
            obtain rfl : u = u' := by simpa using hiu
            exact h6
    obtain ⟨l, h3, h4, h5⟩ := all len (Nat.le_refl _)
    unfold maxLen at hm
    refine ⟨some a, len, cap, l, rfl, ⟨by rw [FC_length hf, h3], fun hn => ?_⟩, hl, hm, hlen2, h4⟩
    obtain ⟨b, o, spot⟩ := a
    have e0 : l[0]? = some (l[0]'(by omega)) := List.getElem?_eq_getElem _
    have c0 := h5 0 _ e0 0 hk
    have hv0 : (f (l[0]'(by omega)))[0]? = some ((f (l[0]'(by omega)))[0]'(by rw [hf]; exact hk)) := List.getElem?_eq_getElem _
    rw [hv0] at c0
    have hspot : spot = none := by
      have : W.cell? (((⟨b, o, spot⟩ : Addr).add (0 * k)).add 0) = some ((f (l[0]'(by omega)))[0]'(by rw [hf]; exact hk)) := c0
      simpa [Addr.add] using World.cell?_spot this
    subst hspot
    have hadd : ∀ j, (⟨b, o, none⟩ : Addr).add j = ⟨b, o + j, none⟩ := fun j => by unfold Addr.add; split <;> simp_all
    have hadd2 : ∀ o' j, (⟨b, o', none⟩ : Addr).add j = ⟨b, o' + j, none⟩ := fun o' j => by unfold Addr.add; split <;> simp_all
    refine ⟨b, o, rfl, ?_, fun j hj => ?_⟩
    · rw [hadd, hadd2] at c0
      exact lt_of_cell c0
    · rw [FC_length hf, h3] at hj
      have hq : j / k < l.length := by rw [h3]; exact (Nat.div_lt_iff_lt_mul hk).2 hj
      have hx : l[j / k]? = some (l[j / k]'hq) := List.getElem?_eq_getElem hq
      have hdm : j / k * k + j % k = j := by rw [Nat.mul_comm]; exact Nat.div_add_mod j k
      have := h5 (j / k) _ hx (j % k) (Nat.mod_lt _ hk)
      rw [hadd, hadd2, ← FC_at hf hx (j % k) (Nat.mod_lt _ hk), Nat.add_assoc, hdm] at this
      exact this
end Go.Proofs.YtmbfldcmiabccaaGreatDoor

namespace Go.Proofs.YtmbfldcmiabccaaGreatDoor
set_option linter.unusedVariables false
open Go.RowKit

/-- an endpoint's state in memory -/
structure Nv where
  node : Int
  v : Sv
def Nv.nm (x : Nv) : Nm := ⟨x.node, x.v.s⟩
def ncl (x : Nv) : List Value := [.int .i64 x.node, .int .i64 x.v.s.gen, .int .i64 x.v.s.beat, .slice x.v.A x.v.n x.v.c]
theorem ncl_len (x : Nv) : (ncl x).length = 4 := rfl
theorem ncl_one (x : Nv) : ∀ u ∈ ncl x, u.oneCell' = true := by
  intro u hu
  simp [ncl] at hu
  rcases hu with rfl | rfl | rfl | rfl <;> rfl
/-- a view in memory: a slice of endpoints' states -/
structure Vw where
  l : List Nv
  A : Option Addr
  n : Nat
  c : Nat
def Vw.view (v : Vw) : List Nm := v.l.map Nv.nm
def vval (v : Vw) : Value := .slice v.A v.n v.c
def VRd (w : World) (v : Vw) : Prop := Rd w w.heap.size 4 v.A v.n (FC ncl v.l) ∧ ∀ x ∈ v.l, SRd w x.v
theorem VRd.belowH {w w' : World} {v : Vw} (h : VRd w v) (hb : Below w.heap.size w w') : VRd w' v := ⟨Rd.belowH h.1 hb, fun x hx => (h.2 x hx).belowH hb⟩
theorem VRd.allocH {w : World} {v : Vw} (h : VRd w v) (o : Obj) : VRd (w.alloc o) v := ⟨(Rd.alloc h.1 (Nat.le_refl _) o).more (by simp), fun x hx => (h.2 x hx).alloc o⟩
theorem VRd.drewN {w : World} {v : Vw} (h : VRd w v) (q : Nat) : VRd (w.drewN q) v := h
theorem VRd.len {w : World} {v : Vw} (h : VRd w v) : v.l.length = v.n := h.1.lenF (by omega) ncl_len
theorem VRd.viewlen {w : World} {v : Vw} (h : VRd w v) : v.view.length = v.n := by unfold Vw.view; rw [List.length_map, h.len]
/-- an endpoint that is read -/
theorem VRd.at {w : World} {v : Vw} (h : VRd w v) {k : Nat} (hk : k < v.n) :
    ∃ b o x, v.A = some ⟨b, o, none⟩ ∧ b < w.heap.size ∧ v.l[k]? = some x ∧ SRd w x.v ∧ w.cell? ⟨b, o + k * 4, none⟩ = some (.int .i64 x.node) ∧ w.cell? ⟨b, o + k * 4 + 1, none⟩ = some (.int .i64 x.v.s.gen) ∧
      w.cell? ⟨b, o + k * 4 + 2, none⟩ = some (.int .i64 x.v.s.beat) ∧ w.cell? ⟨b, o + k * 4 + 3, none⟩ = some (.slice x.v.A x.v.n x.v.c) := by
  obtain ⟨b, o, x, e, hb, hx, hc⟩ := h.1.atF (by omega) ncl_len hk
  refine ⟨b, o, x, e, hb, hx, h.2 x (List.mem_of_getElem? hx), hc 0 _ rfl, ?_, ?_, ?_⟩
  · have := hc 1 _ rfl; rwa [← Nat.add_assoc] at this
  · have := hc 2 _ rfl; rwa [← Nat.add_assoc] at this
  · have := hc 3 _ rfl; rwa [← Nat.add_assoc] at this
/-- a view that came in -/
def VIn (W : World) (v : Vw) : Prop := VRd W v ∧ v.n ≤ v.c ∧ v.n * 48 ≤ 140737488351232 ∧ ∀ x ∈ v.l, (x.v.n * 32 ≤ 140737488351232 ∧ ∀ y ∈ x.v.s.apps, y.val.length ≤ 140737488351232) ∧ (Lit.int .i64 x.node).wf = true
end Go.Proofs.YtmbfldcmiabccaaGreatDoor

namespace Go.Proofs.YtmbfldcmiabccaaGreatDoor
set_option linter.unusedVariables false
set_option linter.unusedSimpArgs false
open Go.RowKit

theorem nmT : SlT Tryz.prog 22 53 (.agg #[.int .i64 0, .int .i64 0, .int .i64 0, .slice none 0 0]) 4 48 := ⟨Tryz.underlying22, by kernel_rfl, rfl, by omega⟩
/-- its table lies in a block that was made behind base -/
def Fresh (base : Nat) (v : Sv) : Prop := v.n ≠ 0 → ∃ b o, v.A = some ⟨b, o, none⟩ ∧ base ≤ b
theorem Fresh.mono {base base' : Nat} {v : Sv} (h : Fresh base v) (hb : base' ≤ base) : Fresh base' v := fun hn => by
  obtain ⟨b, o, e, hle⟩ := h hn
  exact ⟨b, o, e, Nat.le_trans hb hle⟩
theorem fresh_own {base base' : Nat} {w : World} {v : Sv} (h : SOwn base w v) (hb : base' ≤ base) : Fresh base' v := fun hn => by
  obtain ⟨b, o, e, _, _⟩ := (Rd.of_own h).2 hn
  exact ⟨b, o, e, Nat.le_trans hb (World.ownsRow.lt h b (by rw [e]; rfl)).1⟩
theorem fresh_zero (base : Nat) (s : St) (A : Option Addr) (c : Nat) : Fresh base ⟨s, A, 0, c⟩ := fun h => absurd rfl h
/-- its row is the call's own, and what its endpoints' tables are lies apart from it -/
def VOwn (base : Nat) (w : World) (V : Vw) : Prop := w.ownsRow base 53 4 (vval V) V.n (FC ncl V.l) ∧ ∀ x ∈ V.l, SRd w x.v ∧ Off (vval V) x.v.A x.v.n ∧ Fresh base x.v
theorem VOwn.vrd {base : Nat} {w : World} {V : Vw} (h : VOwn base w V) : VRd w V := ⟨Rd.of_own h.1, fun x hx => (h.2 x hx).1⟩
theorem VOwn.below {base : Nat} {w w' : World} {V : Vw} (h : VOwn base w V) (hb : Below w.heap.size w w') : VOwn base w' V := ⟨own_below h.1 hb, fun x hx => ⟨(h.2 x hx).1.belowH hb, (h.2 x hx).2⟩⟩
theorem VOwn.mono {base base' : Nat} {w : World} {V : Vw} (h : VOwn base w V) (hb : base' ≤ base) : VOwn base' w V := ⟨own_mono h.1 hb, fun x hx => ⟨(h.2 x hx).1, (h.2 x hx).2.1, (h.2 x hx).2.2.mono hb⟩⟩
/-- its tables are short enough to be reckoned with -/
def VFit (V : Vw) : Prop := ∀ x ∈ V.l, x.v.n ≤ 4000

theorem pushF_step {α : Type} {f : α → List Value} {k : Nat} {P : Program} {t e : TypeId} {z : Value} {bytes : Nat} {w : World} {ops : Array Oper} {o : Oper} {a : Act} {K : Act → World → Prop} {Q : Exit → Act → World → Prop} {E : Prop} (T : SlT P t e z k bytes) (hf : ∀ x, (f x).length = k) (h1 : ∀ x, ∀ u ∈ f x, u.oneCell' = true)
    (hgd : o.guard = none) (s x : Operand) (ho : o.op = .call { callee := .builtin .append, args := #[s, x], argTypes := #[t, t] })
    (base : Nat) {A : Option Addr} {m c : Nat} {O : List α} {y : α} {cs : Array Value} {ty : TypeId} (hcs : cs.toList = f y) (hs : a.eval s = .slice A m c) (hx : a.eval x = .slice (some ⟨w.heap.size, 0, none⟩) 1 1)
    (hown : w.ownsRow base e k (.slice A m c) m (FC f O)) (hb : (m + 1) * bytes ≤ 140737488355328) (hm : m + 1 ≤ 140737488355328) (hbase : base ≤ w.heap.size)
    (h : ∀ A' c' w', w'.ownsRow base e k (.slice A' (m + 1) c') (m + 1) (FC f (O ++ [y])) → Below base w w' → Keeps w w' (.slice A m c) (.slice A' (m + 1) c') → K (a.put o.dst (.slice A' (m + 1) c')) w') :
    if Region.wanted o (yielded ops a.tmps) = true then Oper.wp P o a (w.alloc (.cells cs ty)) K Q else E := by
  have hsz : cs.size = 1 * k := by rw [← Array.length_toList, hcs, hf]; omega
  refine step_app_law T hgd s x ho base hs (hown.alloc _) hx (Rd.lit w cs ty k 1 hsz) (by rw [hcs]; exact h1 y) hb hm (by simp; omega) fun A2 c2 w2 ap => ?_
  have hown2 := ap.own
  rw [hcs, show FC f O ++ f y = FC f (O ++ [y]) by rw [FC_append, FC_one]] at hown2
  refine h A2 c2 w2 hown2 (below_app ((Below.refl _ _).alloc hbase _) (hown.alloc _) ap.grown (Nat.le_refl _) (by simp; omega)) ?_
  intro size n A0 xs hr hoff
  have hr2 : Rd (w.alloc (.cells cs ty)) (w.alloc (.cells cs ty)).heap.size size A0 n xs := (hr.alloc (Nat.le_refl _) _).more (by simp)
  exact ⟨hr2.grownX ap.grown hoff, hoff.app hr2 ap.loc⟩

end Go.Proofs.YtmbfldcmiabccaaGreatDoor

