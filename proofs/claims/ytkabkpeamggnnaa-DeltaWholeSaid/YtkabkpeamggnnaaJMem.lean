/- Mem Words Gen Gen2 EMem TMem RowsOf VMem VOpen LMem DMem (merged). -/
import Derived.WalkKit
import Derived.Lib.Hide
import Derived.WalkSpells
import Derived.Maps.AppendAt
import Derived.Deep.Draws
import Derived.Laws.OwnMore
import Derived.Laws.BytesArg
import Derived.Lib.AppendStr
import Derived.WalkSmall
import Derived.Lib.SmallJoins
import Derived.Laws.Rows
import Derived.Laws.NewBlocks
import Derived.Handy
import Derived.SizedLaws
import Derived.Deep.Slices
import Derived.Deep.Strs
import Derived.Deep.Fields
import Derived.ChangeArms
import Derived.DataReads
import Derived.Test.YtkabkpeamggnnaaJMath
namespace Go.Proofs.Ytkabkpeamggnnaa
open Go.RowKit

theorem sA {α : Type _} (l : List α) (i : Nat) (a : α) : l.toArray.setIfInBounds i a = (l.set i a).toArray := List.setIfInBounds_toArray ..
theorem sB {α : Type _} {x : α} {l : List α} {a : α} : (x :: l).set 0 a = a :: l := List.set_cons_zero ..
theorem sC {α : Type _} {x : α} {l : List α} {n : Nat} {a : α} : (x :: l).set (n + 1) a = x :: l.set n a := List.set_cons_succ ..
/-! ### A slice that reads as a list -/

/-- The slice with head A and n elements of 'size' cells each holds the cells xs, in a block below B. -/
def Rd (w : World) (B size : Nat) (A : Option Addr) (n : Nat) (xs : List Value) : Prop :=
  xs.length = n * size ∧ (n ≠ 0 → ∃ b o, A = some ⟨b, o, none⟩ ∧ b < B ∧ ∀ j, j < xs.length → w.cell? ⟨b, o + j, none⟩ = xs[j]?)

section
variable {w w' : World} {B B' size n : Nat} {A : Option Addr} {xs : List Value}
theorem Rd.zero (w : World) (B size : Nat) (A : Option Addr) : Rd w B size A 0 [] := ⟨by simp, fun h => absurd rfl h⟩
theorem Rd.len1 (h : Rd w B 1 A n xs) : xs.length = n := by have := h.1; omega
theorem Rd.keep (h : Rd w B size A n xs) (hB : B ≤ B') (hk : ∀ b o, b < B → w'.cell? ⟨b, o, none⟩ = w.cell? ⟨b, o, none⟩) : Rd w' B' size A n xs := by
  refine ⟨h.1, fun hn => ?_⟩
  obtain ⟨b, o, e, hb, hc⟩ := h.2 hn
  exact ⟨b, o, e, by omega, fun j hj => (hk _ _ hb).trans (hc j hj)⟩
theorem Rd.more (h : Rd w B size A n xs) (hB : B ≤ B') : Rd w B' size A n xs := h.keep hB fun _ _ _ => rfl
theorem Rd.below (h : Rd w B size A n xs) (hb : Below B w w') : Rd w' B size A n xs := h.keep (Nat.le_refl _) fun b o hlt => hb.cell (p := ⟨b, o, none⟩) hlt
theorem Rd.belowH (h : Rd w w.heap.size size A n xs) (hb : Below w.heap.size w w') : Rd w' w'.heap.size size A n xs := (h.below hb).more hb.size
theorem Rd.drew (h : Rd w B size A n xs) : Rd w.drew B size A n xs := h
theorem Rd.drewN (h : Rd w B size A n xs) (k : Nat) : Rd (w.drewN k) B size A n xs := h
theorem Rd.alloc (h : Rd w B size A n xs) (hB : B ≤ w.heap.size) (o : Obj) : Rd (w.alloc o) B size A n xs :=
  h.keep (Nat.le_refl _) fun b o' hlt => World.cell?_alloc_lt w o ⟨b, o', none⟩ (by show b < _; omega)
theorem Rd.grown (h : Rd w B size A n xs) {row : Option Nat} (hg : w.grownBy w' row) (hB : B ≤ w.heap.size) (hr : ∀ k, row = some k → B ≤ k) : Rd w' B size A n xs :=
  h.keep (Nat.le_refl _) fun b o hlt => World.cell?_of_block (a := ⟨b, o, none⟩) (hg.block b (by omega) (fun e => by have := hr _ e.symm; omega))
theorem Rd.take_ (h : Rd w B size A n xs) {k : Nat} (hk : k ≤ n) : Rd w B size A k (xs.take (k * size)) := by
  refine ⟨by rw [List.length_take, h.1, Nat.min_eq_left (Nat.mul_le_mul_right _ hk)], fun hn => ?_⟩
  obtain ⟨b, o, e, hb, hc⟩ := h.2 (by omega)
  refine ⟨b, o, e, hb, fun j hj => ?_⟩
  have hj' : j < k * size ∧ j < xs.length := by rw [List.length_take] at hj; omega
  rw [List.getElem?_take, if_pos hj'.1]
  exact hc j hj'.2
theorem Rd.at1 (h : Rd w B 1 A n xs) {k : Nat} (hk : k < n) : ∃ b o, A = some ⟨b, o, none⟩ ∧ b < B ∧ ∀ j, j < n → w.cell? ⟨b, o + j, none⟩ = xs[j]? := by
  obtain ⟨b, o, e, hb, hc⟩ := h.2 (by omega)
  exact ⟨b, o, e, hb, fun j hj => hc j (by rw [h.len1]; exact hj)⟩
theorem Rd.shape (h : Rd w B size A n xs) : n = 0 ∧ xs = [] ∨ n ≠ 0 ∧ ∃ b o, A = some ⟨b, o, none⟩ := by
  rcases Nat.eq_zero_or_pos n with h0 | h0
  · left; subst h0; exact ⟨rfl, List.eq_nil_of_length_eq_zero (by simpa using h.1)⟩
  · right; obtain ⟨b, o, e, _⟩ := h.2 (by omega); exact ⟨by omega, b, o, e⟩
/-- what is owned reads -/
theorem Rd.of_own {base : Nat} {e : TypeId} {c : Nat} (h : w.ownsRow base e size (.slice A n c) n xs) : Rd w w.heap.size size A n xs := by
  refine ⟨h.1, fun hn => ?_⟩
  rcases h.2 with ⟨_, h0⟩ | ⟨g, cap, cur, hv, _, hg, _⟩
  · exact absurd h0 hn
  · obtain ⟨rfl, rfl⟩ : A = some ⟨g, 0, none⟩ ∧ c = cap := by simpa using hv
    refine ⟨g, 0, rfl, lt_of_block hg, fun j hj => ?_⟩
    rw [Nat.zero_add]
    exact h.cellAt j (by rw [← h.1]; exact hj)
end

/-- what was just laid reads: a literal's cells -/
theorem Rd.lit (w : World) (cs : Array Value) (T size n : Nat) (h : cs.size = n * size) : Rd (w.alloc (.cells cs T)) (w.heap.size + 1) size (some ⟨w.heap.size, 0, none⟩) n cs.toList := by
  refine ⟨by simpa using h, fun _ => ⟨_, _, rfl, by omega, fun j _ => ?_⟩⟩
  rw [Nat.zero_add, cell_of_row (w.alloc (.cells cs T)) w.heap.size j cs T (0, 0) (heap_alloc_new w _)]
  simp
theorem Rd.one (w : World) (v : Value) (T : Nat) : Rd (w.alloc (.cells #[v] T)) (w.heap.size + 1) 1 (some ⟨w.heap.size, 0, none⟩) 1 [v] := Rd.lit w #[v] T 1 1 rfl

/-! ### Rows of the call's own -/

theorem own_slice {w : World} {base e size n : Nat} {v : Value} {xs : List Value} (h : w.ownsRow base e size v n xs) : ∃ A c, v = .slice A n c := by
  rcases h.2 with ⟨rfl, rfl⟩ | ⟨g, cap, cur, rfl, _⟩
  · exact ⟨_, _, rfl⟩
  · exact ⟨_, _, rfl⟩

theorem own_mono {w : World} {base base' e size n : Nat} {v : Value} {xs : List Value} (h : w.ownsRow base e size v n xs) (hb : base' ≤ base) : w.ownsRow base' e size v n xs := by
  refine ⟨h.1, ?_⟩
  rcases h.2 with h0 | ⟨g, cap, cur, hv, hbg, rest⟩
  · exact .inl h0
  · exact .inr ⟨g, cap, cur, hv, by omega, rest⟩
/-- An element type, and the slices of it. -/
structure SlT (P : Program) (t e : TypeId) (z : Value) (size bytes : Nat) : Prop where
  ht : P.underlying t = some (.slice e)
  hi : (P.info? e).map (fun i => (i.zero, i.size, i.bytes)) = some (some z, size, bytes)
  hz : z.cells.size = size
  hs : 0 < size

section
variable {P : Program} {t e : TypeId} {z : Value} {size bytes : Nat}
theorem SlT.parts (T : SlT P t e z size bytes) : ∃ i, P.info? e = some i ∧ i.zero = some z ∧ i.size = size ∧ i.bytes = bytes := info_parts T.hi

theorem run_app_nil (w : World) (T : SlT P t e z size bytes) (ty : TypeId) {base : Nat} {v : Value} {n : Nat} {xs : List Value} (hown : w.ownsRow base e size v n xs) (c : Nat) :
    (Builtin.append_ #[t, t] ty #[v, .slice none 0 c]).run P w = .ok v w := by
  obtain ⟨i, hi, _, hsz, _⟩ := T.parts
  rcases hown.2 with ⟨rfl, rfl⟩ | ⟨g, cap, cur, rfl, _, _, hnc, _⟩
  · simp [Builtin.append_, run_underlying T.ht, sizeOf, typeInfo, hi, Builtin.lenOf, Builtin.firstCells]
  · simp [Builtin.append_, run_underlying T.ht, sizeOf, typeInfo, hi, Builtin.lenOf, Builtin.firstCells, hnc, storeCells]

/-- append onto a row of one's own: it lies where it lay, or nothing that was there has changed. -/
theorem run_app_ad (w : World) (T : SlT P t e z size bytes) (ty : TypeId) {base : Nat} {v : Value} {n : Nat} {xs : List Value} (hown : w.ownsRow base e size v n xs)
    {ad : Addr} {m c : Nat} {news : List Value} (hl : news.length = m * size) (hnews : ∀ j u, news[j]? = some u → w.cell? (ad.add j) = some u) (h1 : ∀ u ∈ news, u.oneCell' = true)
    (hb : (n + m) * bytes ≤ 140737488355328) (hlen : n + m ≤ 140737488355328) (hbase : base ≤ w.heap.size) :
    ∃ v' w', (Builtin.append_ #[t, t] ty #[v, .slice (some ad) m c]).run P w = .ok v' w' ∧ w'.ownsRow base e size v' (n + m) (xs ++ news) ∧ w.grownBy w' v.ownBlock ∧
      (v'.ownBlock = v.ownBlock ∨ v'.ownBlock = some w.heap.size) ∧ (v'.ownBlock = v.ownBlock ∨ w.grownBy w' none) := by
  obtain ⟨i, hi, hz, hsz, hby⟩ := T.parts
  have h63 : n + m ≤ maxLen := by unfold maxLen; omega
  obtain ⟨v', w', hrun, h2, h3, _, h5⟩ := run_append_own_at (P := P) w base t ty e i z size bytes T.ht hi hz hsz hby T.hz T.hs v n xs hown ad m c news hl hnews h1 h63 hb hbase
  refine ⟨v', w', hrun, h2, h3, h5, ?_⟩
  rcases h5 with h5 | h5
  · exact .inl h5
  · right
    rcases hown.2 with ⟨rfl, rfl⟩ | ⟨g, cap, cur, rfl, hbg, hg, hnc, hcm, hcs, htake⟩
    · exact h3
    · by_cases hroom : n + m ≤ cap
      · have hfit : n * i.size + news.length ≤ cur.size := by rw [hl, hcs, hsz, ← Nat.add_mul]; exact Nat.mul_le_mul_right _ hroom
        have hr := run_append_room (P := P) w t ty e i T.ht hi g n cap cur hg ad m c news (by rw [hl, hsz]) hnews h1 hroom hfit
        rw [hrun] at hr
        injection hr with hr1 hr2
        subst hr1
        have := lt_of_block hg
        simp [Value.ownBlock] at h5
        omega
      · have holds : ∀ j u, xs[j]? = some u → w.cell? ((⟨g, 0, none⟩ : Addr).add j) = some u := hown.cells (g := g) rfl
        have hr := run_append_grow (P := P) w t ty e i z T.ht hi hz ⟨g, 0, none⟩ n cap xs (by rw [hsz]; exact hown.1) holds ad m c news (by rw [hl, hsz]) hnews (by omega) (by omega) (growslice_fits (by omega) (by rw [hby]; exact hb))
        rw [hrun] at hr
        injection hr with hr1 hr2
        subst hr2
        exact ⟨rfl, rfl, rfl, by simp, fun k hk _ => Go.heap_alloc_old w.drew _ hk⟩

/-- What append leaves: the new row, and all else as it was, the old slice too. -/
structure Appd (w w' : World) (base e size : Nat) (v v' : Value) (n k : Nat) (xs news : List Value) : Prop where
  own : w'.ownsRow base e size v' k (xs ++ news)
  grown : w.grownBy w' v.ownBlock
  loc : v'.ownBlock = v.ownBlock ∨ v'.ownBlock = some w.heap.size
  old : ∀ A c, v = .slice A n c → Rd w' w'.heap.size size A n xs

/-- append onto a row of one's own, of whatever reads. -/
theorem run_app (w : World) (T : SlT P t e z size bytes) (ty : TypeId) {base : Nat} {v : Value} {n : Nat} {xs : List Value} (hown : w.ownsRow base e size v n xs)
    {B : Nat} {A : Option Addr} {m c : Nat} {news : List Value} (hr : Rd w B size A m news) (h1 : ∀ u ∈ news, u.oneCell' = true)
    (hb : (n + m) * bytes ≤ 140737488355328) (hl : n + m ≤ 140737488355328) (hbase : base ≤ w.heap.size) :
    ∃ A' c' w', (Builtin.append_ #[t, t] ty #[v, .slice A m c]).run P w = .ok (.slice A' (n + m) c') w' ∧ Appd w w' base e size v (.slice A' (n + m) c') n (n + m) xs news := by
  have key : ∀ (ad : Addr), A = some ad → (∀ j u, news[j]? = some u → w.cell? (ad.add j) = some u) →
      ∃ v' w', (Builtin.append_ #[t, t] ty #[v, .slice A m c]).run P w = .ok v' w' ∧ w'.ownsRow base e size v' (n + m) (xs ++ news) ∧ w.grownBy w' v.ownBlock ∧ (v'.ownBlock = v.ownBlock ∨ v'.ownBlock = some w.heap.size) ∧ (v'.ownBlock = v.ownBlock ∨ w.grownBy w' none) := by
    rintro ad rfl hc
    exact run_app_ad w T ty hown hr.1 hc h1 hb hl hbase
  have all : ∃ v' w', (Builtin.append_ #[t, t] ty #[v, .slice A m c]).run P w = .ok v' w' ∧ w'.ownsRow base e size v' (n + m) (xs ++ news) ∧ w.grownBy w' v.ownBlock ∧ (v'.ownBlock = v.ownBlock ∨ v'.ownBlock = some w.heap.size) ∧ (v'.ownBlock = v.ownBlock ∨ w.grownBy w' none) := by
    rcases hr.shape with ⟨rfl, rfl⟩ | ⟨hm, b, o, rfl⟩
    · rcases A with _ | ad
      · exact ⟨v, w, run_app_nil w T ty hown c, by simpa using hown, World.grownBy.refl w _, .inl rfl, .inl rfl⟩
      · exact key ad rfl (by simp)
    · obtain ⟨b', o', e', _, hc⟩ := hr.2 hm
      obtain ⟨rfl, rfl⟩ : b = b' ∧ o = o' := by simpa using e'
      refine key _ rfl fun j u hu => ?_
      have hj : j < news.length := by
        rcases Nat.lt_or_ge j news.length with h | h
        · exact h
        · rw [List.getElem?_eq_none h] at hu; cases hu
      have hadd : (⟨b, o, none⟩ : Addr).add j = ⟨b, o + j, none⟩ := by unfold Addr.add; split <;> simp_all
      rw [hadd, hc j hj, hu]
  obtain ⟨v', w', hrun, h2, h3, h4, h5⟩ := all
  obtain ⟨A', c', rfl⟩ := own_slice h2
  refine ⟨A', c', w', hrun, h2, h3, h4, ?_⟩
  rintro A0 c0 rfl
  have hold : Rd w w.heap.size size A0 n xs := Rd.of_own hown
  rcases h5 with h5 | h5
  · rcases hold.shape with ⟨rfl, rfl⟩ | ⟨hn, b, o, rfl⟩
    · exact Rd.zero _ _ _ _
    · rcases hown.2 with ⟨_, h0⟩ | ⟨g, cap, cur, hv, _, hg, _⟩
      · exact absurd h0 hn
      · obtain ⟨⟨rfl, rfl⟩, rfl⟩ : (b = g ∧ o = 0) ∧ c0 = cap := by simpa using hv
        have hnew := Rd.of_own h2
        have hA : A' = some ⟨b, 0, none⟩ := by
          rcases h2.2 with ⟨_, h0⟩ | ⟨g', cap', cur', hv', _⟩
          · omega
          · obtain ⟨rfl, rfl⟩ : A' = some ⟨g', 0, none⟩ ∧ c' = cap' := by simpa using hv'
            simp [Value.ownBlock] at h5
            rw [h5]
        subst hA
        have := hnew.take_ (k := n) (by omega)
        rwa [List.take_left' hown.1] at this
  · exact (hold.grown h5 (Nat.le_refl _) (by simp)).more h5.size

theorem wp_app {o : Oper} {a : Act} {w : World} {K : Act → World → Prop} {Q : Exit → Act → World → Prop} (T : SlT P t e z size bytes) (s x : Operand)
    (ho : o.op = .call { callee := .builtin .append, args := #[s, x], argTypes := #[t, t] })
    (base : Nat) {v : Value} {n : Nat} {xs : List Value} (hs : a.eval s = v) (hown : w.ownsRow base e size v n xs)
    {B : Nat} {A : Option Addr} {m c : Nat} {news : List Value} (hx : a.eval x = .slice A m c) (hr : Rd w B size A m news) (h1 : ∀ u ∈ news, u.oneCell' = true)
    (hb : (n + m) * bytes ≤ 140737488355328) (hl : n + m ≤ 140737488355328) (hbase : base ≤ w.heap.size)
    (h : ∀ A' c' w', Appd w w' base e size v (.slice A' (n + m) c') n (n + m) xs news → K (a.put o.dst (.slice A' (n + m) c')) w') : o.wp P a w K Q := by
  obtain ⟨A', c', w', hrun, h2⟩ := run_app w T o.type hown hr h1 hb hl hbase
  unfold Oper.wp execOp
  simp only [ho, resolve, invoke, builtin, Sem.run_bind, Sem.run_pure, Result.andThen_ok, List.map_toArray, List.map_cons, List.map_nil, hs, hx]
  rw [show (Builtin.append_ #[t, t] o.type #[v, Value.slice A m c]).run P w = _ from hrun]
  exact h A' c' w' h2

/-- At a step of a region that draws its order. -/
theorem step_app_law {ops : Array Oper} {o : Oper} {a : Act} {w : World} {K : Act → World → Prop} {Q : Exit → Act → World → Prop} {E : Prop} (T : SlT P t e z size bytes) (hgd : o.guard = none) (s x : Operand)
    (ho : o.op = .call { callee := .builtin .append, args := #[s, x], argTypes := #[t, t] })
    (base : Nat) {v : Value} {n : Nat} {xs : List Value} (hs : a.eval s = v) (hown : w.ownsRow base e size v n xs)
    {B : Nat} {A : Option Addr} {m c : Nat} {news : List Value} (hx : a.eval x = .slice A m c) (hr : Rd w B size A m news) (h1 : ∀ u ∈ news, u.oneCell' = true)
    (hb : (n + m) * bytes ≤ 140737488355328) (hl : n + m ≤ 140737488355328) (hbase : base ≤ w.heap.size)
    (h : ∀ A' c' w', Appd w w' base e size v (.slice A' (n + m) c') n (n + m) xs news → K (a.put o.dst (.slice A' (n + m) c')) w') :
    if Region.wanted o (yielded ops a.tmps) = true then Oper.wp P o a w K Q else E := by
  have hw : Region.wanted o (yielded ops a.tmps) = true := by simp [Region.wanted, hgd]
  rw [if_pos hw]
  exact wp_app T s x ho base hs hown hx hr h1 hb hl hbase h

/-- At the list of a plain region's operations. -/
theorem app_law {w : World} {ops : Array Oper} {rest : List Oper} {o : Oper} {a : Act} {Q : Exit → Act → World → Prop} (T : SlT P t e z size bytes) (hgd : o.guard = none) (s x : Operand)
    (ho : o.op = .call { callee := .builtin .append, args := #[s, x], argTypes := #[t, t] })
    (base : Nat) {v : Value} {n : Nat} {xs : List Value} (hs : a.eval s = v) (hown : w.ownsRow base e size v n xs)
    {B : Nat} {A : Option Addr} {m c : Nat} {news : List Value} (hx : a.eval x = .slice A m c) (hr : Rd w B size A m news) (h1 : ∀ u ∈ news, u.oneCell' = true)
    (hb : (n + m) * bytes ≤ 140737488355328) (hl : n + m ≤ 140737488355328) (hbase : base ≤ w.heap.size)
    (h : ∀ A' c' w', Appd w w' base e size v (.slice A' (n + m) c') n (n + m) xs news → wpList P ops Q rest (a.put o.dst (.slice A' (n + m) c')) w') : wpList P ops Q (o :: rest) a w :=
  wpList_plain hgd fun _ hK => wp_app T s x ho base hs hown hx hr h1 hb hl hbase fun A' c' w' h2 => hK _ _ (h A' c' w' h2)
end

/-- append onto what is empty -/
theorem app_law0 {P : Program} {t e : TypeId} {z : Value} {size bytes : Nat} {w : World} {ops : Array Oper} {rest : List Oper} {o : Oper} {a : Act} {Q : Exit → Act → World → Prop} (T : SlT P t e z size bytes) (hgd : o.guard = none) (s x : Operand)
    (ho : o.op = .call { callee := .builtin .append, args := #[s, x], argTypes := #[t, t] })
    (base : Nat) {v : Value} (hs : a.eval s = v) (hown : w.ownsRow base e size v 0 [])
    {B : Nat} {A : Option Addr} {m c : Nat} {news : List Value} (hx : a.eval x = .slice A m c) (hr : Rd w B size A m news) (h1 : ∀ u ∈ news, u.oneCell' = true)
    (hb : m * bytes ≤ 140737488355328) (hl : m ≤ 140737488355328) (hbase : base ≤ w.heap.size)
    (h : ∀ A' c' w', Appd w w' base e size v (.slice A' m c') 0 m [] news → wpList P ops Q rest (a.put o.dst (.slice A' m c')) w') : wpList P ops Q (o :: rest) a w :=
  app_law T hgd s x ho base hs hown hx hr h1 (by rw [Nat.zero_add]; exact hb) (by rw [Nat.zero_add]; exact hl) hbase (by rw [Nat.zero_add]; exact h)
/-- What append leaves, below a bound that the row lies above. -/
theorem below_app {B : Nat} {w0 w w' : World} {base e size n : Nat} {v : Value} {xs : List Value} (h : Below B w0 w) (hown : w.ownsRow base e size v n xs) (hg : w.grownBy w' v.ownBlock) (hB : B ≤ base) (hs : base ≤ w.heap.size) :
    Below B w0 w' := h.grown hg (by omega) fun k hk => by have := (hown.lt k hk).1; omega

/-! ### Bytes -/
def U (l : List UInt8) : List Value := l.map fun x => Value.int .u8 (x.toNat : Int)
/-- a string of bytes -/
def strB (l : List UInt8) : ByteArray := ⟨l.toArray⟩
@[simp] theorem strB_toList (l : List UInt8) : (strB l).toList = l := ByteArray.toList_mk l
@[simp] theorem strB_data (l : List UInt8) : (strB l).data.toList = l := rfl
theorem strB_size (l : List UInt8) : (strB l).size = l.length := by simp [strB, ByteArray.size]
/-- 'make([]T, 0, n)' -/
theorem make0_law {P : Program} {t e : TypeId} {z : Value} {size bytes : Nat} {w : World} {ops : Array Oper} {rest : List Oper} {o : Oper} {a : Act} {Q : Exit → Act → World → Prop} (T : SlT P t e z size bytes)
    (hg : o.guard = none) (l c : Operand) (hop : o.op = Op.makeSlice t l c) (base : Nat) {kl kc : IntKind} {C : Int} (hl : a.eval l = .int kl 0) (hc : a.eval c = .int kc C)
    (h0 : 0 ≤ C) (hb : bytes * C.toNat ≤ 281474976710656) (hm : C ≤ 281474976710656) (hbase : base ≤ w.heap.size)
    (h : ∀ A' c' w', w'.ownsRow base e size (.slice A' 0 c') 0 [] → w.grownBy w' none → wpList P ops Q rest (a.put o.dst (.slice A' 0 c')) w') : wpList P ops Q (o :: rest) a w := by
  obtain ⟨i, hi, hz, hsz, hby⟩ := T.parts
  exact wpList_make_own w hg l c t hop base e i z size T.ht hi hz hsz kl kc C C.toNat hl hc (by omega) (by rw [hby]; exact hb) (by unfold maxLen; omega) hbase fun w' h2 h3 => h _ _ w' h2 h3

/-! ### Ints -/
def I (l : List Int) : List Value := l.map fun x => Value.int .i64 x
theorem I_length (l : List Int) : (I l).length = l.length := by simp [I]
theorem Rd.atI {w : World} {B n : Nat} {A : Option Addr} {l : List Int} (h : Rd w B 1 A n (I l)) {k : Nat} (hk : k < n) :
    ∃ b o x, A = some ⟨b, o, none⟩ ∧ b < B ∧ l[k]? = some x ∧ w.cell? ⟨b, o + k, none⟩ = some (.int .i64 x) := by
  obtain ⟨b, o, e, hb, hc⟩ := h.at1 hk
  have hl : k < l.length := by have := h.len1; rw [I_length] at this; omega
  refine ⟨b, o, l[k], e, hb, List.getElem?_eq_getElem hl, ?_⟩
  rw [hc k hk]; simp [I, List.getElem?_eq_getElem hl]
theorem take_more {α : Type} {l : List α} {k : Nat} {x : α} (h : l[k]? = some x) : l.take (k + 1) = l.take k ++ [x] := by
  rw [List.take_add_one, h]; rfl
theorem drop_more {α : Type} {l : List α} {k : Nat} {x : α} (h : l[k]? = some x) : l.drop k = x :: l.drop (k + 1) := by
  have hk : k < l.length := by
    rcases Nat.lt_or_ge k l.length with h1 | h1
    · exact h1
    · rw [List.getElem?_eq_none h1] at h; cases h
  rw [List.drop_eq_getElem_cons hk]
  rw [List.getElem?_eq_getElem hk] at h
  injection h with h; rw [h]

/-! ### What came in -/
/-- a slice of integers that came in, as the frames of the rows tell it -/
def Row (k : IntKind) (w : World) (a : Option Addr) (len cap : Nat) (zs : List Int) : Prop :=
  (a = none ∧ len = 0 ∧ cap = 0 ∧ zs = []) ∨
  ∃ x, a = some x ∧ len ≤ cap ∧ cap ≤ maxLen ∧ zs.length = cap ∧ (∀ i, i < zs.length → w.cell? (x.add i) = some (.int k (zs.getD i 0))) ∧ ∀ n ∈ zs, (Lit.int k n).wf = true
theorem lt_of_cell {w : World} {b o : Nat} {v : Value} (h : w.cell? ⟨b, o, none⟩ = some v) : b < w.heap.size := by
  rcases Nat.lt_or_ge b w.heap.size with h1 | h1
  · exact h1
  · simp [World.cell?, Array.getElem?_eq_none h1] at h
/-- the elements, as they read -/
theorem Row.rd {k : IntKind} {w : World} {a : Option Addr} {len cap : Nat} {zs : List Int} (h : Row k w a len cap zs) :
    (zs.take len).length = len ∧ Rd w w.heap.size 1 a len ((zs.take len).map (Value.int k)) ∧ ∀ n ∈ zs.take len, (Lit.int k n).wf = true := by
  rcases h with ⟨rfl, rfl, rfl, rfl⟩ | ⟨x, rfl, hl, hm, hz, hc, hw⟩
  · exact ⟨rfl, Rd.zero _ _ _ _, by simp⟩
  · have hlen : (zs.take len).length = len := by rw [List.length_take]; omega
    refine ⟨hlen, ⟨by rw [List.length_map, hlen, Nat.mul_one], fun hn => ?_⟩, fun n hn => hw n (List.mem_of_mem_take hn)⟩
    have h0 := hc 0 (by omega)
    obtain ⟨b, o, spot⟩ := x
    have hs : spot = none := by simpa [Addr.add] using World.cell?_spot h0
    subst hs
    have hadd : ∀ j, (⟨b, o, none⟩ : Addr).add j = ⟨b, o + j, none⟩ := fun j => by unfold Addr.add; split <;> simp_all
    rw [hadd] at h0
    refine ⟨b, o, rfl, lt_of_cell h0, fun j hj => ?_⟩
    have hj' : j < len := by rwa [List.length_map, hlen] at hj
    have := hc j (by omega)
    rw [hadd] at this
    rw [this]
    simp [hj', List.getD, show j < zs.length by omega]
theorem wf_bounds_u8 {n : Int} (h : (Lit.int .u8 n).wf = true) : 0 ≤ n ∧ n ≤ 255 := by
  simpa [Lit.wf, IntKind.min, IntKind.max, IntKind.signed, IntKind.bits] using h
theorem Row.bytes {w : World} {a : Option Addr} {len cap : Nat} {zs : List Int} (h : Row .u8 w a len cap zs) : ∃ l : List UInt8, l.length = len ∧ Rd w w.heap.size 1 a len (U l) := by
  obtain ⟨h1, h2, h3⟩ := h.rd
  refine ⟨(zs.take len).map fun n => UInt8.ofNat n.toNat, by simpa using h1, ?_⟩
  have : U ((zs.take len).map fun n => UInt8.ofNat n.toNat) = (zs.take len).map (Value.int .u8) := by
    simp only [U, List.map_map]
    refine List.map_congr_left fun n hn => ?_
    have := h3 n hn
    have hb := wf_bounds_u8 this
    show Value.int .u8 (((UInt8.ofNat n.toNat).toNat : Nat) : Int) = Value.int .u8 n
    rw [UInt8.toNat_ofNat', Nat.mod_eq_of_lt (by omega), Int.toNat_of_nonneg hb.1]
  rw [this]; exact h2
/-! ### Bits -/
end Go.Proofs.Ytkabkpeamggnnaa

namespace Go.Proofs.Ytkabkpeamggnnaa
open Go.RowKit
theorem ret_int {k : IntKind} {a b : Int} (h : a = b) : Ending.returned (.int k a) = .returned (.int k b) := by rw [h]
theorem ret_bool {a b : Bool} (h : a = b) : Ending.returned (.bool a) = .returned (.bool b) := by rw [h]

/-- a block's cells -/
def Cells (w : World) (b : Nat) (xs : List Value) : Prop := b < w.heap.size ∧ ∀ j, j < xs.length → w.cell? ⟨b, j, none⟩ = xs[j]?
theorem Cells.new (w : World) (cs : Array Value) (T : TypeId) : Cells (w.alloc (.cells cs T)) w.heap.size cs.toList :=
  ⟨by simp, fun j _ => by rw [cell_of_row (w.alloc (.cells cs T)) w.heap.size j cs T (0, 0) (heap_alloc_new w _)]; simp⟩
theorem Cells.below {w w' : World} {b B : Nat} {xs : List Value} (h : Cells w b xs) (hb : Below B w w') (hB : b < B) : Cells w' b xs :=
  ⟨Nat.lt_of_lt_of_le h.1 hb.size, fun j hj => (hb.cell (p := ⟨b, j, none⟩) hB).trans (h.2 j hj)⟩
theorem Cells.belowH {w w' : World} {b : Nat} {xs : List Value} (h : Cells w b xs) (hb : Below w.heap.size w w') : Cells w' b xs := h.below hb h.1
theorem Cells.alloc {w : World} {b : Nat} {xs : List Value} (h : Cells w b xs) (o : Obj) : Cells (w.alloc o) b xs :=
  h.belowH ((Below.refl _ _).alloc (Nat.le_refl _) _)
theorem Cells.drew {w : World} {b : Nat} {xs : List Value} (h : Cells w b xs) : Cells w.drew b xs := h
theorem Cells.drewN {w : World} {b : Nat} {xs : List Value} (h : Cells w b xs) (q : Nat) : Cells (w.drewN q) b xs := h
theorem Cells.at {w : World} {b : Nat} {xs : List Value} (h : Cells w b xs) (j : Nat) {v : Value} (hv : xs[j]? = some v) : w.cell? ⟨b, j, none⟩ = some v := by
  rw [h.2 j (List.getElem?_eq_some_iff.1 hv).1, hv]
theorem below_set {B : Nat} {a w : World} {b o : Nat} (h : Below B a w) (hb : B ≤ b) (u : Value) : Below B a (w.setCell ⟨b, o, none⟩ u) := h.setCell (p := ⟨b, o, none⟩) hb u

/-! ### A block known whole -/
def Box (w : World) (b : Nat) (T : TypeId) (cs : Array Value) : Prop := w.heap[b]? = some (.cells cs T)
section
variable {w w' : World} {b B : Nat} {T : TypeId} {cs : Array Value}
theorem Box.new (w : World) (cs : Array Value) (T : TypeId) : Box (w.alloc (.cells cs T)) w.heap.size T cs := heap_alloc_new w _
theorem Box.lt (h : Box w b T cs) : b < w.heap.size := lt_of_block h
theorem Box.at (h : Box w b T cs) (j : Nat) {v : Value} (hv : cs[j]? = some v) : w.cell? ⟨b, j, none⟩ = some v := by
  rw [cell_of_row w b j cs T (0, 0) h, hv]
theorem Box.cold (h : Box w b T cs) (o : Nat) : w.frozen? ⟨b, o, none⟩ = false := by
  unfold World.frozen?; unfold Box at h; simp [h]
theorem Box.set (h : Box w b T cs) (j : Nat) (v : Value) : Box (w.setCell ⟨b, j, none⟩ v) b T (cs.setIfInBounds j v) := Joins.block_setCell h v
theorem Box.below (h : Box w b T cs) (hb : Below B w w') (hB : b < B) : Box w' b T cs := (hb.block b hB).trans h
theorem Box.belowH (h : Box w b T cs) (hb : Below w.heap.size w w') : Box w' b T cs := h.below hb h.lt
theorem Box.alloc (h : Box w b T cs) (o : Obj) : Box (w.alloc o) b T cs := h.belowH ((Below.refl _ _).alloc (Nat.le_refl _) _)
theorem Box.drew (h : Box w b T cs) : Box w.drew b T cs := h
theorem Box.drewN (h : Box w b T cs) (q : Nat) : Box (w.drewN q) b T cs := h
theorem Box.other (h : Box w b T cs) {b' o : Nat} (hne : b ≠ b') (v : Value) : Box (w.setCell ⟨b', o, none⟩ v) b T cs := (heap_setCell_other w ⟨b', o, none⟩ b v hne).trans h
theorem Rd.other {size n : Nat} {A : Option Addr} {xs : List Value} (h : Rd w B size A n xs) {b' o : Nat} (hne : ∀ b o, A = some ⟨b, o, none⟩ → b ≠ b') (v : Value) : Rd (w.setCell ⟨b', o, none⟩ v) B size A n xs := by
  refine ⟨h.1, fun hn => ?_⟩
  obtain ⟨b, o', e, hb, hc⟩ := h.2 hn
  refine ⟨b, o', e, hb, fun j hj => ?_⟩
  rw [World.cell?_of_block (a := ⟨b, o' + j, none⟩) (heap_setCell_other w ⟨b', o, none⟩ b v (hne _ _ e))]
  exact hc j hj
end

/-! ### What an argument weighs -/
theorem weights_all {H : Type} {P : Program} {e : TypeId} {l : List (DataW H)} {d : DataW H} (hd : d ∈ l) : ∀ n ∈ d.weights P e, n ∈ DataW.weightsAll P e l := by
  induction l with
  | nil => cases hd
  | cons x r ih =>
    intro n hn
    rw [DataW.weightsAll, List.mem_append]
    rcases List.mem_cons.1 hd with rfl | hd
    · exact Or.inl hn
    · exact Or.inr (ih hd n hn)
theorem weights_slice {H : Type} {P : Program} {t e : TypeId} {l s : List (DataW H)} (ht : P.underlying t = some (.slice e)) :
    (DataW.slice l s).weights P t = (l.length + s.length) * P.bytesOf e :: (DataW.weightsAll P e l ++ DataW.weightsAll P e s) := by
  simp [DataW.weights, ht]
theorem weights_struct {H : Type} {P : Program} {t : TypeId} {fs : Array Field} {l : List (DataW H)} (ht : P.underlying t = some (.struct fs)) :
    (DataW.agg l).weights P t = DataW.weightsEach P (fs.toList.map (·.type)) l := by
  simp [DataW.weights, ht]
end Go.Proofs.Ytkabkpeamggnnaa

namespace Go.Proofs.Ytkabkpeamggnnaa
set_option linter.unusedVariables false
open Go.RowKit

section
variable {α : Type} {f : α → List Value} {k : Nat}
/-- a row's cells -/
def FC (f : α → List Value) (l : List α) : List Value := l.flatMap f
theorem FC_cons (x : α) (l : List α) : FC f (x :: l) = f x ++ FC f l := rfl
theorem FC_append (l m : List α) : FC f (l ++ m) = FC f l ++ FC f m := List.flatMap_append
theorem FC_one (x : α) : FC f [x] = f x := by simp [FC]
theorem FC_length (hf : ∀ x, (f x).length = k) (l : List α) : (FC f l).length = l.length * k := by
  induction l with
  | nil => simp [FC]
  | cons x r ih => rw [FC_cons, List.length_append, ih, hf, List.length_cons, Nat.add_mul]; omega
theorem FC_drop (hf : ∀ x, (f x).length = k) (l : List α) (i : Nat) : (FC f l).drop (i * k) = FC f (l.drop i) := by
  induction i generalizing l with
  | zero => simp
  | succ i ih =>
    cases l with
    | nil => simp [FC]
    | cons x r =>
      rw [FC_cons, List.drop_succ_cons, ← ih, Nat.add_mul, Nat.one_mul, Nat.add_comm (i * k) k, ← List.drop_drop, ← hf x, List.drop_left]
theorem FC_at (hf : ∀ x, (f x).length = k) {l : List α} {i : Nat} {x : α} (h : l[i]? = some x) (j : Nat) (hj : j < k) : (FC f l)[i * k + j]? = (f x)[j]? := by
  have h1 : (FC f l)[i * k + j]? = ((FC f l).drop (i * k))[j]? := by rw [List.getElem?_drop]
  rw [h1, FC_drop hf, drop_more h, FC_cons, List.getElem?_append_left (by rw [hf]; exact hj)]
theorem Rd.lenF (hk : 0 < k) (hf : ∀ x, (f x).length = k) {w : World} {B n : Nat} {A : Option Addr} {l : List α} (h : Rd w B k A n (FC f l)) : l.length = n := by
  have h1 := h.1
  rw [FC_length hf] at h1
  exact Nat.eq_of_mul_eq_mul_right hk h1
/-- an element that is read -/
theorem Rd.atF (hk : 0 < k) (hf : ∀ x, (f x).length = k) {w : World} {B n : Nat} {A : Option Addr} {l : List α} (h : Rd w B k A n (FC f l)) {i : Nat} (hi : i < n) :
    ∃ b o x, A = some ⟨b, o, none⟩ ∧ b < B ∧ l[i]? = some x ∧ ∀ j v, (f x)[j]? = some v → w.cell? ⟨b, o + (i * k + j), none⟩ = some v := by
  obtain ⟨b, o, e, hb, hc⟩ := h.2 (by omega)
  have hn := h.lenF hk hf
  have hx : l[i]? = some (l[i]'(by omega)) := List.getElem?_eq_getElem _
  refine ⟨b, o, _, e, hb, hx, fun j v hv => ?_⟩
  have hj : j < k := by have := (List.getElem?_eq_some_iff.1 hv).1; rwa [hf] at this
  have hlt : i * k + j < (FC f l).length := by
    rw [FC_length hf, hn]
    have : (i + 1) * k ≤ n * k := Nat.mul_le_mul_right k hi
    rw [Nat.add_mul] at this
    omega
  rw [hc _ hlt, FC_at hf hx j hj, hv]
end
end Go.Proofs.Ytkabkpeamggnnaa

namespace Go.Proofs.Ytkabkpeamggnnaa
set_option linter.unusedVariables false
open Go.RowKit

/-- a slice's cells don't lie in the row of one's own -/
def Off (v : Value) (A : Option Addr) (n : Nat) : Prop := n ≠ 0 → ∀ b o, A = some ⟨b, o, none⟩ → v.ownBlock ≠ some b
theorem off_nil (A : Option Addr) (n : Nat) : Off (.slice none 0 0) A n := fun _ _ _ _ h => by cases h
/-- what reads below the row's base -/
theorem off_below {w w' : World} {B base e size size' m n : Nat} {v : Value} {xs ys : List Value} {A : Option Addr} (h : Rd w B size A n xs) (ho : w'.ownsRow base e size' v m ys) (hB : B ≤ base) : Off v A n := fun hn b o e hb => by
  obtain ⟨b', o', e', hlt, _⟩ := h.2 hn
  rw [e] at e'
  injection e' with e'
  injection e' with e' _
  have := (ho.lt b hb).1
  omega
/-- a row of one's own that is made behind it -/
theorem off_made {w w' : World} {base base' e e' size size' m n c : Nat} {v : Value} {xs ys : List Value} {A : Option Addr} (ho : w.ownsRow base e size v m ys) (h : w'.ownsRow base' e' size' (.slice A n c) n xs) (hb : w.heap.size ≤ base') : Off v A n := fun hn b o ea hv => by
  have h1 := (ho.lt b hv).2
  have h2 := (h.lt b (by rw [ea]; rfl)).1
  omega
theorem Rd.grownX {w w' : World} {size n : Nat} {A : Option Addr} {xs : List Value} {v : Value} (h : Rd w w.heap.size size A n xs) (hg : w.grownBy w' v.ownBlock) (ho : Off v A n) : Rd w' w'.heap.size size A n xs := by
  refine ⟨h.1, fun hn => ?_⟩
  obtain ⟨b, o, e, hb, hc⟩ := h.2 hn
  refine ⟨b, o, e, Nat.lt_of_lt_of_le hb hg.size, fun j hj => (World.cell?_of_block (a := ⟨b, o + j, none⟩) (hg.block b hb fun hne => ho hn b o e hne.symm)).trans (hc j hj)⟩
/-- behind an append it is apart from the new row, too -/
theorem Off.app {w : World} {size n : Nat} {A : Option Addr} {xs : List Value} {v v' : Value} (ho : Off v A n) (h : Rd w w.heap.size size A n xs) (hl : v'.ownBlock = v.ownBlock ∨ v'.ownBlock = some w.heap.size) : Off v' A n := fun hn b o e hb => by
  rcases hl with hl | hl
  · exact ho hn b o e (hl ▸ hb)
  · obtain ⟨b', o', e', hlt, _⟩ := h.2 hn
    rw [e] at e'
    injection e' with e'
    injection e' with e' _
    rw [hl] at hb
    injection hb with hb
    omega

section
variable {α : Type} {f : α → List Value} {k : Nat}
/-- what a push keeps: each slice that reads, and lies apart from the row -/
def Keeps (w w' : World) (v v' : Value) : Prop := ∀ {size n : Nat} {A : Option Addr} {xs : List Value}, Rd w w.heap.size size A n xs → Off v A n → Rd w' w'.heap.size size A n xs ∧ Off v' A n
/-- an element behind a row of the call's own: its cells were laid in a block ahead -/
theorem pushF_law {P : Program} {t e : TypeId} {z : Value} {bytes : Nat} {w : World} {ops : Array Oper} {rest : List Oper} {o : Oper} {a : Act} {Q : Exit → Act → World → Prop} (T : SlT P t e z k bytes) (hf : ∀ x, (f x).length = k) (h1 : ∀ x, ∀ u ∈ f x, u.oneCell' = true)
    (hgd : o.guard = none) (s x : Operand) (ho : o.op = .call { callee := .builtin .append, args := #[s, x], argTypes := #[t, t] })
    (base : Nat) {A : Option Addr} {m c : Nat} {O : List α} {y : α} {cs : Array Value} {ty : TypeId} (hcs : cs.toList = f y) (hs : a.eval s = .slice A m c) (hx : a.eval x = .slice (some ⟨w.heap.size, 0, none⟩) 1 1)
    (hown : w.ownsRow base e k (.slice A m c) m (FC f O)) (hb : (m + 1) * bytes ≤ 140737488355328) (hm : m + 1 ≤ 140737488355328) (hbase : base ≤ w.heap.size)
    (h : ∀ A' c' w', w'.ownsRow base e k (.slice A' (m + 1) c') (m + 1) (FC f (O ++ [y])) → Below base w w' → Keeps w w' (.slice A m c) (.slice A' (m + 1) c') → wpList P ops Q rest (a.put o.dst (.slice A' (m + 1) c')) w') :
    wpList P ops Q (o :: rest) a (w.alloc (.cells cs ty)) := by
  have hsz : cs.size = 1 * k := by rw [← Array.length_toList, hcs, hf]; omega
  refine app_law T hgd s x ho base hs (hown.alloc _) hx (Rd.lit w cs ty k 1 hsz) (by rw [hcs]; exact h1 y) hb hm (by simp; omega) fun A2 c2 w2 ap => ?_
  have hown2 := ap.own
  rw [hcs, show FC f O ++ f y = FC f (O ++ [y]) by rw [FC_append, FC_one]] at hown2
  refine h A2 c2 w2 hown2 (below_app ((Below.refl _ _).alloc hbase _) (hown.alloc _) ap.grown (Nat.le_refl _) (by simp; omega)) ?_
  intro size n A0 xs hr hoff
  have hr2 : Rd (w.alloc (.cells cs ty)) (w.alloc (.cells cs ty)).heap.size size A0 n xs := (hr.alloc (Nat.le_refl _) _).more (by simp)
  exact ⟨hr2.grownX ap.grown hoff, hoff.app hr2 ap.loc⟩
theorem Keeps.trans {w w' w'' : World} {u v v' : Value} (h1 : Keeps w w' u v) (h2 : Keeps w' w'' v v') : Keeps w w'' u v' := fun hr ho => by
  obtain ⟨h3, h4⟩ := h1 hr ho
  exact h2 h3 h4
end
end Go.Proofs.Ytkabkpeamggnnaa

namespace Go.Proofs.Ytkabkpeamggnnaa
open Go.RowKit Go.ChangeShapes Go.WideShapes Go.Joins Go.Deep

/-- an entry's cells -/
def ec (x : Ent) : List Value := [.int .i64 x.key, .int .i64 x.ver, .string (strB x.val)]
/-- a table's cells -/
def EC (l : List Ent) : List Value := l.flatMap ec
/-- an entry's value -/
def ev (x : Ent) : Value := .agg #[.int .i64 x.key, .int .i64 x.ver, .string (strB x.val)]
theorem EC_nil : EC [] = [] := rfl
theorem EC_cons (x : Ent) (l : List Ent) : EC (x :: l) = ec x ++ EC l := rfl
theorem EC_append (l m : List Ent) : EC (l ++ m) = EC l ++ EC m := List.flatMap_append
theorem EC_length (l : List Ent) : (EC l).length = l.length * 3 := by
  induction l with
  | nil => rfl
  | cons x r ih => rw [EC_cons, List.length_append, ih, List.length_cons]; show 3 + _ = _; omega
theorem EC_one (l : List Ent) : ∀ u ∈ EC l, u.oneCell' = true := by
  intro u hu
  obtain ⟨x, _, hx⟩ := List.mem_flatMap.1 hu
  simp [ec] at hx
  rcases hx with rfl | rfl | rfl <;> rfl
theorem EC_drop (l : List Ent) (k : Nat) : (EC l).drop (k * 3) = EC (l.drop k) := by
  induction k generalizing l with
  | zero => simp
  | succ k ih =>
    cases l with
    | nil => simp [EC_nil]
    | cons x r =>
      rw [EC_cons, List.drop_succ_cons, ← ih, show (k + 1) * 3 = 3 + k * 3 by omega, ← List.drop_drop]
      rfl
theorem EC_at {l : List Ent} {k : Nat} {x : Ent} (h : l[k]? = some x) (j : Nat) (hj : j < 3) : (EC l)[k * 3 + j]? = (ec x)[j]? := by
  have h1 : (EC l)[k * 3 + j]? = ((EC l).drop (k * 3))[j]? := by rw [List.getElem?_drop]
  rw [h1, EC_drop, drop_more h, EC_cons, List.getElem?_append_left (by show j < 3; exact hj)]
/-- an element that is read -/
theorem Rd.atE {w : World} {B n : Nat} {A : Option Addr} {l : List Ent} (h : Rd w B 3 A n (EC l)) {k : Nat} (hk : k < n) :
    ∃ b o x, A = some ⟨b, o, none⟩ ∧ b < B ∧ l[k]? = some x ∧ w.cell? ⟨b, o + k * 3, none⟩ = some (.int .i64 x.key) ∧ w.cell? ⟨b, o + k * 3 + 1, none⟩ = some (.int .i64 x.ver) ∧
      w.cell? ⟨b, o + k * 3 + 2, none⟩ = some (.string (strB x.val)) := by
  obtain ⟨b, o, e, hb, hc⟩ := h.2 (by omega)
  have hn : l.length = n := by have := h.1; rw [EC_length] at this; omega
  have hl : k < l.length := by omega
  have hx : l[k]? = some l[k] := List.getElem?_eq_getElem hl
  have key : ∀ j, j < 3 → w.cell? ⟨b, o + (k * 3 + j), none⟩ = (ec l[k])[j]? := fun j hj => by rw [hc _ (by rw [EC_length]; omega), EC_at hx j hj]
  refine ⟨b, o, l[k], e, hb, hx, ?_, ?_, ?_⟩
  · have := key 0 (by omega); rw [Nat.add_zero] at this; rw [this]; rfl
  · have := key 1 (by omega); rw [← Nat.add_assoc] at this; rw [this]; rfl
  · have := key 2 (by omega); rw [← Nat.add_assoc] at this; rw [this]; rfl
theorem Rd.lenE {w : World} {B n : Nat} {A : Option Addr} {l : List Ent} (h : Rd w B 3 A n (EC l)) : l.length = n := by
  have := h.1; rw [EC_length] at this; omega

section
variable {H : Type} {enc : TypeId × Value → H} {P : Program} {W : World} {base fuel : Nat} {spare : Nat → Bool} {held : Bool}
/-- cells that are an entry -/
theorem ent_of {t : TypeId} {f0 f1 f2 : Field} {cs : List Value} {x : DataW H × List MemPlace} (hs : P.underlying t = some (.struct #[f0, f1, f2])) (hone : oneCellFields P #[f0, f1, f2] = true) (_hC : P.cellsOf t = 3)
    (h0 : P.underlying f0.type = some (.int .i64)) (h1 : P.underlying f1.type = some (.int .i64)) (h2 : P.underlying f2.type = some .string) (hl : cs.length = 3)
    (h : DataW.trod enc P W base spare held fuel t cs = some x) : ∃ e : Ent, cs = ec e ∧ e.val.length ∈ x.1.weights P t ∧ (Lit.int .i64 e.key).wf = true ∧ (Lit.int .i64 e.ver).wf = true := by
  obtain ⟨y0, y1, y2, n, hx, _, g0, g1, g2⟩ := trod_struct3 hs h
  obtain ⟨o0, k0⟩ := hone_of hone 0 f0 rfl
  obtain ⟨o1, k1⟩ := hone_of hone 1 f1 rfl
  obtain ⟨o2, k2⟩ := hone_of hone 2 f2 rfl
  match cs, hl with
  | [c0, c1, c2], _ =>
    rw [o0, k0] at g0
    rw [o1, k1] at g1
    rw [o2, k2] at g2
    obtain ⟨k, e0, _, w0⟩ := DataW.trod_int h0 g0
    obtain ⟨v, e1, _, w1⟩ := DataW.trod_int h1 g1
    obtain ⟨s, e2, hy, hm⟩ := DataW.trod_string h2 g2
    obtain rfl : c0 = .int .i64 k := by simpa using e0
    obtain rfl : c1 = .int .i64 v := by simpa using e1
    obtain rfl : c2 = .string s := by simpa using e2
    refine ⟨⟨k, v, s.data.toList⟩, rfl, ?_, w0, w1⟩
    rw [hx]
    show _ ∈ (DataW.agg [y0.1, y1.1, y2.1]).weights P t
    rw [weights_struct hs]
    refine DataW.weights_mem_each (j := 2) (t := f2.type) (d := y2.1) rfl rfl _ ?_
    rw [hy]
    simp [DataW.weights]
/-- a slice of entries that came in -/
def TableIn (W : World) (a : Option Addr) (len cap : Nat) (l : List Ent) : Prop :=
  Rd W W.heap.size 3 a len (EC l) ∧ len ≤ cap ∧ cap ≤ 9223372036854775807 ∧ len * 32 ≤ 140737488351232 ∧ ∀ x ∈ l, x.val.length ≤ 140737488351232 ∧ (Lit.int .i64 x.key).wf = true ∧ (Lit.int .i64 x.ver).wf = true
theorem table_of {t e : TypeId} {f0 f1 f2 : Field} {v : Value} {x : DataW H × List MemPlace} (ht : P.underlying t = some (.slice e)) (hs : P.underlying e = some (.struct #[f0, f1, f2])) (hone : oneCellFields P #[f0, f1, f2] = true)
    (hC : P.cellsOf e = 3) (h0 : P.underlying f0.type = some (.int .i64)) (h1 : P.underlying f1.type = some (.int .i64)) (h2 : P.underlying f2.type = some .string) (h3b : P.bytesOf e = 32) (hw : ∀ n ∈ x.1.weights P t, n ≤ 140737488351232)
    (h : DataW.trod enc P W base spare held fuel t [v] = some x) : ∃ a len cap l, v = .slice a len cap ∧ TableIn W a len cap l := by
  rcases open_slice ht h with ⟨hcs, _⟩ | ⟨a, len, cap, m, n, D, Pl, hcs, hb, hl, hm, hmm, hx0, hi⟩
  · obtain rfl : v = .slice none 0 0 := by simpa using hcs
    exact ⟨none, 0, 0, [], rfl, Rd.zero _ _ _ _, Nat.le_refl _, by omega, by omega, by simp⟩
  · obtain rfl : v = .slice (some a) len cap := by simpa using hcs
    have hlm : len ≤ m := by rw [hmm]; split <;> omega
    rw [hC] at hi
    rw [hx0] at hw
    have hw : ∀ n ∈ (DataW.slice ((List.range len).map D) ((List.range (m - len)).map fun j => D (len + j))).weights P t, n ≤ 140737488351232 := hw
    rw [weights_slice ht, h3b] at hw
    have hlen := hw _ (List.mem_cons_self ..)
    simp only [List.length_map, List.length_range] at hlen
    have each : ∀ i, i < len → ∃ e : Ent, (∀ j, j < 3 → W.cell? ((a.add (i * 3)).add j) = (ec e)[j]?) ∧ e.val.length ≤ 140737488351232 ∧ (Lit.int .i64 e.key).wf = true ∧ (Lit.int .i64 e.ver).wf = true := by
      intro i hi2
      obtain ⟨cs, hcs, htr⟩ := hi i (by omega)
      obtain ⟨_, hcl, hat⟩ := World.cells?_some hcs
      obtain ⟨e, rfl, g1, g2, g3⟩ := ent_of hs hone hC h0 h1 h2 hcl htr
      refine ⟨e, hat, hw _ (List.mem_cons_of_mem _ (List.mem_append_left _ (weights_all (d := D i) ?_ _ g1))), g2, g3⟩
      exact List.mem_map.2 ⟨i, by simpa using hi2, rfl⟩
    clear hi
    have all : ∀ k, k ≤ len → ∃ l : List Ent, l.length = k ∧ (∀ x ∈ l, x.val.length ≤ 140737488351232 ∧ (Lit.int .i64 x.key).wf = true ∧ (Lit.int .i64 x.ver).wf = true) ∧
        ∀ i e, l[i]? = some e → ∀ j, j < 3 → W.cell? ((a.add (i * 3)).add j) = (ec e)[j]? := by
      intro k
      induction k with
      | zero => exact fun _ => ⟨[], rfl, by simp, by simp⟩
      | succ k ih =>
        intro hk
        obtain ⟨l, h3, h4, h5⟩ := ih (by omega)
        obtain ⟨e, h6, h7⟩ := each k (by omega)
        refine ⟨l ++ [e], by simp [h3], ?_, ?_⟩
        · intro x hx
          rcases List.mem_append.1 hx with hx | hx
          · exact h4 x hx
          · obtain rfl : x = e := by simpa using hx
            exact h7
        · intro i e' hie
          by_cases hik : i < k
          · rw [List.getElem?_append_left (by omega)] at hie
            exact h5 i e' hie
          · rw [List.getElem?_append_right (by omega), h3] at hie
            have hi0 : i = k := by
              have := (List.getElem?_eq_some_iff.1 hie).1
              simp at this
              omega
            subst hi0
            obtain rfl : e = e' := by simpa using hie
            exact h6
    obtain ⟨l, h3, h4, h5⟩ := all len (Nat.le_refl _)
    unfold maxLen at hm
    refine ⟨some a, len, cap, l, rfl, ⟨by rw [EC_length, h3], fun hn => ?_⟩, hl, hm, by omega, h4⟩
    obtain ⟨b, o, spot⟩ := a
    have e0 : l[0]? = some (l[0]'(by omega)) := List.getElem?_eq_getElem _
    have c0 := h5 0 _ e0 0 (by omega)
    have hspot : spot = none := by
      have : W.cell? (((⟨b, o, spot⟩ : Addr).add (0 * 3)).add 0) = some (.int .i64 (l[0]'(by omega)).key) := c0
      simpa [Addr.add] using World.cell?_spot this
    subst hspot
    have hadd : ∀ j, (⟨b, o, none⟩ : Addr).add j = ⟨b, o + j, none⟩ := fun j => by unfold Addr.add; split <;> simp_all
    have hadd2 : ∀ o' j, (⟨b, o', none⟩ : Addr).add j = ⟨b, o' + j, none⟩ := fun o' j => by unfold Addr.add; split <;> simp_all
    refine ⟨b, o, rfl, ?_, fun j hj => ?_⟩
    · rw [hadd, hadd2] at c0
      exact lt_of_cell c0
    · rw [EC_length, h3] at hj
      have hq : j / 3 < l.length := by omega
      have hx : l[j / 3]? = some (l[j / 3]'hq) := List.getElem?_eq_getElem hq
      have := h5 (j / 3) _ hx (j % 3) (Nat.mod_lt _ (by omega))
      rw [hadd, hadd2, ← EC_at hx (j % 3) (Nat.mod_lt _ (by omega)), Nat.add_assoc, show j / 3 * 3 + j % 3 = j by omega] at this
      exact this
end
end Go.Proofs.Ytkabkpeamggnnaa

namespace Go.Proofs.Ytkabkpeamggnnaa
set_option linter.unusedVariables false
open Go.RowKit

/-- a state's value: what it is, and where its table lies -/
structure Sv where
  s : St
  A : Option Addr
  n : Nat
  c : Nat
def scl (v : Sv) : List Value := [.int .i64 v.s.gen, .int .i64 v.s.beat, .slice v.A v.n v.c]
/-- a state's value -/
def sv (v : Sv) : Value := .agg #[.int .i64 v.s.gen, .int .i64 v.s.beat, .slice v.A v.n v.c]
/-- its table reads -/
def SRd (w : World) (v : Sv) : Prop := Rd w w.heap.size 3 v.A v.n (EC v.s.apps)
theorem SRd.belowH {w w' : World} {v : Sv} (h : SRd w v) (hb : Below w.heap.size w w') : SRd w' v := Rd.belowH h hb
theorem SRd.alloc {w : World} {v : Sv} (h : SRd w v) (o : Obj) : SRd (w.alloc o) v := (Rd.alloc h (Nat.le_refl _) o).more (by simp)
theorem SRd.allocH {w : World} {v : Sv} (h : SRd w v) (o : Obj) : SRd (w.alloc o) v := h.alloc o
theorem SRd.drewH {w : World} {v : Sv} (h : SRd w v) : SRd w.drew v := h
theorem SRd.drew {w : World} {v : Sv} (h : SRd w v) : SRd w.drew v := h
theorem SRd.drewN {w : World} {v : Sv} (h : SRd w v) (q : Nat) : SRd (w.drewN q) v := h
theorem SRd.len {w : World} {v : Sv} (h : SRd w v) : v.s.apps.length = v.n := Rd.lenE h
/-- a state that came in -/
def SIn (W : World) (v : Sv) : Prop := SRd W v ∧ v.n * 32 ≤ 140737488351232 ∧ (∀ x ∈ v.s.apps, x.val.length ≤ 140737488351232) ∧ (Lit.int .i64 v.s.gen).wf = true ∧ (Lit.int .i64 v.s.beat).wf = true
end Go.Proofs.Ytkabkpeamggnnaa

namespace Go.Proofs.Ytkabkpeamggnnaa
set_option linter.unusedVariables false
open Go.RowKit Go.ChangeShapes Go.WideShapes Go.Joins Go.Deep

theorem rows_of {H : Type} {enc : TypeId × Value → H} {P : Program} {W : World} {base fuel : Nat} {spare : Nat → Bool} {held : Bool} {α : Type} {f : α → List Value} {k by_ : Nat} {R : α → Prop} {t e : TypeId} {v : Value} {x : DataW H × List MemPlace}
    (hk : 0 < k) (hf : ∀ x, (f x).length = k) (ht : P.underlying t = some (.slice e)) (hC : P.cellsOf e = k) (hB : P.bytesOf e = by_) (hb0 : 1 ≤ by_)
    (hel : ∀ (cs : List Value) (y : DataW H × List MemPlace) (fl : Nat), cs.length = k → DataW.trod enc P W base spare held fl e cs = some y → (∀ n ∈ y.1.weights P e, n ≤ 140737488351232) → ∃ a : α, cs = f a ∧ R a)
    (hw : ∀ n ∈ x.1.weights P t, n ≤ 140737488351232) (h : DataW.trod enc P W base spare held fuel t [v] = some x) :
    ∃ a len cap l, v = .slice a len cap ∧ Rd W W.heap.size k a len (FC f l) ∧ len ≤ cap ∧ cap ≤ 9223372036854775807 ∧ len * by_ ≤ 140737488351232 ∧ ∀ y ∈ l, R y := by
  rcases open_slice ht h with ⟨hcs, _⟩ | ⟨a, len, cap, m, n, D, Pl, hcs, hb, hl, hm, hmm, hx0, hi⟩
  · obtain rfl : v = .slice none 0 0 := by simpa using hcs
    exact ⟨none, 0, 0, [], rfl, Rd.zero _ _ _ _, Nat.le_refl _, by omega, by omega, by simp⟩
  · obtain rfl : v = .slice (some a) len cap := by simpa using hcs
    have hlm : len ≤ m := by rw [hmm]; split <;> omega
    rw [hC] at hi
    rw [hx0] at hw
    have hw : ∀ n ∈ (DataW.slice ((List.range len).map D) ((List.range (m - len)).map fun j => D (len + j))).weights P t, n ≤ 140737488351232 := hw
    rw [weights_slice ht, hB] at hw
    have hlen := hw _ (List.mem_cons_self ..)
    simp only [List.length_map, List.length_range] at hlen
    have hlen2 : len * by_ ≤ 140737488351232 := by
      have h1 : len ≤ len + (m - len) := Nat.le_add_right _ _
      exact Nat.le_trans (Nat.mul_le_mul_right _ h1) hlen
    have each : ∀ i, i < len → ∃ u : α, (∀ j, j < k → W.cell? ((a.add (i * k)).add j) = (f u)[j]?) ∧ R u := by
      intro i hi2
      obtain ⟨cs, hcs, htr⟩ := hi i (by omega)
      obtain ⟨_, hcl, hat⟩ := World.cells?_some hcs
      obtain ⟨u, rfl, g1⟩ := hel _ _ _ hcl htr (fun n hn => hw _ (List.mem_cons_of_mem _ (List.mem_append_left _ (weights_all (d := D i) (List.mem_map.2 ⟨i, by simpa using hi2, rfl⟩) _ hn))))
      exact ⟨u, hat, g1⟩
    clear hi
    have all : ∀ q, q ≤ len → ∃ l : List α, l.length = q ∧ (∀ y ∈ l, R y) ∧
        ∀ i u, l[i]? = some u → ∀ j, j < k → W.cell? ((a.add (i * k)).add j) = (f u)[j]? := by
      intro q
      induction q with
      | zero => exact fun _ => ⟨[], rfl, by simp, by simp⟩
      | succ q ih =>
        intro hq
        obtain ⟨l, h3, h4, h5⟩ := ih (by omega)
        obtain ⟨u, h6, h7⟩ := each q (by omega)
        refine ⟨l ++ [u], by simp [h3], ?_, ?_⟩
        · intro y hy
          rcases List.mem_append.1 hy with hy | hy
          · exact h4 y hy
          · obtain rfl : y = u := by simpa using hy
            exact h7
        · intro i u' hiu
          by_cases hik : i < q
          · rw [List.getElem?_append_left (by omega)] at hiu
            exact h5 i u' hiu
          · rw [List.getElem?_append_right (by omega), h3] at hiu
            have hi0 : i = q := by
              have := (List.getElem?_eq_some_iff.1 hiu).1
              simp at this
              omega
            subst hi0
            obtain rfl : u = u' := by simpa using hiu
            exact h6
    obtain ⟨l, h3, h4, h5⟩ := all len (Nat.le_refl _)
    unfold maxLen at hm
    refine ⟨some a, len, cap, l, rfl, ⟨by rw [FC_length hf, h3], fun hn => ?_⟩, hl, hm, hlen2, h4⟩
    obtain ⟨b, o, spot⟩ := a
    have e0 : l[0]? = some (l[0]'(by omega)) := List.getElem?_eq_getElem _
    have c0 := h5 0 _ e0 0 hk
    have hv0 : (f (l[0]'(by omega)))[0]? = some ((f (l[0]'(by omega)))[0]'(by rw [hf]; exact hk)) := List.getElem?_eq_getElem _
    rw [hv0] at c0
    have hspot : spot = none := by
      have : W.cell? (((⟨b, o, spot⟩ : Addr).add (0 * k)).add 0) = some ((f (l[0]'(by omega)))[0]'(by rw [hf]; exact hk)) := c0
      simpa [Addr.add] using World.cell?_spot this
    subst hspot
    have hadd : ∀ j, (⟨b, o, none⟩ : Addr).add j = ⟨b, o + j, none⟩ := fun j => by unfold Addr.add; split <;> simp_all
    have hadd2 : ∀ o' j, (⟨b, o', none⟩ : Addr).add j = ⟨b, o' + j, none⟩ := fun o' j => by unfold Addr.add; split <;> simp_all
    refine ⟨b, o, rfl, ?_, fun j hj => ?_⟩
    · rw [hadd, hadd2] at c0
      exact lt_of_cell c0
    · rw [FC_length hf, h3] at hj
      have hq : j / k < l.length := by rw [h3]; exact (Nat.div_lt_iff_lt_mul hk).2 hj
      have hx : l[j / k]? = some (l[j / k]'hq) := List.getElem?_eq_getElem hq
      have hdm : j / k * k + j % k = j := by rw [Nat.mul_comm]; exact Nat.div_add_mod j k
      have := h5 (j / k) _ hx (j % k) (Nat.mod_lt _ hk)
      rw [hadd, hadd2, ← FC_at hf hx (j % k) (Nat.mod_lt _ hk), Nat.add_assoc, hdm] at this
      exact this
end Go.Proofs.Ytkabkpeamggnnaa

namespace Go.Proofs.Ytkabkpeamggnnaa
set_option linter.unusedVariables false
open Go.RowKit

/-- an endpoint's state in memory -/
structure Nv where
  node : Int
  v : Sv
def Nv.nm (x : Nv) : Nm := ⟨x.node, x.v.s⟩
def ncl (x : Nv) : List Value := [.int .i64 x.node, .int .i64 x.v.s.gen, .int .i64 x.v.s.beat, .slice x.v.A x.v.n x.v.c]
theorem ncl_len (x : Nv) : (ncl x).length = 4 := rfl
theorem ncl_one (x : Nv) : ∀ u ∈ ncl x, u.oneCell' = true := by
  intro u hu
  simp [ncl] at hu
  rcases hu with rfl | rfl | rfl | rfl <;> rfl
/-- a view in memory: a slice of endpoints' states -/
structure Vw where
  l : List Nv
  A : Option Addr
  n : Nat
  c : Nat
def Vw.view (v : Vw) : List Nm := v.l.map Nv.nm
def vval (v : Vw) : Value := .slice v.A v.n v.c
def VRd (w : World) (v : Vw) : Prop := Rd w w.heap.size 4 v.A v.n (FC ncl v.l) ∧ ∀ x ∈ v.l, SRd w x.v
theorem VRd.belowH {w w' : World} {v : Vw} (h : VRd w v) (hb : Below w.heap.size w w') : VRd w' v := ⟨Rd.belowH h.1 hb, fun x hx => (h.2 x hx).belowH hb⟩
theorem VRd.allocH {w : World} {v : Vw} (h : VRd w v) (o : Obj) : VRd (w.alloc o) v := ⟨(Rd.alloc h.1 (Nat.le_refl _) o).more (by simp), fun x hx => (h.2 x hx).alloc o⟩
theorem VRd.drewH {w : World} {v : Vw} (h : VRd w v) : VRd w.drew v := h
theorem VRd.drewN {w : World} {v : Vw} (h : VRd w v) (q : Nat) : VRd (w.drewN q) v := h
theorem VRd.len {w : World} {v : Vw} (h : VRd w v) : v.l.length = v.n := h.1.lenF (by omega) ncl_len
theorem VRd.viewlen {w : World} {v : Vw} (h : VRd w v) : v.view.length = v.n := by unfold Vw.view; rw [List.length_map, h.len]
/-- an endpoint that is read -/
theorem VRd.at {w : World} {v : Vw} (h : VRd w v) {k : Nat} (hk : k < v.n) :
    ∃ b o x, v.A = some ⟨b, o, none⟩ ∧ b < w.heap.size ∧ v.l[k]? = some x ∧ SRd w x.v ∧ w.cell? ⟨b, o + k * 4, none⟩ = some (.int .i64 x.node) ∧ w.cell? ⟨b, o + k * 4 + 1, none⟩ = some (.int .i64 x.v.s.gen) ∧
      w.cell? ⟨b, o + k * 4 + 2, none⟩ = some (.int .i64 x.v.s.beat) ∧ w.cell? ⟨b, o + k * 4 + 3, none⟩ = some (.slice x.v.A x.v.n x.v.c) := by
  obtain ⟨b, o, x, e, hb, hx, hc⟩ := h.1.atF (by omega) ncl_len hk
  refine ⟨b, o, x, e, hb, hx, h.2 x (List.mem_of_getElem? hx), hc 0 _ rfl, ?_, ?_, ?_⟩
  · have := hc 1 _ rfl; rwa [← Nat.add_assoc] at this
  · have := hc 2 _ rfl; rwa [← Nat.add_assoc] at this
  · have := hc 3 _ rfl; rwa [← Nat.add_assoc] at this
/-- a view that came in -/
def VIn (W : World) (v : Vw) : Prop := VRd W v ∧ v.n ≤ v.c ∧ v.n * 48 ≤ 140737488351232 ∧ ∀ x ∈ v.l, (x.v.n * 32 ≤ 140737488351232 ∧ ∀ y ∈ x.v.s.apps, y.val.length ≤ 140737488351232) ∧ (Lit.int .i64 x.node).wf = true
end Go.Proofs.Ytkabkpeamggnnaa

namespace Go.Proofs.Ytkabkpeamggnnaa
set_option linter.unusedVariables false
open Go.RowKit Go.ChangeShapes Go.WideShapes Go.Joins Go.Deep

section
variable {H : Type} {enc : TypeId × Value → H} {P : Program} {W : World} {base fuel : Nat} {spare : Nat → Bool} {held : Bool}
theorem state_of {t ts te : TypeId} {f0 f1 f2 g0 g1 g2 : Field} {cs : List Value} {x : DataW H × List MemPlace} (hs : P.underlying t = some (.struct #[f0, f1, f2])) (hone : oneCellFields P #[f0, f1, f2] = true)
    (h0 : P.underlying f0.type = some (.int .i64)) (h1 : P.underlying f1.type = some (.int .i64)) (ht2 : f2.type = ts)
    (ht : P.underlying ts = some (.slice te)) (hse : P.underlying te = some (.struct #[g0, g1, g2])) (honee : oneCellFields P #[g0, g1, g2] = true) (hCe : P.cellsOf te = 3)
    (k0 : P.underlying g0.type = some (.int .i64)) (k1 : P.underlying g1.type = some (.int .i64)) (k2 : P.underlying g2.type = some .string) (hbe : P.bytesOf te = 32)
    (hl : cs.length = 3) (hw : ∀ n ∈ x.1.weights P t, n ≤ 140737488351232) (h : DataW.trod enc P W base spare held fuel t cs = some x) : ∃ v : Sv, cs = scl v ∧ SIn W v := by
  obtain ⟨y0, y1, y2, n, hx, _, q0, q1, q2⟩ := trod_struct3 hs h
  obtain ⟨o0, c0⟩ := hone_of hone 0 f0 rfl
  obtain ⟨o1, c1⟩ := hone_of hone 1 f1 rfl
  obtain ⟨o2, c2⟩ := hone_of hone 2 f2 rfl
  match cs, hl with
  | [u0, u1, u2], _ =>
    rw [o0, c0] at q0
    rw [o1, c1] at q1
    rw [o2, c2, ht2] at q2
    obtain ⟨g, e0, _, w0⟩ := DataW.trod_int h0 q0
    obtain ⟨b, e1, _, w1⟩ := DataW.trod_int h1 q1
    obtain rfl : u0 = .int .i64 g := by simpa using e0
    obtain rfl : u1 = .int .i64 b := by simpa using e1
    rw [hx] at hw
    have hw2 : ∀ n ∈ (DataW.agg [y0.1, y1.1, y2.1]).weights P t, n ≤ 140737488351232 := hw
    rw [weights_struct hs] at hw2
    have q2' : DataW.trod enc P W base spare held n ts [u2] = some y2 := q2
    obtain ⟨a, len, cap, l, rfl, hti⟩ := table_of ht hse honee hCe k0 k1 k2 hbe (fun m hm => hw2 m (DataW.weights_mem_each (j := 2) (t := ts) (d := y2.1) (by simp [ht2]) rfl m hm)) q2'
    exact ⟨⟨⟨g, b, l⟩, a, len, cap⟩, rfl, hti.1, hti.2.2.2.1, fun x hx => (hti.2.2.2.2 x hx).1, w0, w1⟩
theorem nv_of {t tn : TypeId} {f0 f1 : Field} {cs : List Value} {x : DataW H × List MemPlace} (hs : P.underlying t = some (.struct #[f0, f1])) (o0 : f0.offset = 0) (c0 : P.cellsOf f0.type = 1) (o1 : f1.offset = 1) (c1 : P.cellsOf f1.type = 3)
    (h0 : P.underlying f0.type = some (.int .i64)) (ht1 : f1.type = tn)
    (hst : ∀ (cs : List Value) (y : DataW H × List MemPlace) (fl : Nat), cs.length = 3 → (∀ n ∈ y.1.weights P tn, n ≤ 140737488351232) → DataW.trod enc P W base spare held fl tn cs = some y → ∃ v : Sv, cs = scl v ∧ SIn W v)
    (hl : cs.length = 4) (hw : ∀ n ∈ x.1.weights P t, n ≤ 140737488351232) (h : DataW.trod enc P W base spare held fuel t cs = some x) : ∃ v : Nv, cs = ncl v ∧ SIn W v.v ∧ (Lit.int .i64 v.node).wf = true := by
  obtain ⟨y0, y1, n, hx, _, q0, q1⟩ := trod_struct2 hs h
  match cs, hl with
  | [u0, u1, u2, u3], _ =>
    rw [o0, c0] at q0
    rw [o1, c1, ht1] at q1
    obtain ⟨g, e0, _, w0⟩ := DataW.trod_int h0 q0
    obtain rfl : u0 = .int .i64 g := by simpa using e0
    rw [hx] at hw
    have hw2 : ∀ n ∈ (DataW.agg [y0.1, y1.1]).weights P t, n ≤ 140737488351232 := hw
    rw [weights_struct hs] at hw2
    obtain ⟨v, hv, hvi⟩ := hst [u1, u2, u3] y1 n rfl (fun m hm => hw2 m (DataW.weights_mem_each (j := 1) (t := tn) (d := y1.1) (by simp [ht1]) rfl m hm)) q1
    refine ⟨⟨g, v⟩, ?_, hvi, w0⟩
    unfold ncl
    unfold scl at hv
    simp only [List.cons.injEq, and_true] at hv
    obtain ⟨rfl, rfl, rfl⟩ := hv
    rfl
end
end Go.Proofs.Ytkabkpeamggnnaa

namespace Go.Proofs.Ytkabkpeamggnnaa
set_option linter.unusedVariables false
open Go.RowKit Go.ChangeShapes Go.WideShapes Go.Joins Go.Deep

/-- a delta in memory -/
structure Lv where
  node : Int
  frm : Int
  v : Sv
def Lv.dl (x : Lv) : Dl := ⟨x.node, x.frm, x.v.s⟩
def lcl (x : Lv) : List Value := [.int .i64 x.node, .int .i64 x.frm, .int .i64 x.v.s.gen, .int .i64 x.v.s.beat, .slice x.v.A x.v.n x.v.c]
/-- a delta's value -/
def lv (x : Lv) : Value := .agg #[.int .i64 x.node, .int .i64 x.frm, .int .i64 x.v.s.gen, .int .i64 x.v.s.beat, .slice x.v.A x.v.n x.v.c]
theorem lcl_len (x : Lv) : (lcl x).length = 5 := rfl
theorem lcl_one (x : Lv) : ∀ u ∈ lcl x, u.oneCell' = true := by
  intro u hu
  simp [lcl] at hu
  rcases hu with rfl | rfl | rfl | rfl | rfl <;> rfl
/-- a list of deltas in memory -/
structure Lw where
  l : List Lv
  A : Option Addr
  n : Nat
  c : Nat
def Lw.dls (v : Lw) : List Dl := v.l.map Lv.dl
def lval (v : Lw) : Value := .slice v.A v.n v.c
def LRd (w : World) (v : Lw) : Prop := Rd w w.heap.size 5 v.A v.n (FC lcl v.l) ∧ ∀ x ∈ v.l, SRd w x.v
theorem LRd.belowH {w w' : World} {v : Lw} (h : LRd w v) (hb : Below w.heap.size w w') : LRd w' v := ⟨Rd.belowH h.1 hb, fun x hx => (h.2 x hx).belowH hb⟩
theorem LRd.allocH {w : World} {v : Lw} (h : LRd w v) (o : Obj) : LRd (w.alloc o) v := ⟨(Rd.alloc h.1 (Nat.le_refl _) o).more (by simp), fun x hx => (h.2 x hx).alloc o⟩
theorem LRd.drewH {w : World} {v : Lw} (h : LRd w v) : LRd w.drew v := h
theorem LRd.drewN {w : World} {v : Lw} (h : LRd w v) (q : Nat) : LRd (w.drewN q) v := h
theorem LRd.len {w : World} {v : Lw} (h : LRd w v) : v.l.length = v.n := h.1.lenF (by omega) lcl_len
theorem LRd.dlslen {w : World} {v : Lw} (h : LRd w v) : v.dls.length = v.n := by unfold Lw.dls; rw [List.length_map, h.len]
/-- a delta that is read -/
theorem LRd.at {w : World} {v : Lw} (h : LRd w v) {k : Nat} (hk : k < v.n) :
    ∃ b o x, v.A = some ⟨b, o, none⟩ ∧ b < w.heap.size ∧ v.l[k]? = some x ∧ SRd w x.v ∧ w.cell? ⟨b, o + k * 5, none⟩ = some (.int .i64 x.node) ∧ w.cell? ⟨b, o + k * 5 + 1, none⟩ = some (.int .i64 x.frm) ∧ w.cell? ⟨b, o + k * 5 + 2, none⟩ = some (.int .i64 x.v.s.gen) ∧
      w.cell? ⟨b, o + k * 5 + 3, none⟩ = some (.int .i64 x.v.s.beat) ∧ w.cell? ⟨b, o + k * 5 + 4, none⟩ = some (.slice x.v.A x.v.n x.v.c) := by
  obtain ⟨b, o, x, e, hb, hx, hc⟩ := h.1.atF (by omega) lcl_len hk
  refine ⟨b, o, x, e, hb, hx, h.2 x (List.mem_of_getElem? hx), hc 0 _ rfl, ?_, ?_, ?_, ?_⟩
  · have := hc 1 _ rfl; rwa [← Nat.add_assoc] at this
  · have := hc 2 _ rfl; rwa [← Nat.add_assoc] at this
  · have := hc 3 _ rfl; rwa [← Nat.add_assoc] at this
  · have := hc 4 _ rfl; rwa [← Nat.add_assoc] at this
/-- its tables are short enough to be reckoned with -/
def LFit (v : Lw) : Prop := ∀ x ∈ v.l, x.v.n ≤ 4000
/-- its row is the call's own, and what its deltas' tables are lies apart from it -/
def LOwn (base : Nat) (e : TypeId) (w : World) (v : Lw) : Prop := w.ownsRow base e 5 (lval v) v.n (FC lcl v.l) ∧ ∀ x ∈ v.l, SRd w x.v ∧ Off (lval v) x.v.A x.v.n
theorem LOwn.lrd {base : Nat} {e : TypeId} {w : World} {v : Lw} (h : LOwn base e w v) : LRd w v := ⟨Rd.of_own h.1, fun x hx => (h.2 x hx).1⟩
/-- deltas that came in -/
def LIn (W : World) (v : Lw) : Prop := LRd W v ∧ v.n ≤ v.c ∧ v.n * 56 ≤ 140737488351232 ∧ ∀ x ∈ v.l, x.v.n * 32 ≤ 140737488351232 ∧ ∀ y ∈ x.v.s.apps, y.val.length ≤ 140737488351232

section
variable {H : Type} {enc : TypeId × Value → H} {P : Program} {W : World} {base fuel : Nat} {spare : Nat → Bool} {held : Bool}
theorem lv_of {t tn : TypeId} {f0 f1 f2 : Field} {cs : List Value} {x : DataW H × List MemPlace} (hs : P.underlying t = some (.struct #[f0, f1, f2])) (o0 : f0.offset = 0) (c0 : P.cellsOf f0.type = 1) (o1 : f1.offset = 1) (c1 : P.cellsOf f1.type = 1) (o2 : f2.offset = 2) (c2 : P.cellsOf f2.type = 3)
    (h0 : P.underlying f0.type = some (.int .i64)) (h1 : P.underlying f1.type = some (.int .i64)) (ht2 : f2.type = tn)
    (hst : ∀ (cs : List Value) (y : DataW H × List MemPlace) (fl : Nat), cs.length = 3 → (∀ n ∈ y.1.weights P tn, n ≤ 140737488351232) → DataW.trod enc P W base spare held fl tn cs = some y → ∃ v : Sv, cs = scl v ∧ SIn W v)
    (hl : cs.length = 5) (hw : ∀ n ∈ x.1.weights P t, n ≤ 140737488351232) (h : DataW.trod enc P W base spare held fuel t cs = some x) : ∃ v : Lv, cs = lcl v ∧ SIn W v.v := by
  obtain ⟨y0, y1, y2, n, hx, _, q0, q1, q2⟩ := trod_struct3 hs h
  match cs, hl with
  | [u0, u1, u2, u3, u4], _ =>
    rw [o0, c0] at q0
    rw [o1, c1] at q1
    rw [o2, c2, ht2] at q2
    obtain ⟨g, e0, _, _⟩ := DataW.trod_int h0 q0
    obtain ⟨f, e1, _, _⟩ := DataW.trod_int h1 q1
    obtain rfl : u0 = .int .i64 g := by simpa using e0
    obtain rfl : u1 = .int .i64 f := by simpa using e1
    rw [hx] at hw
    have hw2 : ∀ n ∈ (DataW.agg [y0.1, y1.1, y2.1]).weights P t, n ≤ 140737488351232 := hw
    rw [weights_struct hs] at hw2
    obtain ⟨v, hv, hvi⟩ := hst [u2, u3, u4] y2 n rfl (fun m hm => hw2 m (DataW.weights_mem_each (j := 2) (t := tn) (d := y2.1) (by simp [ht2]) rfl m hm)) q2
    refine ⟨⟨g, f, v⟩, ?_, hvi⟩
    unfold lcl
    unfold scl at hv
    simp only [List.cons.injEq, and_true] at hv
    obtain ⟨rfl, rfl, rfl⟩ := hv
    rfl
end
end Go.Proofs.Ytkabkpeamggnnaa

namespace Go.Proofs.Ytkabkpeamggnnaa
set_option linter.unusedVariables false
open Go.RowKit Go.ChangeShapes Go.WideShapes Go.Joins Go.Deep

def dcl (x : Dg) : List Value := [.int .i64 x.node, .int .i64 x.gen, .int .i64 x.ver]
/-- a digest's value -/
def dgv (x : Dg) : Value := .agg #[.int .i64 x.node, .int .i64 x.gen, .int .i64 x.ver]
theorem dcl_len (x : Dg) : (dcl x).length = 3 := rfl
theorem dcl_one (x : Dg) : ∀ u ∈ dcl x, u.oneCell' = true := by
  intro u hu
  simp [dcl] at hu
  rcases hu with rfl | rfl | rfl <;> rfl
/-- a list of digests reads -/
def DRd (w : World) (A : Option Addr) (n : Nat) (l : List Dg) : Prop := Rd w w.heap.size 3 A n (FC dcl l)
theorem DRd.belowH {w w' : World} {A : Option Addr} {n : Nat} {l : List Dg} (h : DRd w A n l) (hb : Below w.heap.size w w') : DRd w' A n l := Rd.belowH h hb
theorem DRd.allocH {w : World} {A : Option Addr} {n : Nat} {l : List Dg} (h : DRd w A n l) (o : Obj) : DRd (w.alloc o) A n l := (Rd.alloc h (Nat.le_refl _) o).more (by simp)
theorem DRd.drewH {w : World} {A : Option Addr} {n : Nat} {l : List Dg} (h : DRd w A n l) : DRd w.drew A n l := h
theorem DRd.drewN {w : World} {A : Option Addr} {n : Nat} {l : List Dg} (h : DRd w A n l) (q : Nat) : DRd (w.drewN q) A n l := h
theorem DRd.len {w : World} {A : Option Addr} {n : Nat} {l : List Dg} (h : DRd w A n l) : l.length = n := Rd.lenF (by omega) dcl_len h
theorem DRd.zero (w : World) (A : Option Addr) : DRd w A 0 [] := Rd.zero _ _ _ _
theorem DRd.at {w : World} {A : Option Addr} {n : Nat} {l : List Dg} (h : DRd w A n l) {k : Nat} (hk : k < n) :
    ∃ b o x, A = some ⟨b, o, none⟩ ∧ b < w.heap.size ∧ l[k]? = some x ∧ w.cell? ⟨b, o + k * 3, none⟩ = some (.int .i64 x.node) ∧ w.cell? ⟨b, o + k * 3 + 1, none⟩ = some (.int .i64 x.gen) ∧ w.cell? ⟨b, o + k * 3 + 2, none⟩ = some (.int .i64 x.ver) := by
  obtain ⟨b, o, x, e, hb, hx, hc⟩ := Rd.atF (by omega) dcl_len h hk
  refine ⟨b, o, x, e, hb, hx, hc 0 _ rfl, ?_, ?_⟩
  · have := hc 1 _ rfl; rwa [← Nat.add_assoc] at this
  · have := hc 2 _ rfl; rwa [← Nat.add_assoc] at this
/-- a list of digests that came in -/
def DIn (W : World) (A : Option Addr) (n c : Nat) (l : List Dg) : Prop := DRd W A n l ∧ n ≤ c ∧ n * 24 ≤ 140737488351232

section
variable {H : Type} {enc : TypeId × Value → H} {P : Program} {W : World} {base fuel : Nat} {spare : Nat → Bool} {held : Bool}
theorem dg_of {t : TypeId} {f0 f1 f2 : Field} {cs : List Value} {x : DataW H × List MemPlace} (hs : P.underlying t = some (.struct #[f0, f1, f2])) (hone : oneCellFields P #[f0, f1, f2] = true)
    (h0 : P.underlying f0.type = some (.int .i64)) (h1 : P.underlying f1.type = some (.int .i64)) (h2 : P.underlying f2.type = some (.int .i64))
    (hl : cs.length = 3) (h : DataW.trod enc P W base spare held fuel t cs = some x) : ∃ v : Dg, cs = dcl v ∧ True := by
  obtain ⟨y0, y1, y2, n, hx, _, q0, q1, q2⟩ := trod_struct3 hs h
  obtain ⟨o0, c0⟩ := hone_of hone 0 f0 rfl
  obtain ⟨o1, c1⟩ := hone_of hone 1 f1 rfl
  obtain ⟨o2, c2⟩ := hone_of hone 2 f2 rfl
  match cs, hl with
  | [u0, u1, u2], _ =>
    rw [o0, c0] at q0
    rw [o1, c1] at q1
    rw [o2, c2] at q2
    obtain ⟨g, e0, _, _⟩ := DataW.trod_int h0 q0
    obtain ⟨b, e1, _, _⟩ := DataW.trod_int h1 q1
    obtain ⟨d, e2, _, _⟩ := DataW.trod_int h2 q2
    obtain rfl : u0 = .int .i64 g := by simpa using e0
    obtain rfl : u1 = .int .i64 b := by simpa using e1
    obtain rfl : u2 = .int .i64 d := by simpa using e2
    exact ⟨⟨g, b, d⟩, rfl, trivial⟩
end
/-! ### Two rows of one's own: one grows, the other stays -/
section
variable {α : Type} {f : α → List Value} {k : Nat}
/-- what a push of one's own row leaves of another one -/
def Spares (w w' : World) (v v' : Value) : Prop := ∀ {base e size n : Nat} {u : Value} {xs : List Value}, w.ownsRow base e size u n xs → (u.ownBlock = none ∨ u.ownBlock ≠ v.ownBlock) → w'.ownsRow base e size u n xs ∧ (u.ownBlock = none ∨ u.ownBlock ≠ v'.ownBlock)
theorem spares_of {w w' : World} {v v' : Value} {cs : Array Value} {ty : TypeId} (hg : (w.alloc (.cells cs ty)).grownBy w' v.ownBlock) (hl : v'.ownBlock = v.ownBlock ∨ v'.ownBlock = some (w.alloc (.cells cs ty)).heap.size) : Spares w w' v v' := by
  intro base e size n u xs hu hne
  refine ⟨(hu.alloc _).kept hg hne, ?_⟩
  rcases hl with hl | hl
  · rw [hl]; exact hne
  · rcases hb : u.ownBlock with _ | b
    · exact Or.inl rfl
    · right
      intro h
      rw [hl] at h
      injection h with h
      have h1 := (hu.lt b hb).2
      have h2 : (w.alloc (.cells cs ty)).heap.size = w.heap.size + 1 := by simp
      omega
/-- pushF_law, and what it leaves of other rows of one's own -/
theorem pushS_law {P : Program} {t e : TypeId} {z : Value} {bytes : Nat} {w : World} {ops : Array Oper} {rest : List Oper} {o : Oper} {a : Act} {Q : Exit → Act → World → Prop} (T : SlT P t e z k bytes) (hf : ∀ x, (f x).length = k) (h1 : ∀ x, ∀ u ∈ f x, u.oneCell' = true)
    (hgd : o.guard = none) (s x : Operand) (ho : o.op = .call { callee := .builtin .append, args := #[s, x], argTypes := #[t, t] })
    (base : Nat) {A : Option Addr} {m c : Nat} {O : List α} {y : α} {cs : Array Value} {ty : TypeId} (hcs : cs.toList = f y) (hs : a.eval s = .slice A m c) (hx : a.eval x = .slice (some ⟨w.heap.size, 0, none⟩) 1 1)
    (hown : w.ownsRow base e k (.slice A m c) m (FC f O)) (hb : (m + 1) * bytes ≤ 140737488355328) (hm : m + 1 ≤ 140737488355328) (hbase : base ≤ w.heap.size)
    (h : ∀ A' c' w', w'.ownsRow base e k (.slice A' (m + 1) c') (m + 1) (FC f (O ++ [y])) → Below base w w' → Spares w w' (.slice A m c) (.slice A' (m + 1) c') → wpList P ops Q rest (a.put o.dst (.slice A' (m + 1) c')) w') :
    wpList P ops Q (o :: rest) a (w.alloc (.cells cs ty)) := by
  have hsz : cs.size = 1 * k := by rw [← Array.length_toList, hcs, hf]; omega
  refine app_law T hgd s x ho base hs (hown.alloc _) hx (Rd.lit w cs ty k 1 hsz) (by rw [hcs]; exact h1 y) hb hm (by simp; omega) fun A2 c2 w2 ap => ?_
  have hown2 := ap.own
  rw [hcs, show FC f O ++ f y = FC f (O ++ [y]) by rw [FC_append, FC_one]] at hown2
  exact h A2 c2 w2 hown2 (below_app ((Below.refl _ _).alloc hbase _) (hown.alloc _) ap.grown (Nat.le_refl _) (by simp; omega)) (spares_of ap.grown ap.loc)
end
end Go.Proofs.Ytkabkpeamggnnaa

