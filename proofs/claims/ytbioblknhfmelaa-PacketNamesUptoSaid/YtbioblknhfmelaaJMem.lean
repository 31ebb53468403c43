/- Mem (merged). -/
import Derived.WalkKit
import Derived.Lib.Hide
import Derived.WalkSpells
import Derived.Maps.AppendAt
import Derived.Deep.Draws
import Derived.Laws.OwnMore
import Derived.Laws.BytesArg
import Derived.Lib.AppendStr
import Derived.WalkSmall
import Derived.Deep.RegionHeld
namespace Go.Proofs.Ytbioblknhfmelaa
open Go.RowKit

theorem sA {α : Type _} (l : List α) (i : Nat) (a : α) : l.toArray.setIfInBounds i a = (l.set i a).toArray := List.setIfInBounds_toArray ..
theorem sB {α : Type _} {x : α} {l : List α} {a : α} : (x :: l).set 0 a = a :: l := List.set_cons_zero ..
theorem sC {α : Type _} {x : α} {l : List α} {n : Nat} {a : α} : (x :: l).set (n + 1) a = x :: l.set n a := List.set_cons_succ ..
section
variable {P : Program} {md : Region.Mode} {ops : Array Oper} {Q : Exit → Act → World → Prop} {S : World → Prop}
/-- operation i, which leaves its value in slot d whatever the world, is taken now -/
theorem tk (i d : Nat) {op : Op} {ty : TypeId} {pos : String} {af : Array Edge} {g : Option (Nat × Bool)} {v : Value} {fuel : Nat} {listed : Array Bool} {a a' : Act} {w : World}
    (hi : ops[i]? = some ⟨some d, op, ty, pos, af, g⟩) (hS : S w) (h : wpAnyH P md ops Q S fuel (listed.setIfInBounds i true) a' w)
    (hc : (Region.noSelect ops && Region.free md ops listed i && (Region.ready md ops listed).contains i) = true := by kernel_rfl)
    (hw : Region.wanted ⟨some d, op, ty, pos, af, g⟩ (yielded ops a.tmps) = true := by rfl)
    (hv : ∀ w', S w' → (execOp a.eval ⟨some d, op, ty, pos, af, g⟩).run P w' = .ok (.value v) w' := by (intro w' hSw; (try dsimp only at hSw); go_simp; all_goals (with_reducible rfl)))
    (ha : a.put (some d) v = a' := by (try simp only [Act.put, sA, sB, sC]); exact rfl)
    (hQ : ∀ c a w, Q (.panic c) (a.put (some d) v) w → Q (.panic c) a w := by exact fun _ _ _ h => h) : wpAnyH P md ops Q S (fuel + 1) listed a w := by
  simp only [Bool.and_eq_true] at hc
  subst ha
  exact wpAnyH_take (i := i) hi hc.1.1 hc.1.2 hc.2 hQ (Or.inl ⟨hw, hv⟩) hS h
end
/-! ### A slice that reads as a list -/

/-- The slice with head A and n elements of 'size' cells each holds the cells xs, in a block below B. -/
def Rd (w : World) (B size : Nat) (A : Option Addr) (n : Nat) (xs : List Value) : Prop :=
  xs.length = n * size ∧ (n ≠ 0 → ∃ b o, A = some ⟨b, o, none⟩ ∧ b < B ∧ ∀ j, j < xs.length → w.cell? ⟨b, o + j, none⟩ = xs[j]?)

section
variable {w w' : World} {B B' size n : Nat} {A : Option Addr} {xs : List Value}
theorem Rd.zero (w : World) (B size : Nat) (A : Option Addr) : Rd w B size A 0 [] := ⟨by simp, fun h => absurd rfl h⟩
theorem Rd.len1 (h : Rd w B 1 A n xs) : xs.length = n := by have := h.1; omega
theorem Rd.keep (h : Rd w B size A n xs) (hB : B ≤ B') (hk : ∀ b o, b < B → w'.cell? ⟨b, o, none⟩ = w.cell? ⟨b, o, none⟩) : Rd w' B' size A n xs := by
  refine ⟨h.1, fun hn => ?_⟩
  obtain ⟨b, o, e, hb, hc⟩ := h.2 hn
  exact ⟨b, o, e, by omega, fun j hj => (hk _ _ hb).trans (hc j hj)⟩
theorem Rd.more (h : Rd w B size A n xs) (hB : B ≤ B') : Rd w B' size A n xs := h.keep hB fun _ _ _ => rfl
theorem Rd.below (h : Rd w B size A n xs) (hb : Below B w w') : Rd w' B size A n xs := h.keep (Nat.le_refl _) fun b o hlt => hb.cell (p := ⟨b, o, none⟩) hlt
theorem Rd.belowH (h : Rd w w.heap.size size A n xs) (hb : Below w.heap.size w w') : Rd w' w'.heap.size size A n xs := (h.below hb).more hb.size
theorem Rd.drew (h : Rd w B size A n xs) : Rd w.drew B size A n xs := h
theorem Rd.drewN (h : Rd w B size A n xs) (k : Nat) : Rd (w.drewN k) B size A n xs := h
theorem Rd.alloc (h : Rd w B size A n xs) (hB : B ≤ w.heap.size) (o : Obj) : Rd (w.alloc o) B size A n xs :=
  h.keep (Nat.le_refl _) fun b o' hlt => World.cell?_alloc_lt w o ⟨b, o', none⟩ (by show b < _; omega)
theorem Rd.grown (h : Rd w B size A n xs) {row : Option Nat} (hg : w.grownBy w' row) (hB : B ≤ w.heap.size) (hr : ∀ k, row = some k → B ≤ k) : Rd w' B size A n xs :=
  h.keep (Nat.le_refl _) fun b o hlt => World.cell?_of_block (a := ⟨b, o, none⟩) (hg.block b (by omega) (fun e => by have := hr _ e.symm; omega))
theorem Rd.take_ (h : Rd w B size A n xs) {k : Nat} (hk : k ≤ n) : Rd w B size A k (xs.take (k * size)) := by
  refine ⟨by rw [List.length_take, h.1, Nat.min_eq_left (Nat.mul_le_mul_right _ hk)], fun hn => ?_⟩
  obtain ⟨b, o, e, hb, hc⟩ := h.2 (by omega)
  refine ⟨b, o, e, hb, fun j hj => ?_⟩
  have hj' : j < k * size ∧ j < xs.length := by rw [List.length_take] at hj; omega
  rw [List.getElem?_take, if_pos hj'.1]
  exact hc j hj'.2
theorem Rd.take1 (h : Rd w B 1 A n xs) {k : Nat} (hk : k ≤ n) : Rd w B 1 A k (xs.take k) := by
  have := h.take_ hk; rwa [Nat.mul_one] at this
theorem Rd.drop_ {b o k : Nat} (h : Rd w B size (some ⟨b, o, none⟩) n xs) : Rd w B size (some ⟨b, o + k * size, none⟩) (n - k) (xs.drop (k * size)) := by
  refine ⟨by rw [List.length_drop, h.1, Nat.sub_mul], fun hn => ?_⟩
  obtain ⟨b', o', e, hb, hc⟩ := h.2 (by omega)
  obtain ⟨rfl, rfl⟩ : b = b' ∧ o = o' := by simpa using e
  refine ⟨b, _, rfl, hb, fun j hj => ?_⟩
  rw [List.length_drop] at hj
  rw [List.getElem?_drop, Nat.add_assoc]
  exact hc _ (by omega)
theorem Rd.at1 (h : Rd w B 1 A n xs) {k : Nat} (hk : k < n) : ∃ b o, A = some ⟨b, o, none⟩ ∧ b < B ∧ ∀ j, j < n → w.cell? ⟨b, o + j, none⟩ = xs[j]? := by
  obtain ⟨b, o, e, hb, hc⟩ := h.2 (by omega)
  exact ⟨b, o, e, hb, fun j hj => hc j (by rw [h.len1]; exact hj)⟩
theorem Rd.shape (h : Rd w B size A n xs) : n = 0 ∧ xs = [] ∨ n ≠ 0 ∧ ∃ b o, A = some ⟨b, o, none⟩ := by
  rcases Nat.eq_zero_or_pos n with h0 | h0
  · left; subst h0; exact ⟨rfl, List.eq_nil_of_length_eq_zero (by simpa using h.1)⟩
  · right; obtain ⟨b, o, e, _⟩ := h.2 (by omega); exact ⟨by omega, b, o, e⟩
/-- what is owned reads -/
theorem Rd.of_own {base : Nat} {e : TypeId} {c : Nat} (h : w.ownsRow base e size (.slice A n c) n xs) : Rd w w.heap.size size A n xs := by
  refine ⟨h.1, fun hn => ?_⟩
  rcases h.2 with ⟨_, h0⟩ | ⟨g, cap, cur, hv, _, hg, _⟩
  · exact absurd h0 hn
  · obtain ⟨rfl, rfl⟩ : A = some ⟨g, 0, none⟩ ∧ c = cap := by simpa using hv
    refine ⟨g, 0, rfl, lt_of_block hg, fun j hj => ?_⟩
    rw [Nat.zero_add]
    exact h.cellAt j (by rw [← h.1]; exact hj)
end

theorem Rd.of_zero (w : World) (B size : Nat) (A : Option Addr) {n : Nat} {xs : List Value} (hn : n = 0) (hx : xs = []) : Rd w B size A n xs := by subst hn hx; exact Rd.zero w B size A
theorem Rd.drop1 {w : World} {B n b o k : Nat} {xs : List Value} (h : Rd w B 1 (some ⟨b, o, none⟩) n xs) : Rd w B 1 (some ⟨b, o + k, none⟩) (n - k) (xs.drop k) := by
  have := h.drop_ (k := k); rwa [Nat.mul_one] at this
/-- what was just laid reads: a literal's cells -/
theorem Rd.lit (w : World) (cs : Array Value) (T size n : Nat) (h : cs.size = n * size) : Rd (w.alloc (.cells cs T)) (w.heap.size + 1) size (some ⟨w.heap.size, 0, none⟩) n cs.toList := by
  refine ⟨by simpa using h, fun _ => ⟨_, _, rfl, by omega, fun j _ => ?_⟩⟩
  rw [Nat.zero_add, cell_of_row (w.alloc (.cells cs T)) w.heap.size j cs T (0, 0) (heap_alloc_new w _)]
  simp
theorem Rd.one (w : World) (v : Value) (T : Nat) : Rd (w.alloc (.cells #[v] T)) (w.heap.size + 1) 1 (some ⟨w.heap.size, 0, none⟩) 1 [v] := Rd.lit w #[v] T 1 1 rfl

/-! ### Rows of the call's own -/

theorem own_slice {w : World} {base e size n : Nat} {v : Value} {xs : List Value} (h : w.ownsRow base e size v n xs) : ∃ A c, v = .slice A n c := by
  rcases h.2 with ⟨rfl, rfl⟩ | ⟨g, cap, cur, rfl, _⟩
  · exact ⟨_, _, rfl⟩
  · exact ⟨_, _, rfl⟩

theorem own_cap {w : World} {base e size n c : Nat} {A : Option Addr} {xs : List Value} (h : w.ownsRow base e size (.slice A n c) n xs) : n ≤ c ∧ c ≤ 9223372036854775807 := by
  rcases h.2 with ⟨e1, h0⟩ | ⟨g, cap, cur, hv, _, _, h1, h2, _⟩
  · obtain ⟨rfl, rfl, rfl⟩ : A = none ∧ n = 0 ∧ c = 0 := by simpa using e1
    omega
  · obtain ⟨rfl, rfl⟩ : A = some ⟨g, 0, none⟩ ∧ c = cap := by simpa using hv
    unfold maxLen at h2
    omega

/-- An element type, and the slices of it. -/
structure SlT (P : Program) (t e : TypeId) (z : Value) (size bytes : Nat) : Prop where
  ht : P.underlying t = some (.slice e)
  hi : (P.info? e).map (fun i => (i.zero, i.size, i.bytes)) = some (some z, size, bytes)
  hz : z.cells.size = size
  hs : 0 < size

section
variable {P : Program} {t e : TypeId} {z : Value} {size bytes : Nat}
theorem SlT.parts (T : SlT P t e z size bytes) : ∃ i, P.info? e = some i ∧ i.zero = some z ∧ i.size = size ∧ i.bytes = bytes := info_parts T.hi

theorem run_app_nil (w : World) (T : SlT P t e z size bytes) (ty : TypeId) {base : Nat} {v : Value} {n : Nat} {xs : List Value} (hown : w.ownsRow base e size v n xs) (c : Nat) :
    (Builtin.append_ #[t, t] ty #[v, .slice none 0 c]).run P w = .ok v w := by
  obtain ⟨i, hi, _, hsz, _⟩ := T.parts
  rcases hown.2 with ⟨rfl, rfl⟩ | ⟨g, cap, cur, rfl, _, _, hnc, _⟩
  · simp [Builtin.append_, run_underlying T.ht, sizeOf, typeInfo, hi, Builtin.lenOf, Builtin.firstCells]
  · simp [Builtin.append_, run_underlying T.ht, sizeOf, typeInfo, hi, Builtin.lenOf, Builtin.firstCells, hnc, storeCells]

/-- where a cut from k on begins -/
def cutA (A : Option Addr) (cap k size : Nat) : Option Addr := if cap = k then A else A.map (·.add (k * size))
theorem Rd.cut {w : World} {B size n cap k : Nat} {A : Option Addr} {xs : List Value} (h : Rd w B size A n xs) (hk : k ≤ n) (hc : n ≤ cap) : Rd w B size (cutA A cap k size) (n - k) (xs.drop (k * size)) := by
  rcases h.shape with ⟨rfl, rfl⟩ | ⟨hn, b, o, rfl⟩
  · exact Rd.of_zero _ _ _ _ (by omega) (by simp)
  · by_cases e : n = k
    · exact Rd.of_zero _ _ _ _ (by omega) (by rw [List.drop_of_length_le]; rw [h.1, e]; exact Nat.le_refl _)
    · have : cutA (some ⟨b, o, none⟩) cap k size = some ⟨b, o + k * size, none⟩ := by
        unfold cutA
        rw [if_neg (by omega)]
        simp only [Option.map_some, Addr.add]
        split <;> simp_all
      rw [this]
      exact h.drop_
theorem Rd.cut1 {w : World} {B n cap k : Nat} {A : Option Addr} {xs : List Value} (h : Rd w B 1 A n xs) (hk : k ≤ n) (hc : n ≤ cap) : Rd w B 1 (cutA A cap k 1) (n - k) (xs.drop k) := by
  have := h.cut hk hc; rwa [Nat.mul_one] at this
theorem SlT.run_size (T : SlT P t e z size bytes) (w : World) : (sizeOf e).run P w = .ok size w := by
  obtain ⟨i, hi, _, hsz, _⟩ := T.parts
  simp [sizeOf, typeInfo, hi, hsz]
theorem SlT.elem (T : SlT P t e z size bytes) : P.underlying t = some (.slice (P.elem t)) ∧ P.elem t = e := by
  have := T.ht
  constructor
  · simp [Program.elem, this]
  · simp [Program.elem, this]
/-- 's[k:]' -/
theorem run_cut_l (T : SlT P t e z size bytes) (w : World) (A : Option Addr) (n c k : Nat) (kk : Int) (ek : kk = k) (hk : k ≤ n) :
    (Instr.slice t (.slice A n c) (some (.int .i64 kk)) none none).run P w = .ok (.slice (cutA A c k size) (n - k) (c - k)) w := by
  subst ek
  rw [run_slice_l w t A n c T.elem.1 .i64 k (by omega) (by omega), T.elem.2, T.run_size w]
  simp [Result.andThen, sliced, cutA]
/-- 's[k:h]' -/
theorem run_cut_lh (T : SlT P t e z size bytes) (w : World) (A : Option Addr) (n c k h : Nat) (kk hh : Int) (ek : kk = k) (eh : hh = h) (hk : k ≤ h) (hc : h ≤ c) :
    (Instr.slice t (.slice A n c) (some (.int .i64 kk)) (some (.int .i64 hh)) none).run P w = .ok (.slice (cutA A c k size) (h - k) (c - k)) w := by
  subst ek eh
  rw [run_slice_lh w t A n c T.elem.1 .i64 .i64 k h (by omega) (by omega) (by omega), T.elem.2, T.run_size w]
  simp [Result.andThen, sliced, cutA]
/-- append onto a row of one's own: it lies where it lay, or nothing that was there has changed. -/
theorem run_app_ad (w : World) (T : SlT P t e z size bytes) (ty : TypeId) {base : Nat} {v : Value} {n : Nat} {xs : List Value} (hown : w.ownsRow base e size v n xs)
    {ad : Addr} {m c : Nat} {news : List Value} (hl : news.length = m * size) (hnews : ∀ j u, news[j]? = some u → w.cell? (ad.add j) = some u) (h1 : ∀ u ∈ news, u.oneCell' = true)
    (hb : (n + m) * bytes ≤ 140737488355328) (hlen : n + m ≤ 140737488355328) (hbase : base ≤ w.heap.size) :
    ∃ v' w', (Builtin.append_ #[t, t] ty #[v, .slice (some ad) m c]).run P w = .ok v' w' ∧ w'.ownsRow base e size v' (n + m) (xs ++ news) ∧ w.grownBy w' v.ownBlock ∧
      (v'.ownBlock = v.ownBlock ∨ v'.ownBlock = some w.heap.size) ∧ (v'.ownBlock = v.ownBlock ∨ w.grownBy w' none) := by
  obtain ⟨i, hi, hz, hsz, hby⟩ := T.parts
  have h63 : n + m ≤ maxLen := by unfold maxLen; omega
  obtain ⟨v', w', hrun, h2, h3, _, h5⟩ := run_append_own_at (P := P) w base t ty e i z size bytes T.ht hi hz hsz hby T.hz T.hs v n xs hown ad m c news hl hnews h1 h63 hb hbase
  refine ⟨v', w', hrun, h2, h3, h5, ?_⟩
  rcases h5 with h5 | h5
  · exact .inl h5
  · right
    rcases hown.2 with ⟨rfl, rfl⟩ | ⟨g, cap, cur, rfl, hbg, hg, hnc, hcm, hcs, htake⟩
    · exact h3
    · by_cases hroom : n + m ≤ cap
      · have hfit : n * i.size + news.length ≤ cur.size := by rw [hl, hcs, hsz, ← Nat.add_mul]; exact Nat.mul_le_mul_right _ hroom
        have hr := run_append_room (P := P) w t ty e i T.ht hi g n cap cur hg ad m c news (by rw [hl, hsz]) hnews h1 hroom hfit
        rw [hrun] at hr
        injection hr with hr1 hr2
        subst hr1
        have := lt_of_block hg
        simp [Value.ownBlock] at h5
        omega
      · have holds : ∀ j u, xs[j]? = some u → w.cell? ((⟨g, 0, none⟩ : Addr).add j) = some u := hown.cells (g := g) rfl
        have hr := run_append_grow (P := P) w t ty e i z T.ht hi hz ⟨g, 0, none⟩ n cap xs (by rw [hsz]; exact hown.1) holds ad m c news (by rw [hl, hsz]) hnews (by omega) (by omega) (growslice_fits (by omega) (by rw [hby]; exact hb))
        rw [hrun] at hr
        injection hr with hr1 hr2
        subst hr2
        exact ⟨rfl, rfl, rfl, by simp, fun k hk _ => Go.heap_alloc_old w.drew _ hk⟩

/-- What append leaves: the new row, and all else as it was, the old slice too. -/
structure Appd (w w' : World) (base e size : Nat) (v v' : Value) (n k : Nat) (xs news : List Value) : Prop where
  own : w'.ownsRow base e size v' k (xs ++ news)
  grown : w.grownBy w' v.ownBlock
  loc : v'.ownBlock = v.ownBlock ∨ v'.ownBlock = some w.heap.size
  old : ∀ A c, v = .slice A n c → Rd w' w'.heap.size size A n xs

/-- append onto a row of one's own, of whatever reads. -/
theorem run_app (w : World) (T : SlT P t e z size bytes) (ty : TypeId) {base : Nat} {v : Value} {n : Nat} {xs : List Value} (hown : w.ownsRow base e size v n xs)
    {B : Nat} {A : Option Addr} {m c : Nat} {news : List Value} (hr : Rd w B size A m news) (h1 : ∀ u ∈ news, u.oneCell' = true)
    (hb : (n + m) * bytes ≤ 140737488355328) (hl : n + m ≤ 140737488355328) (hbase : base ≤ w.heap.size) :
    ∃ A' c' w', (Builtin.append_ #[t, t] ty #[v, .slice A m c]).run P w = .ok (.slice A' (n + m) c') w' ∧ Appd w w' base e size v (.slice A' (n + m) c') n (n + m) xs news := by
  have key : ∀ (ad : Addr), A = some ad → (∀ j u, news[j]? = some u → w.cell? (ad.add j) = some u) →
      ∃ v' w', (Builtin.append_ #[t, t] ty #[v, .slice A m c]).run P w = .ok v' w' ∧ w'.ownsRow base e size v' (n + m) (xs ++ news) ∧ w.grownBy w' v.ownBlock ∧ (v'.ownBlock = v.ownBlock ∨ v'.ownBlock = some w.heap.size) ∧ (v'.ownBlock = v.ownBlock ∨ w.grownBy w' none) := by
    rintro ad rfl hc
    exact run_app_ad w T ty hown hr.1 hc h1 hb hl hbase
  have all : ∃ v' w', (Builtin.append_ #[t, t] ty #[v, .slice A m c]).run P w = .ok v' w' ∧ w'.ownsRow base e size v' (n + m) (xs ++ news) ∧ w.grownBy w' v.ownBlock ∧ (v'.ownBlock = v.ownBlock ∨ v'.ownBlock = some w.heap.size) ∧ (v'.ownBlock = v.ownBlock ∨ w.grownBy w' none) := by
    rcases hr.shape with ⟨rfl, rfl⟩ | ⟨hm, b, o, rfl⟩
    · rcases A with _ | ad
      · exact ⟨v, w, run_app_nil w T ty hown c, by simpa using hown, World.grownBy.refl w _, .inl rfl, .inl rfl⟩
      · exact key ad rfl (by simp)
    · obtain ⟨b', o', e', _, hc⟩ := hr.2 hm
      obtain ⟨rfl, rfl⟩ : b = b' ∧ o = o' := by simpa using e'
      refine key _ rfl fun j u hu => ?_
      have hj : j < news.length := by
        rcases Nat.lt_or_ge j news.length with h | h
        · exact h
        · rw [List.getElem?_eq_none h] at hu; cases hu
      have hadd : (⟨b, o, none⟩ : Addr).add j = ⟨b, o + j, none⟩ := by unfold Addr.add; split <;> simp_all
      rw [hadd, hc j hj, hu]
  obtain ⟨v', w', hrun, h2, h3, h4, h5⟩ := all
  obtain ⟨A', c', rfl⟩ := own_slice h2
  refine ⟨A', c', w', hrun, h2, h3, h4, ?_⟩
  rintro A0 c0 rfl
  have hold : Rd w w.heap.size size A0 n xs := Rd.of_own hown
  rcases h5 with h5 | h5
  · rcases hold.shape with ⟨rfl, rfl⟩ | ⟨hn, b, o, rfl⟩
    · exact Rd.zero _ _ _ _
    · rcases hown.2 with ⟨_, h0⟩ | ⟨g, cap, cur, hv, _, hg, _⟩
      · exact absurd h0 hn
      · obtain ⟨⟨rfl, rfl⟩, rfl⟩ : (b = g ∧ o = 0) ∧ c0 = cap := by simpa using hv
        have hnew := Rd.of_own h2
        have hA : A' = some ⟨b, 0, none⟩ := by
          rcases h2.2 with ⟨_, h0⟩ | ⟨g', cap', cur', hv', _⟩
          · omega
          · obtain ⟨rfl, rfl⟩ : A' = some ⟨g', 0, none⟩ ∧ c' = cap' := by simpa using hv'
            simp [Value.ownBlock] at h5
            rw [h5]
        subst hA
        have := hnew.take_ (k := n) (by omega)
        rwa [List.take_left' hown.1] at this
  · exact (hold.grown h5 (Nat.le_refl _) (by simp)).more h5.size

theorem wp_app {o : Oper} {a : Act} {w : World} {K : Act → World → Prop} {Q : Exit → Act → World → Prop} (T : SlT P t e z size bytes) (s x : Operand)
    (ho : o.op = .call { callee := .builtin .append, args := #[s, x], argTypes := #[t, t] })
    (base : Nat) {v : Value} {n : Nat} {xs : List Value} (hs : a.eval s = v) (hown : w.ownsRow base e size v n xs)
    {B : Nat} {A : Option Addr} {m c : Nat} {news : List Value} (hx : a.eval x = .slice A m c) (hr : Rd w B size A m news) (h1 : ∀ u ∈ news, u.oneCell' = true)
    (hb : (n + m) * bytes ≤ 140737488355328) (hl : n + m ≤ 140737488355328) (hbase : base ≤ w.heap.size)
    (h : ∀ A' c' w', Appd w w' base e size v (.slice A' (n + m) c') n (n + m) xs news → K (a.put o.dst (.slice A' (n + m) c')) w') : o.wp P a w K Q := by
  obtain ⟨A', c', w', hrun, h2⟩ := run_app w T o.type hown hr h1 hb hl hbase
  unfold Oper.wp execOp
  simp only [ho, resolve, invoke, builtin, Sem.run_bind, Sem.run_pure, Result.andThen_ok, List.map_toArray, List.map_cons, List.map_nil, hs, hx]
  rw [show (Builtin.append_ #[t, t] o.type #[v, Value.slice A m c]).run P w = _ from hrun]
  exact h A' c' w' h2

/-- At the list of a plain region's operations. -/
theorem app_law {w : World} {ops : Array Oper} {rest : List Oper} {o : Oper} {a : Act} {Q : Exit → Act → World → Prop} (T : SlT P t e z size bytes) (hgd : o.guard = none) (s x : Operand)
    (ho : o.op = .call { callee := .builtin .append, args := #[s, x], argTypes := #[t, t] })
    (base : Nat) {v : Value} {n : Nat} {xs : List Value} (hs : a.eval s = v) (hown : w.ownsRow base e size v n xs)
    {B : Nat} {A : Option Addr} {m c : Nat} {news : List Value} (hx : a.eval x = .slice A m c) (hr : Rd w B size A m news) (h1 : ∀ u ∈ news, u.oneCell' = true)
    (hb : (n + m) * bytes ≤ 140737488355328) (hl : n + m ≤ 140737488355328) (hbase : base ≤ w.heap.size)
    (h : ∀ A' c' w', Appd w w' base e size v (.slice A' (n + m) c') n (n + m) xs news → wpList P ops Q rest (a.put o.dst (.slice A' (n + m) c')) w') : wpList P ops Q (o :: rest) a w :=
  wpList_plain hgd fun _ hK => wp_app T s x ho base hs hown hx hr h1 hb hl hbase fun A' c' w' h2 => hK _ _ (h A' c' w' h2)
end

/-- What append leaves, below a bound that the row lies above. -/
theorem below_app {B : Nat} {w0 w w' : World} {base e size n : Nat} {v : Value} {xs : List Value} (h : Below B w0 w) (hown : w.ownsRow base e size v n xs) (hg : w.grownBy w' v.ownBlock) (hB : B ≤ base) (hs : base ≤ w.heap.size) :
    Below B w0 w' := h.grown hg (by omega) fun k hk => by have := (hown.lt k hk).1; omega

/-! ### Bytes -/
def U (l : List UInt8) : List Value := l.map fun x => Value.int .u8 (x.toNat : Int)
theorem U_length (l : List UInt8) : (U l).length = l.length := by simp [U]
theorem U_append (l m : List UInt8) : U (l ++ m) = U l ++ U m := by simp [U]
theorem U_one (l : List UInt8) : ∀ u ∈ U l, u.oneCell' = true := by
  intro u hu
  obtain ⟨x, _, rfl⟩ := List.mem_map.1 hu
  rfl
theorem U_get (l : List UInt8) (j : Nat) : (U l)[j]? = l[j]?.map fun x => Value.int .u8 (x.toNat : Int) := by simp [U]
theorem U_drop (l : List UInt8) (k : Nat) : (U l).drop k = U (l.drop k) := by simp [U]
theorem U_take (l : List UInt8) (k : Nat) : (U l).take k = U (l.take k) := by simp [U]

/-- a string of bytes -/
def strB (l : List UInt8) : ByteArray := ⟨l.toArray⟩
@[simp] theorem strB_toList (l : List UInt8) : (strB l).toList = l := ByteArray.toList_mk l
@[simp] theorem strB_data (l : List UInt8) : (strB l).data.toList = l := rfl
theorem strB_size (l : List UInt8) : (strB l).size = l.length := by simp [strB, ByteArray.size]
/-- 'string(b)' -/
theorem run_str {P : Program} {w : World} {B n c : Nat} {A : Option Addr} {l : List UInt8} (src dst e : TypeId) (hs : P.underlying src = some (.slice e)) (he : P.underlying e = some (.int .u8)) (hd : P.underlying dst = some .string)
    (h : Rd w B 1 A n (U l)) : (convert src dst (.slice A n c)).run P w = .ok (.string ⟨l.toArray⟩) w := by
  have hl : l.length = n := by have := h.len1; rwa [U_length] at this
  have fin : ∀ xs : List Int, xs = l.map (fun x => (x.toNat : Int)) → strOfNums xs = ⟨l.toArray⟩ := by
    rintro _ rfl
    simp only [strOfNums, List.map_map]
    congr 2
    exact (List.map_congr_left (fun x _ => by simp)).trans (List.map_id l)
  rcases h.shape with ⟨rfl, h0⟩ | ⟨hn, b, o, rfl⟩
  · have : l = [] := List.eq_nil_of_length_eq_zero hl
    subst this
    rcases A with _ | ad
    · exact run_convert_bytes_nil w src e hs he 0 c dst hd
    · rw [run_convert_bytes_string w src dst e _ 0 c hs he hd]
      have hlc : (loadCells ad 0).run P w = .ok #[] w := by
        have := run_loadCells_list (P := P) w ad [] (fun j v hj => by simp at hj)
        simpa using this
      have := run_bytesToString (P := P) w ad 0 c [] (by simpa using hlc)
      rw [this]
      rfl
  · obtain ⟨b', o', e', _, hc⟩ := h.2 hn
    obtain ⟨rfl, rfl⟩ : b = b' ∧ o = o' := by simpa using e'
    have := run_convert_bytes_arg (P := P) w src e hs he b o n c (l.map (fun x => (x.toNat : Int))) (by simpa using hl) (fun i hi => by
      rw [hc i (by rw [U_length]; omega), U_get]
      have : i < l.length := by omega
      simp [List.getElem?_eq_getElem this]) dst hd
    rw [this, fin _ rfl]

/-! ### Ints -/
def I (l : List Int) : List Value := l.map fun x => Value.int .i64 x
theorem Rd.atU {w : World} {B n : Nat} {A : Option Addr} {l : List UInt8} (h : Rd w B 1 A n (U l)) {k : Nat} (hk : k < n) :
    ∃ b o x, A = some ⟨b, o, none⟩ ∧ b < B ∧ l[k]? = some x ∧ w.cell? ⟨b, o + k, none⟩ = some (.int .u8 (x.toNat : Int)) := by
  obtain ⟨b, o, e, hb, hc⟩ := h.at1 hk
  have hl : k < l.length := by have := h.len1; rw [U_length] at this; omega
  refine ⟨b, o, l[k], e, hb, List.getElem?_eq_getElem hl, ?_⟩
  rw [hc k hk]; simp [U, List.getElem?_eq_getElem hl]
theorem take_more {α : Type} {l : List α} {k : Nat} {x : α} (h : l[k]? = some x) : l.take (k + 1) = l.take k ++ [x] := by
  rw [List.take_add_one, h]; rfl
theorem drop_more {α : Type} {l : List α} {k : Nat} {x : α} (h : l[k]? = some x) : l.drop k = x :: l.drop (k + 1) := by
  have hk : k < l.length := by
    rcases Nat.lt_or_ge k l.length with h1 | h1
    · exact h1
    · rw [List.getElem?_eq_none h1] at h; cases h
  rw [List.drop_eq_getElem_cons hk]
  rw [List.getElem?_eq_getElem hk] at h
  injection h with h; rw [h]

/-! ### What came in -/
/-- a slice of integers that came in, as the frames of the rows tell it -/
def Row (k : IntKind) (w : World) (a : Option Addr) (len cap : Nat) (zs : List Int) : Prop :=
  (a = none ∧ len = 0 ∧ cap = 0 ∧ zs = []) ∨
  ∃ x, a = some x ∧ len ≤ cap ∧ cap ≤ maxLen ∧ zs.length = cap ∧ (∀ i, i < zs.length → w.cell? (x.add i) = some (.int k (zs.getD i 0))) ∧ ∀ n ∈ zs, (Lit.int k n).wf = true
theorem lt_of_cell {w : World} {b o : Nat} {v : Value} (h : w.cell? ⟨b, o, none⟩ = some v) : b < w.heap.size := by
  rcases Nat.lt_or_ge b w.heap.size with h1 | h1
  · exact h1
  · simp [World.cell?, Array.getElem?_eq_none h1] at h
/-- the elements, as they read -/
theorem Row.rd {k : IntKind} {w : World} {a : Option Addr} {len cap : Nat} {zs : List Int} (h : Row k w a len cap zs) :
    (zs.take len).length = len ∧ Rd w w.heap.size 1 a len ((zs.take len).map (Value.int k)) ∧ ∀ n ∈ zs.take len, (Lit.int k n).wf = true := by
  rcases h with ⟨rfl, rfl, rfl, rfl⟩ | ⟨x, rfl, hl, hm, hz, hc, hw⟩
  · exact ⟨rfl, Rd.zero _ _ _ _, by simp⟩
  · have hlen : (zs.take len).length = len := by rw [List.length_take]; omega
    refine ⟨hlen, ⟨by rw [List.length_map, hlen, Nat.mul_one], fun hn => ?_⟩, fun n hn => hw n (List.mem_of_mem_take hn)⟩
    have h0 := hc 0 (by omega)
    obtain ⟨b, o, spot⟩ := x
    have hs : spot = none := by simpa [Addr.add] using World.cell?_spot h0
    subst hs
    have hadd : ∀ j, (⟨b, o, none⟩ : Addr).add j = ⟨b, o + j, none⟩ := fun j => by unfold Addr.add; split <;> simp_all
    rw [hadd] at h0
    refine ⟨b, o, rfl, lt_of_cell h0, fun j hj => ?_⟩
    have hj' : j < len := by rwa [List.length_map, hlen] at hj
    have := hc j (by omega)
    rw [hadd] at this
    rw [this]
    simp [hj', List.getD, show j < zs.length by omega]
theorem wf_bounds_u8 {n : Int} (h : (Lit.int .u8 n).wf = true) : 0 ≤ n ∧ n ≤ 255 := by
  simpa [Lit.wf, IntKind.min, IntKind.max, IntKind.signed, IntKind.bits] using h
theorem wf_bounds_u16 {n : Int} (h : (Lit.int .u16 n).wf = true) : 0 ≤ n ∧ n ≤ 65535 := by
  simpa [Lit.wf, IntKind.min, IntKind.max, IntKind.signed, IntKind.bits] using h
theorem wf_bounds_i64 {n : Int} (h : (Lit.int .i64 n).wf = true) : -9223372036854775808 ≤ n ∧ n ≤ 9223372036854775807 := by
  simpa [Lit.wf, IntKind.min, IntKind.max, IntKind.signed, IntKind.bits] using h
theorem Row.bytes {w : World} {a : Option Addr} {len cap : Nat} {zs : List Int} (h : Row .u8 w a len cap zs) : ∃ l : List UInt8, l.length = len ∧ Rd w w.heap.size 1 a len (U l) := by
  obtain ⟨h1, h2, h3⟩ := h.rd
  refine ⟨(zs.take len).map fun n => UInt8.ofNat n.toNat, by simpa using h1, ?_⟩
  have : U ((zs.take len).map fun n => UInt8.ofNat n.toNat) = (zs.take len).map (Value.int .u8) := by
    simp only [U, List.map_map]
    refine List.map_congr_left fun n hn => ?_
    have := h3 n hn
    have hb := wf_bounds_u8 this
    show Value.int .u8 (((UInt8.ofNat n.toNat).toNat : Nat) : Int) = Value.int .u8 n
    rw [UInt8.toNat_ofNat', Nat.mod_eq_of_lt (by omega), Int.toNat_of_nonneg hb.1]
  rw [this]; exact h2
/-! ### Bits -/
theorem ofInt_i64 (a : Nat) (ha : a < 9223372036854775808) : (BitVec.ofInt 64 (a : Int)).toNat = a := by
  rw [BitVec.ofInt_natCast, BitVec.toNat_ofNat]; exact Nat.mod_eq_of_lt (by omega)
theorem i64_small (a : Nat) (ha : a < 9223372036854775808) : IntKind.i64.wrap (a : Int) = a := by
  simp only [IntKind.wrap, IntKind.bits, IntKind.signed]; simp; omega
theorem i64_or (a b : Nat) (ha : a < 9223372036854775808) (hb : b < 9223372036854775808) : bits .or .i64 (a : Int) (b : Int) = ((a ||| b : Nat) : Int) := by
  have hx : a ||| b < 2 ^ 63 := Nat.or_lt_two_pow (by omega) (by omega)
  show IntKind.i64.wrap ((BitVec.ofInt 64 (a : Int) ||| BitVec.ofInt 64 (b : Int)).toNat : Int) = _
  rw [BitVec.toNat_or, ofInt_i64 a ha, ofInt_i64 b hb]
  exact i64_small _ (by omega)
end Go.Proofs.Ytbioblknhfmelaa

