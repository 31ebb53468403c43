/- Mem Words EMath EMem EMath2 ERef (merged). -/
import Derived.WalkKit
import Derived.Lib.Hide
import Derived.WalkSpells
import Derived.Maps.AppendAt
import Derived.Deep.Draws
import Derived.Laws.OwnMore
import Derived.Laws.BytesArg
import Derived.Lib.AppendStr
import Derived.WalkSmall
import Derived.Deep.RegionHeld
import Derived.Lib.SmallJoins
import Derived.Laws.Rows
import Derived.Laws.NewBlocks
import Derived.Handy
import Derived.SizedLaws
import Derived.Below
import GoSem.Op.String
import Derived.Deep.Slices
import Derived.Deep.Strs
import Derived.Deep.Fields
import Derived.ChangeArms
import Derived.DataReads
import Derived.Test.YtmbfldcmiabccaaGreatDoorChecked
import Derived.RegionTactic
import Derived.BigQuiet
import Derived.Laws.Cover1
import Derived.Deep.QuietTactic
namespace Go.Proofs.YtmbfldcmiabccaaGreatDoor
open Go.RowKit

theorem sA {α : Type _} (l : List α) (i : Nat) (a : α) : l.toArray.setIfInBounds i a = (l.set i a).toArray := List.setIfInBounds_toArray ..
theorem sB {α : Type _} {x : α} {l : List α} {a : α} : (x :: l).set 0 a = a :: l := List.set_cons_zero ..
theorem sC {α : Type _} {x : α} {l : List α} {n : Nat} {a : α} : (x :: l).set (n + 1) a = x :: l.set n a := List.set_cons_succ ..
section
variable {P : Program} {md : Region.Mode} {ops : Array Oper} {Q : Exit → Act → World → Prop} {S : World → Prop}
/-- operation i, which leaves its value in slot d whatever the world, is taken now -/
theorem tk (i d : Nat) {op : Op} {ty : TypeId} {pos : String} {af : Array Edge} {g : Option (Nat × Bool)} {v : Value} {fuel : Nat} {listed : Array Bool} {a a' : Act} {w : World}
    (hi : ops[i]? = some ⟨some d, op, ty, pos, af, g⟩) (hS : S w) (h : wpAnyH P md ops Q S fuel (listed.setIfInBounds i true) a' w)
    (hc : (Region.noSelect ops && Region.free md ops listed i && (Region.ready md ops listed).contains i) = true := by kernel_rfl)
    (hw : Region.wanted ⟨some d, op, ty, pos, af, g⟩ (yielded ops a.tmps) = true := by rfl)
    (hv : ∀ w', S w' → (execOp a.eval ⟨some d, op, ty, pos, af, g⟩).run P w' = .ok (.value v) w' := by (intro w' hSw; (try dsimp only at hSw); go_simp; all_goals (with_reducible rfl)))
    (ha : a.put (some d) v = a' := by (try simp only [Act.put, sA, sB, sC]); exact rfl)
    (hQ : ∀ c a w, Q (.panic c) (a.put (some d) v) w → Q (.panic c) a w := by exact fun _ _ _ h => h) : wpAnyH P md ops Q S (fuel + 1) listed a w := by
  simp only [Bool.and_eq_true] at hc
  subst ha
  exact wpAnyH_take (i := i) hi hc.1.1 hc.1.2 hc.2 hQ (Or.inl ⟨hw, hv⟩) hS h
/-- operation i, which its guard leaves out, is taken now -/
theorem tu (i d : Nat) {op : Op} {ty : TypeId} {pos : String} {af : Array Edge} {g : Option (Nat × Bool)} {fuel : Nat} {listed : Array Bool} {a a' : Act} {w : World}
    (hi : ops[i]? = some ⟨some d, op, ty, pos, af, g⟩) (hS : S w) (h : wpAnyH P md ops Q S fuel (listed.setIfInBounds i true) a' w)
    (hc : (Region.noSelect ops && Region.free md ops listed i && (Region.ready md ops listed).contains i) = true := by kernel_rfl)
    (hw : Region.wanted ⟨some d, op, ty, pos, af, g⟩ (yielded ops a.tmps) = false := by rfl)
    (ha : a.put (some d) undef = a' := by (try simp only [Act.put, sA, sB, sC]); exact rfl)
    (hQ : ∀ c a w, Q (.panic c) (a.put (some d) undef) w → Q (.panic c) a w := by exact fun _ _ _ h => h) : wpAnyH P md ops Q S (fuel + 1) listed a w := by
  simp only [Bool.and_eq_true] at hc
  subst ha
  exact wpAnyH_take (i := i) hi hc.1.1 hc.1.2 hc.2 hQ (Or.inr ⟨hw, rfl⟩) hS h
end
/-! ### A slice that reads as a list -/

/-- The slice with head A and n elements of 'size' cells each holds the cells xs, in a block below B. -/
def Rd (w : World) (B size : Nat) (A : Option Addr) (n : Nat) (xs : List Value) : Prop :=
  xs.length = n * size ∧ (n ≠ 0 → ∃ b o, A = some ⟨b, o, none⟩ ∧ b < B ∧ ∀ j, j < xs.length → w.cell? ⟨b, o + j, none⟩ = xs[j]?)

section
variable {w w' : World} {B B' size n : Nat} {A : Option Addr} {xs : List Value}
theorem Rd.zero (w : World) (B size : Nat) (A : Option Addr) : Rd w B size A 0 [] := ⟨by simp, fun h => absurd rfl h⟩
theorem Rd.len1 (h : Rd w B 1 A n xs) : xs.length = n := by have := h.1; omega
theorem Rd.keep (h : Rd w B size A n xs) (hB : B ≤ B') (hk : ∀ b o, b < B → w'.cell? ⟨b, o, none⟩ = w.cell? ⟨b, o, none⟩) : Rd w' B' size A n xs := by
  refine ⟨h.1, fun hn => ?_⟩
  obtain ⟨b, o, e, hb, hc⟩ := h.2 hn
  exact ⟨b, o, e, by omega, fun j hj => (hk _ _ hb).trans (hc j hj)⟩
theorem Rd.more (h : Rd w B size A n xs) (hB : B ≤ B') : Rd w B' size A n xs := h.keep hB fun _ _ _ => rfl
theorem Rd.below (h : Rd w B size A n xs) (hb : Below B w w') : Rd w' B size A n xs := h.keep (Nat.le_refl _) fun b o hlt => hb.cell (p := ⟨b, o, none⟩) hlt
theorem Rd.belowH (h : Rd w w.heap.size size A n xs) (hb : Below w.heap.size w w') : Rd w' w'.heap.size size A n xs := (h.below hb).more hb.size
theorem Rd.drew (h : Rd w B size A n xs) : Rd w.drew B size A n xs := h
theorem Rd.drewN (h : Rd w B size A n xs) (k : Nat) : Rd (w.drewN k) B size A n xs := h
theorem Rd.alloc (h : Rd w B size A n xs) (hB : B ≤ w.heap.size) (o : Obj) : Rd (w.alloc o) B size A n xs :=
  h.keep (Nat.le_refl _) fun b o' hlt => World.cell?_alloc_lt w o ⟨b, o', none⟩ (by show b < _; omega)
theorem Rd.grown (h : Rd w B size A n xs) {row : Option Nat} (hg : w.grownBy w' row) (hB : B ≤ w.heap.size) (hr : ∀ k, row = some k → B ≤ k) : Rd w' B size A n xs :=
  h.keep (Nat.le_refl _) fun b o hlt => World.cell?_of_block (a := ⟨b, o, none⟩) (hg.block b (by omega) (fun e => by have := hr _ e.symm; omega))
theorem Rd.take_ (h : Rd w B size A n xs) {k : Nat} (hk : k ≤ n) : Rd w B size A k (xs.take (k * size)) := by
  refine ⟨by rw [List.length_take, h.1, Nat.min_eq_left (Nat.mul_le_mul_right _ hk)], fun hn => ?_⟩
  obtain ⟨b, o, e, hb, hc⟩ := h.2 (by omega)
  refine ⟨b, o, e, hb, fun j hj => ?_⟩
  have hj' : j < k * size ∧ j < xs.length := by rw [List.length_take] at hj; omega
  rw [List.getElem?_take, if_pos hj'.1]
  exact hc j hj'.2
theorem Rd.take1 (h : Rd w B 1 A n xs) {k : Nat} (hk : k ≤ n) : Rd w B 1 A k (xs.take k) := by
  have := h.take_ hk; rwa [Nat.mul_one] at this
theorem Rd.drop_ {b o k : Nat} (h : Rd w B size (some ⟨b, o, none⟩) n xs) : Rd w B size (some ⟨b, o + k * size, none⟩) (n - k) (xs.drop (k * size)) := by
  refine ⟨by rw [List.length_drop, h.1, Nat.sub_mul], fun hn => ?_⟩
  obtain ⟨b', o', e, hb, hc⟩ := h.2 (by omega)
  obtain ⟨rfl, rfl⟩ : b = b' ∧ o = o' := by simpa using e
  refine ⟨b, _, rfl, hb, fun j hj => ?_⟩
  rw [List.length_drop] at hj
  rw [List.getElem?_drop, Nat.add_assoc]
  exact hc _ (by omega)
theorem Rd.at1 (h : Rd w B 1 A n xs) {k : Nat} (hk : k < n) : ∃ b o, A = some ⟨b, o, none⟩ ∧ b < B ∧ ∀ j, j < n → w.cell? ⟨b, o + j, none⟩ = xs[j]? := by
  obtain ⟨b, o, e, hb, hc⟩ := h.2 (by omega)
  exact ⟨b, o, e, hb, fun j hj => hc j (by rw [h.len1]; exact hj)⟩
theorem Rd.shape (h : Rd w B size A n xs) : n = 0 ∧ xs = [] ∨ n ≠ 0 ∧ ∃ b o, A = some ⟨b, o, none⟩ := by
  rcases Nat.eq_zero_or_pos n with h0 | h0
  · left; subst h0; exact ⟨rfl, List.eq_nil_of_length_eq_zero (by simpa using h.1)⟩
  · right; obtain ⟨b, o, e, _⟩ := h.2 (by omega); exact ⟨by omega, b, o, e⟩
/-- what is owned reads -/
theorem Rd.of_own {base : Nat} {e : TypeId} {c : Nat} (h : w.ownsRow base e size (.slice A n c) n xs) : Rd w w.heap.size size A n xs := by
  refine ⟨h.1, fun hn => ?_⟩
  rcases h.2 with ⟨_, h0⟩ | ⟨g, cap, cur, hv, _, hg, _⟩
  · exact absurd h0 hn
  · obtain ⟨rfl, rfl⟩ : A = some ⟨g, 0, none⟩ ∧ c = cap := by simpa using hv
    refine ⟨g, 0, rfl, lt_of_block hg, fun j hj => ?_⟩
    rw [Nat.zero_add]
    exact h.cellAt j (by rw [← h.1]; exact hj)
end

theorem Rd.of_zero (w : World) (B size : Nat) (A : Option Addr) {n : Nat} {xs : List Value} (hn : n = 0) (hx : xs = []) : Rd w B size A n xs := by subst hn hx; exact Rd.zero w B size A
theorem Rd.drop1 {w : World} {B n b o k : Nat} {xs : List Value} (h : Rd w B 1 (some ⟨b, o, none⟩) n xs) : Rd w B 1 (some ⟨b, o + k, none⟩) (n - k) (xs.drop k) := by
  have := h.drop_ (k := k); rwa [Nat.mul_one] at this
/-- what was just laid reads: a literal's cells -/
theorem Rd.lit (w : World) (cs : Array Value) (T size n : Nat) (h : cs.size = n * size) : Rd (w.alloc (.cells cs T)) (w.heap.size + 1) size (some ⟨w.heap.size, 0, none⟩) n cs.toList := by
  refine ⟨by simpa using h, fun _ => ⟨_, _, rfl, by omega, fun j _ => ?_⟩⟩
  rw [Nat.zero_add, cell_of_row (w.alloc (.cells cs T)) w.heap.size j cs T (0, 0) (heap_alloc_new w _)]
  simp
theorem Rd.one (w : World) (v : Value) (T : Nat) : Rd (w.alloc (.cells #[v] T)) (w.heap.size + 1) 1 (some ⟨w.heap.size, 0, none⟩) 1 [v] := Rd.lit w #[v] T 1 1 rfl

/-! ### Rows of the call's own -/

theorem own_slice {w : World} {base e size n : Nat} {v : Value} {xs : List Value} (h : w.ownsRow base e size v n xs) : ∃ A c, v = .slice A n c := by
  rcases h.2 with ⟨rfl, rfl⟩ | ⟨g, cap, cur, rfl, _⟩
  · exact ⟨_, _, rfl⟩
  · exact ⟨_, _, rfl⟩

theorem own_mono {w : World} {base base' e size n : Nat} {v : Value} {xs : List Value} (h : w.ownsRow base e size v n xs) (hb : base' ≤ base) : w.ownsRow base' e size v n xs := by
  refine ⟨h.1, ?_⟩
  rcases h.2 with h0 | ⟨g, cap, cur, hv, hbg, rest⟩
  · exact .inl h0
  · exact .inr ⟨g, cap, cur, hv, by omega, rest⟩
theorem own_cap {w : World} {base e size n c : Nat} {A : Option Addr} {xs : List Value} (h : w.ownsRow base e size (.slice A n c) n xs) : n ≤ c ∧ c ≤ 9223372036854775807 := by
  rcases h.2 with ⟨e1, h0⟩ | ⟨g, cap, cur, hv, _, _, h1, h2, _⟩
  · obtain ⟨rfl, rfl, rfl⟩ : A = none ∧ n = 0 ∧ c = 0 := by simpa using e1
    omega
  · obtain ⟨rfl, rfl⟩ : A = some ⟨g, 0, none⟩ ∧ c = cap := by simpa using hv
    unfold maxLen at h2
    omega

/-- An element type, and the slices of it. -/
structure SlT (P : Program) (t e : TypeId) (z : Value) (size bytes : Nat) : Prop where
  ht : P.underlying t = some (.slice e)
  hi : (P.info? e).map (fun i => (i.zero, i.size, i.bytes)) = some (some z, size, bytes)
  hz : z.cells.size = size
  hs : 0 < size

section
variable {P : Program} {t e : TypeId} {z : Value} {size bytes : Nat}
theorem SlT.parts (T : SlT P t e z size bytes) : ∃ i, P.info? e = some i ∧ i.zero = some z ∧ i.size = size ∧ i.bytes = bytes := info_parts T.hi

theorem run_app_nil (w : World) (T : SlT P t e z size bytes) (ty : TypeId) {base : Nat} {v : Value} {n : Nat} {xs : List Value} (hown : w.ownsRow base e size v n xs) (c : Nat) :
    (Builtin.append_ #[t, t] ty #[v, .slice none 0 c]).run P w = .ok v w := by
  obtain ⟨i, hi, _, hsz, _⟩ := T.parts
  rcases hown.2 with ⟨rfl, rfl⟩ | ⟨g, cap, cur, rfl, _, _, hnc, _⟩
  · simp [Builtin.append_, run_underlying T.ht, sizeOf, typeInfo, hi, Builtin.lenOf, Builtin.firstCells]
  · simp [Builtin.append_, run_underlying T.ht, sizeOf, typeInfo, hi, Builtin.lenOf, Builtin.firstCells, hnc, storeCells]

/-- where a cut from k on begins -/
def cutA (A : Option Addr) (cap k size : Nat) : Option Addr := if cap = k then A else A.map (·.add (k * size))
theorem Rd.cut {w : World} {B size n cap k : Nat} {A : Option Addr} {xs : List Value} (h : Rd w B size A n xs) (hk : k ≤ n) (hc : n ≤ cap) : Rd w B size (cutA A cap k size) (n - k) (xs.drop (k * size)) := by
  rcases h.shape with ⟨rfl, rfl⟩ | ⟨hn, b, o, rfl⟩
  · exact Rd.of_zero _ _ _ _ (by omega) (by simp)
  · by_cases e : n = k
    · exact Rd.of_zero _ _ _ _ (by omega) (by rw [List.drop_of_length_le]; rw [h.1, e]; exact Nat.le_refl _)
    · have : cutA (some ⟨b, o, none⟩) cap k size = some ⟨b, o + k * size, none⟩ := by
        unfold cutA
        rw [if_neg (by omega)]
        simp only [Option.map_some, Addr.add]
        split <;> simp_all
      rw [this]
      exact h.drop_
theorem Rd.cut1 {w : World} {B n cap k : Nat} {A : Option Addr} {xs : List Value} (h : Rd w B 1 A n xs) (hk : k ≤ n) (hc : n ≤ cap) : Rd w B 1 (cutA A cap k 1) (n - k) (xs.drop k) := by
  have := h.cut hk hc; rwa [Nat.mul_one] at this
theorem SlT.run_size (T : SlT P t e z size bytes) (w : World) : (sizeOf e).run P w = .ok size w := by
  obtain ⟨i, hi, _, hsz, _⟩ := T.parts
  simp [sizeOf, typeInfo, hi, hsz]
theorem SlT.elem (T : SlT P t e z size bytes) : P.underlying t = some (.slice (P.elem t)) ∧ P.elem t = e := by
  have := T.ht
  constructor
  · simp [Program.elem, this]
  · simp [Program.elem, this]
/-- 's[:k]' -/
theorem run_cut_h (T : SlT P t e z size bytes) (w : World) (A : Option Addr) (n c k : Nat) (kk : Int) (ek : kk = k) (hk : k ≤ c) :
    (Instr.slice t (.slice A n c) none (some (.int .i64 kk)) none).run P w = .ok (.slice A k c) w := by
  subst ek
  rw [run_slice_h w t A n c T.elem.1 .i64 k (by omega) (by omega), T.elem.2, T.run_size w]
  have h0 : ∀ x : Addr, x.add 0 = x := fun x => by simp [Addr.add]
  simp [Result.andThen, sliced, h0]
/-- 's[k:h:m]' -/
theorem run_cut_lhm (T : SlT P t e z size bytes) (w : World) (A : Option Addr) (n c k h m : Nat) (kk hh mm : Int) (ek : kk = k) (eh : hh = h) (em : mm = m) (hk : k ≤ h) (hm : h ≤ m) (hc : m ≤ c) :
    (Instr.slice t (.slice A n c) (some (.int .i64 kk)) (some (.int .i64 hh)) (some (.int .i64 mm))).run P w = .ok (.slice (cutA A m k size) (h - k) (m - k)) w := by
  subst ek eh em
  rw [run_slice_lhm w t A n c T.elem.1 .i64 .i64 .i64 k h m (by omega) (by omega) (by omega) (by omega), T.elem.2, T.run_size w]
  simp [Result.andThen, sliced, cutA]

/-- append onto a row of one's own: it lies where it lay, or nothing that was there has changed. -/
theorem run_app_ad (w : World) (T : SlT P t e z size bytes) (ty : TypeId) {base : Nat} {v : Value} {n : Nat} {xs : List Value} (hown : w.ownsRow base e size v n xs)
    {ad : Addr} {m c : Nat} {news : List Value} (hl : news.length = m * size) (hnews : ∀ j u, news[j]? = some u → w.cell? (ad.add j) = some u) (h1 : ∀ u ∈ news, u.oneCell' = true)
    (hb : (n + m) * bytes ≤ 140737488355328) (hlen : n + m ≤ 140737488355328) (hbase : base ≤ w.heap.size) :
    ∃ v' w', (Builtin.append_ #[t, t] ty #[v, .slice (some ad) m c]).run P w = .ok v' w' ∧ w'.ownsRow base e size v' (n + m) (xs ++ news) ∧ w.grownBy w' v.ownBlock ∧
      (v'.ownBlock = v.ownBlock ∨ v'.ownBlock = some w.heap.size) ∧ (v'.ownBlock = v.ownBlock ∨ w.grownBy w' none) := by
  obtain ⟨i, hi, hz, hsz, hby⟩ := T.parts
  have h63 : n + m ≤ maxLen := by unfold maxLen; omega
  obtain ⟨v', w', hrun, h2, h3, _, h5⟩ := run_append_own_at (P := P) w base t ty e i z size bytes T.ht hi hz hsz hby T.hz T.hs v n xs hown ad m c news hl hnews h1 h63 hb hbase
  refine ⟨v', w', hrun, h2, h3, h5, ?_⟩
  rcases h5 with h5 | h5
  · exact .inl h5
  · right
    rcases hown.2 with ⟨rfl, rfl⟩ | ⟨g, cap, cur, rfl, hbg, hg, hnc, hcm, hcs, htake⟩
    · exact h3
    · by_cases hroom : n + m ≤ cap
      · have hfit : n * i.size + news.length ≤ cur.size := by rw [hl, hcs, hsz, ← Nat.add_mul]; exact Nat.mul_le_mul_right _ hroom
        have hr := run_append_room (P := P) w t ty e i T.ht hi g n cap cur hg ad m c news (by rw [hl, hsz]) hnews h1 hroom hfit
        rw [hrun] at hr
        injection hr with hr1 hr2
        subst hr1
        have := lt_of_block hg
        simp [Value.ownBlock] at h5
        omega
      · have holds : ∀ j u, xs[j]? = some u → w.cell? ((⟨g, 0, none⟩ : Addr).add j) = some u := hown.cells (g := g) rfl
        have hr := run_append_grow (P := P) w t ty e i z T.ht hi hz ⟨g, 0, none⟩ n cap xs (by rw [hsz]; exact hown.1) holds ad m c news (by rw [hl, hsz]) hnews (by omega) (by omega) (growslice_fits (by omega) (by rw [hby]; exact hb))
        rw [hrun] at hr
        injection hr with hr1 hr2
        subst hr2
        exact ⟨rfl, rfl, rfl, by simp, fun k hk _ => Go.heap_alloc_old w.drew _ hk⟩

/-- What append leaves: the new row, and all else as it was, the old slice too. -/
structure Appd (w w' : World) (base e size : Nat) (v v' : Value) (n k : Nat) (xs news : List Value) : Prop where
  own : w'.ownsRow base e size v' k (xs ++ news)
  grown : w.grownBy w' v.ownBlock
  loc : v'.ownBlock = v.ownBlock ∨ v'.ownBlock = some w.heap.size
  old : ∀ A c, v = .slice A n c → Rd w' w'.heap.size size A n xs

/-- append onto a row of one's own, of whatever reads. -/
theorem run_app (w : World) (T : SlT P t e z size bytes) (ty : TypeId) {base : Nat} {v : Value} {n : Nat} {xs : List Value} (hown : w.ownsRow base e size v n xs)
    {B : Nat} {A : Option Addr} {m c : Nat} {news : List Value} (hr : Rd w B size A m news) (h1 : ∀ u ∈ news, u.oneCell' = true)
    (hb : (n + m) * bytes ≤ 140737488355328) (hl : n + m ≤ 140737488355328) (hbase : base ≤ w.heap.size) :
    ∃ A' c' w', (Builtin.append_ #[t, t] ty #[v, .slice A m c]).run P w = .ok (.slice A' (n + m) c') w' ∧ Appd w w' base e size v (.slice A' (n + m) c') n (n + m) xs news := by
  have key : ∀ (ad : Addr), A = some ad → (∀ j u, news[j]? = some u → w.cell? (ad.add j) = some u) →
      ∃ v' w', (Builtin.append_ #[t, t] ty #[v, .slice A m c]).run P w = .ok v' w' ∧ w'.ownsRow base e size v' (n + m) (xs ++ news) ∧ w.grownBy w' v.ownBlock ∧ (v'.ownBlock = v.ownBlock ∨ v'.ownBlock = some w.heap.size) ∧ (v'.ownBlock = v.ownBlock ∨ w.grownBy w' none) := by
    rintro ad rfl hc
    exact run_app_ad w T ty hown hr.1 hc h1 hb hl hbase
  have all : ∃ v' w', (Builtin.append_ #[t, t] ty #[v, .slice A m c]).run P w = .ok v' w' ∧ w'.ownsRow base e size v' (n + m) (xs ++ news) ∧ w.grownBy w' v.ownBlock ∧ (v'.ownBlock = v.ownBlock ∨ v'.ownBlock = some w.heap.size) ∧ (v'.ownBlock = v.ownBlock ∨ w.grownBy w' none) := by
    rcases hr.shape with ⟨rfl, rfl⟩ | ⟨hm, b, o, rfl⟩
    · rcases A with _ | ad
      · exact ⟨v, w, run_app_nil w T ty hown c, by simpa using hown, World.grownBy.refl w _, .inl rfl, .inl rfl⟩
      · exact key ad rfl (by simp)
    · obtain ⟨b', o', e', _, hc⟩ := hr.2 hm
      obtain ⟨rfl, rfl⟩ : b = b' ∧ o = o' := by simpa using e'
      refine key _ rfl fun j u hu => ?_
      have hj : j < news.length := by
        rcases Nat.lt_or_ge j news.length with h | h
        · exact h
        · rw [List.getElem?_eq_none h] at hu; cases hu
      have hadd : (⟨b, o, none⟩ : Addr).add j = ⟨b, o + j, none⟩ := by unfold Addr.add; split <;> simp_all
      rw [hadd, hc j hj, hu]
  obtain ⟨v', w', hrun, h2, h3, h4, h5⟩ := all
  obtain ⟨A', c', rfl⟩ := own_slice h2
  refine ⟨A', c', w', hrun, h2, h3, h4, ?_⟩
  rintro A0 c0 rfl
  have hold : Rd w w.heap.size size A0 n xs := Rd.of_own hown
  rcases h5 with h5 | h5
  · rcases hold.shape with ⟨rfl, rfl⟩ | ⟨hn, b, o, rfl⟩
    · exact Rd.zero _ _ _ _
    · rcases hown.2 with ⟨_, h0⟩ | ⟨g, cap, cur, hv, _, hg, _⟩
      · exact absurd h0 hn
      · obtain ⟨⟨rfl, rfl⟩, rfl⟩ : (b = g ∧ o = 0) ∧ c0 = cap := by simpa using hv
        have hnew := Rd.of_own h2
        have hA : A' = some ⟨b, 0, none⟩ := by
          rcases h2.2 with ⟨_, h0⟩ | ⟨g', cap', cur', hv', _⟩
          · omega
          · obtain ⟨rfl, rfl⟩ : A' = some ⟨g', 0, none⟩ ∧ c' = cap' := by simpa using hv'
            simp [Value.ownBlock] at h5
            rw [h5]
        subst hA
        have := hnew.take_ (k := n) (by omega)
        rwa [List.take_left' hown.1] at this
  · exact (hold.grown h5 (Nat.le_refl _) (by simp)).more h5.size

theorem wp_app {o : Oper} {a : Act} {w : World} {K : Act → World → Prop} {Q : Exit → Act → World → Prop} (T : SlT P t e z size bytes) (s x : Operand)
    (ho : o.op = .call { callee := .builtin .append, args := #[s, x], argTypes := #[t, t] })
    (base : Nat) {v : Value} {n : Nat} {xs : List Value} (hs : a.eval s = v) (hown : w.ownsRow base e size v n xs)
    {B : Nat} {A : Option Addr} {m c : Nat} {news : List Value} (hx : a.eval x = .slice A m c) (hr : Rd w B size A m news) (h1 : ∀ u ∈ news, u.oneCell' = true)
    (hb : (n + m) * bytes ≤ 140737488355328) (hl : n + m ≤ 140737488355328) (hbase : base ≤ w.heap.size)
    (h : ∀ A' c' w', Appd w w' base e size v (.slice A' (n + m) c') n (n + m) xs news → K (a.put o.dst (.slice A' (n + m) c')) w') : o.wp P a w K Q := by
  obtain ⟨A', c', w', hrun, h2⟩ := run_app w T o.type hown hr h1 hb hl hbase
  unfold Oper.wp execOp
  simp only [ho, resolve, invoke, builtin, Sem.run_bind, Sem.run_pure, Result.andThen_ok, List.map_toArray, List.map_cons, List.map_nil, hs, hx]
  rw [show (Builtin.append_ #[t, t] o.type #[v, Value.slice A m c]).run P w = _ from hrun]
  exact h A' c' w' h2

/-- At a step of a region that draws its order. -/
theorem step_app_law {ops : Array Oper} {o : Oper} {a : Act} {w : World} {K : Act → World → Prop} {Q : Exit → Act → World → Prop} {E : Prop} (T : SlT P t e z size bytes) (hgd : o.guard = none) (s x : Operand)
    (ho : o.op = .call { callee := .builtin .append, args := #[s, x], argTypes := #[t, t] })
    (base : Nat) {v : Value} {n : Nat} {xs : List Value} (hs : a.eval s = v) (hown : w.ownsRow base e size v n xs)
    {B : Nat} {A : Option Addr} {m c : Nat} {news : List Value} (hx : a.eval x = .slice A m c) (hr : Rd w B size A m news) (h1 : ∀ u ∈ news, u.oneCell' = true)
    (hb : (n + m) * bytes ≤ 140737488355328) (hl : n + m ≤ 140737488355328) (hbase : base ≤ w.heap.size)
    (h : ∀ A' c' w', Appd w w' base e size v (.slice A' (n + m) c') n (n + m) xs news → K (a.put o.dst (.slice A' (n + m) c')) w') :
    if Region.wanted o (yielded ops a.tmps) = true then Oper.wp P o a w K Q else E := by
  have hw : Region.wanted o (yielded ops a.tmps) = true := by simp [Region.wanted, hgd]
  rw [if_pos hw]
  exact wp_app T s x ho base hs hown hx hr h1 hb hl hbase h

/-- At the list of a plain region's operations. -/
theorem app_law {w : World} {ops : Array Oper} {rest : List Oper} {o : Oper} {a : Act} {Q : Exit → Act → World → Prop} (T : SlT P t e z size bytes) (hgd : o.guard = none) (s x : Operand)
    (ho : o.op = .call { callee := .builtin .append, args := #[s, x], argTypes := #[t, t] })
    (base : Nat) {v : Value} {n : Nat} {xs : List Value} (hs : a.eval s = v) (hown : w.ownsRow base e size v n xs)
    {B : Nat} {A : Option Addr} {m c : Nat} {news : List Value} (hx : a.eval x = .slice A m c) (hr : Rd w B size A m news) (h1 : ∀ u ∈ news, u.oneCell' = true)
    (hb : (n + m) * bytes ≤ 140737488355328) (hl : n + m ≤ 140737488355328) (hbase : base ≤ w.heap.size)
    (h : ∀ A' c' w', Appd w w' base e size v (.slice A' (n + m) c') n (n + m) xs news → wpList P ops Q rest (a.put o.dst (.slice A' (n + m) c')) w') : wpList P ops Q (o :: rest) a w :=
  wpList_plain hgd fun _ hK => wp_app T s x ho base hs hown hx hr h1 hb hl hbase fun A' c' w' h2 => hK _ _ (h A' c' w' h2)
end

/-- append onto what is empty -/
theorem app_law0 {P : Program} {t e : TypeId} {z : Value} {size bytes : Nat} {w : World} {ops : Array Oper} {rest : List Oper} {o : Oper} {a : Act} {Q : Exit → Act → World → Prop} (T : SlT P t e z size bytes) (hgd : o.guard = none) (s x : Operand)
    (ho : o.op = .call { callee := .builtin .append, args := #[s, x], argTypes := #[t, t] })
    (base : Nat) {v : Value} (hs : a.eval s = v) (hown : w.ownsRow base e size v 0 [])
    {B : Nat} {A : Option Addr} {m c : Nat} {news : List Value} (hx : a.eval x = .slice A m c) (hr : Rd w B size A m news) (h1 : ∀ u ∈ news, u.oneCell' = true)
    (hb : m * bytes ≤ 140737488355328) (hl : m ≤ 140737488355328) (hbase : base ≤ w.heap.size)
    (h : ∀ A' c' w', Appd w w' base e size v (.slice A' m c') 0 m [] news → wpList P ops Q rest (a.put o.dst (.slice A' m c')) w') : wpList P ops Q (o :: rest) a w :=
  app_law T hgd s x ho base hs hown hx hr h1 (by rw [Nat.zero_add]; exact hb) (by rw [Nat.zero_add]; exact hl) hbase (by rw [Nat.zero_add]; exact h)
/-- What append leaves, below a bound that the row lies above. -/
theorem below_app {B : Nat} {w0 w w' : World} {base e size n : Nat} {v : Value} {xs : List Value} (h : Below B w0 w) (hown : w.ownsRow base e size v n xs) (hg : w.grownBy w' v.ownBlock) (hB : B ≤ base) (hs : base ≤ w.heap.size) :
    Below B w0 w' := h.grown hg (by omega) fun k hk => by have := (hown.lt k hk).1; omega

/-! ### Bytes -/
def U (l : List UInt8) : List Value := l.map fun x => Value.int .u8 (x.toNat : Int)
theorem U_length (l : List UInt8) : (U l).length = l.length := by simp [U]
theorem U_append (l m : List UInt8) : U (l ++ m) = U l ++ U m := by simp [U]
theorem U_one (l : List UInt8) : ∀ u ∈ U l, u.oneCell' = true := by
  intro u hu
  obtain ⟨x, _, rfl⟩ := List.mem_map.1 hu
  rfl
theorem U_nat {y : Nat} (h : y < 256) : [Value.int .u8 (y : Int)] = U [UInt8.ofNat y] := by
  simp [U, Nat.mod_eq_of_lt h]
theorem one_int (k : IntKind) (y : Int) : ∀ u ∈ [Value.int k y], u.oneCell' = true := by
  intro u hu; simp at hu; subst hu; rfl
theorem U_get (l : List UInt8) (j : Nat) : (U l)[j]? = l[j]?.map fun x => Value.int .u8 (x.toNat : Int) := by simp [U]
theorem U_drop (l : List UInt8) (k : Nat) : (U l).drop k = U (l.drop k) := by simp [U]
theorem U_take (l : List UInt8) (k : Nat) : (U l).take k = U (l.take k) := by simp [U]

/-- a string of bytes -/
def strB (l : List UInt8) : ByteArray := ⟨l.toArray⟩
@[simp] theorem strB_toList (l : List UInt8) : (strB l).toList = l := ByteArray.toList_mk l
@[simp] theorem strB_data (l : List UInt8) : (strB l).data.toList = l := rfl
theorem strB_size (l : List UInt8) : (strB l).size = l.length := by simp [strB, ByteArray.size]
/-- 'string(b)' -/
theorem run_str {P : Program} {w : World} {B n c : Nat} {A : Option Addr} {l : List UInt8} (src dst e : TypeId) (hs : P.underlying src = some (.slice e)) (he : P.underlying e = some (.int .u8)) (hd : P.underlying dst = some .string)
    (h : Rd w B 1 A n (U l)) : (convert src dst (.slice A n c)).run P w = .ok (.string ⟨l.toArray⟩) w := by
  have hl : l.length = n := by have := h.len1; rwa [U_length] at this
  have fin : ∀ xs : List Int, xs = l.map (fun x => (x.toNat : Int)) → strOfNums xs = ⟨l.toArray⟩ := by
    rintro _ rfl
    simp only [strOfNums, List.map_map]
    congr 2
    exact (List.map_congr_left (fun x _ => by simp)).trans (List.map_id l)
  rcases h.shape with ⟨rfl, h0⟩ | ⟨hn, b, o, rfl⟩
  · have : l = [] := List.eq_nil_of_length_eq_zero hl
    subst this
    rcases A with _ | ad
    · exact run_convert_bytes_nil w src e hs he 0 c dst hd
    · rw [run_convert_bytes_string w src dst e _ 0 c hs he hd]
      have hlc : (loadCells ad 0).run P w = .ok #[] w := by
        have := run_loadCells_list (P := P) w ad [] (fun j v hj => by simp at hj)
        simpa using this
      have := run_bytesToString (P := P) w ad 0 c [] (by simpa using hlc)
      rw [this]
      rfl
  · obtain ⟨b', o', e', _, hc⟩ := h.2 hn
    obtain ⟨rfl, rfl⟩ : b = b' ∧ o = o' := by simpa using e'
    have := run_convert_bytes_arg (P := P) w src e hs he b o n c (l.map (fun x => (x.toNat : Int))) (by simpa using hl) (fun i hi => by
      rw [hc i (by rw [U_length]; omega), U_get]
      have : i < l.length := by omega
      simp [List.getElem?_eq_getElem this]) dst hd
    rw [this, fin _ rfl]

/-- 'append(out, s...)' of a string. -/
theorem app_str_law {P : Program} {w : World} {t e u : TypeId} {ops : Array Oper} {rest : List Oper} {o : Oper} {a : Act} {Q : Exit → Act → World → Prop} (T : SlT P t e (.int .u8 0) 1 1) (hu : P.underlying u = some .string) (hgd : o.guard = none) (sl x : Operand)
    (ho : o.op = .call { callee := .builtin .append, args := #[sl, x], argTypes := #[t, u] })
    (base : Nat) {v : Value} {n : Nat} {xs : List Value} (hs : a.eval sl = v) (hown : w.ownsRow base e 1 v n xs) {s : ByteArray} (hx : a.eval x = .string s)
    (hb : n + s.size ≤ 140737488355328) (hbase : base ≤ w.heap.size)
    (h : ∀ A' c' w', w'.ownsRow base e 1 (.slice A' (n + s.size) c') (n + s.size) (xs ++ U s.data.toList) → w.grownBy w' v.ownBlock → wpList P ops Q rest (a.put o.dst (.slice A' (n + s.size) c')) w') : wpList P ops Q (o :: rest) a w := by
  obtain ⟨i, hi, hz, hsz, hby⟩ := T.parts
  refine Lib.wpList_append_own_string w hgd sl x t u ho base e i T.ht hu hi hz hsz hby v n xs hs hown s hx (by unfold maxLen; omega) hb hbase fun v' w' h2 h3 _ => ?_
  obtain ⟨A', c', rfl⟩ := own_slice h2
  exact h A' c' w' h2 h3

/-- 'make([]T, 0, n)' -/
theorem make0_law {P : Program} {t e : TypeId} {z : Value} {size bytes : Nat} {w : World} {ops : Array Oper} {rest : List Oper} {o : Oper} {a : Act} {Q : Exit → Act → World → Prop} (T : SlT P t e z size bytes)
    (hg : o.guard = none) (l c : Operand) (hop : o.op = Op.makeSlice t l c) (base : Nat) {kl kc : IntKind} {C : Int} (hl : a.eval l = .int kl 0) (hc : a.eval c = .int kc C)
    (h0 : 0 ≤ C) (hb : bytes * C.toNat ≤ 281474976710656) (hm : C ≤ 281474976710656) (hbase : base ≤ w.heap.size)
    (h : ∀ A' c' w', w'.ownsRow base e size (.slice A' 0 c') 0 [] → w.grownBy w' none → wpList P ops Q rest (a.put o.dst (.slice A' 0 c')) w') : wpList P ops Q (o :: rest) a w := by
  obtain ⟨i, hi, hz, hsz, hby⟩ := T.parts
  exact wpList_make_own w hg l c t hop base e i z size T.ht hi hz hsz kl kc C C.toNat hl hc (by omega) (by rw [hby]; exact hb) (by unfold maxLen; omega) hbase fun w' h2 h3 => h _ _ w' h2 h3

/-! ### Ints -/
def I (l : List Int) : List Value := l.map fun x => Value.int .i64 x
theorem I_length (l : List Int) : (I l).length = l.length := by simp [I]
theorem Rd.atI {w : World} {B n : Nat} {A : Option Addr} {l : List Int} (h : Rd w B 1 A n (I l)) {k : Nat} (hk : k < n) :
    ∃ b o x, A = some ⟨b, o, none⟩ ∧ b < B ∧ l[k]? = some x ∧ w.cell? ⟨b, o + k, none⟩ = some (.int .i64 x) := by
  obtain ⟨b, o, e, hb, hc⟩ := h.at1 hk
  have hl : k < l.length := by have := h.len1; rw [I_length] at this; omega
  refine ⟨b, o, l[k], e, hb, List.getElem?_eq_getElem hl, ?_⟩
  rw [hc k hk]; simp [I, List.getElem?_eq_getElem hl]
theorem Rd.atU {w : World} {B n : Nat} {A : Option Addr} {l : List UInt8} (h : Rd w B 1 A n (U l)) {k : Nat} (hk : k < n) :
    ∃ b o x, A = some ⟨b, o, none⟩ ∧ b < B ∧ l[k]? = some x ∧ w.cell? ⟨b, o + k, none⟩ = some (.int .u8 (x.toNat : Int)) := by
  obtain ⟨b, o, e, hb, hc⟩ := h.at1 hk
  have hl : k < l.length := by have := h.len1; rw [U_length] at this; omega
  refine ⟨b, o, l[k], e, hb, List.getElem?_eq_getElem hl, ?_⟩
  rw [hc k hk]; simp [U, List.getElem?_eq_getElem hl]
theorem take_more {α : Type} {l : List α} {k : Nat} {x : α} (h : l[k]? = some x) : l.take (k + 1) = l.take k ++ [x] := by
  rw [List.take_add_one, h]; rfl
theorem drop_more {α : Type} {l : List α} {k : Nat} {x : α} (h : l[k]? = some x) : l.drop k = x :: l.drop (k + 1) := by
  have hk : k < l.length := by
    rcases Nat.lt_or_ge k l.length with h1 | h1
    · exact h1
    · rw [List.getElem?_eq_none h1] at h; cases h
  rw [List.drop_eq_getElem_cons hk]
  rw [List.getElem?_eq_getElem hk] at h
  injection h with h; rw [h]

/-! ### What came in -/
/-- a slice of integers that came in, as the frames of the rows tell it -/
def Row (k : IntKind) (w : World) (a : Option Addr) (len cap : Nat) (zs : List Int) : Prop :=
  (a = none ∧ len = 0 ∧ cap = 0 ∧ zs = []) ∨
  ∃ x, a = some x ∧ len ≤ cap ∧ cap ≤ maxLen ∧ zs.length = cap ∧ (∀ i, i < zs.length → w.cell? (x.add i) = some (.int k (zs.getD i 0))) ∧ ∀ n ∈ zs, (Lit.int k n).wf = true
theorem lt_of_cell {w : World} {b o : Nat} {v : Value} (h : w.cell? ⟨b, o, none⟩ = some v) : b < w.heap.size := by
  rcases Nat.lt_or_ge b w.heap.size with h1 | h1
  · exact h1
  · simp [World.cell?, Array.getElem?_eq_none h1] at h
theorem Row.cap_ {k : IntKind} {w : World} {a : Option Addr} {len cap : Nat} {zs : List Int} (h : Row k w a len cap zs) : len ≤ cap ∧ cap ≤ 9223372036854775807 := by
  rcases h with ⟨rfl, rfl, rfl, rfl⟩ | ⟨x, rfl, hl, hm, _⟩
  · omega
  · unfold maxLen at hm; omega
/-- the elements, as they read -/
theorem Row.rd {k : IntKind} {w : World} {a : Option Addr} {len cap : Nat} {zs : List Int} (h : Row k w a len cap zs) :
    (zs.take len).length = len ∧ Rd w w.heap.size 1 a len ((zs.take len).map (Value.int k)) ∧ ∀ n ∈ zs.take len, (Lit.int k n).wf = true := by
  rcases h with ⟨rfl, rfl, rfl, rfl⟩ | ⟨x, rfl, hl, hm, hz, hc, hw⟩
  · exact ⟨rfl, Rd.zero _ _ _ _, by simp⟩
  · have hlen : (zs.take len).length = len := by rw [List.length_take]; omega
    refine ⟨hlen, ⟨by rw [List.length_map, hlen, Nat.mul_one], fun hn => ?_⟩, fun n hn => hw n (List.mem_of_mem_take hn)⟩
    have h0 := hc 0 (by omega)
    obtain ⟨b, o, spot⟩ := x
    have hs : spot = none := by simpa [Addr.add] using World.cell?_spot h0
    subst hs
    have hadd : ∀ j, (⟨b, o, none⟩ : Addr).add j = ⟨b, o + j, none⟩ := fun j => by unfold Addr.add; split <;> simp_all
    rw [hadd] at h0
    refine ⟨b, o, rfl, lt_of_cell h0, fun j hj => ?_⟩
    have hj' : j < len := by rwa [List.length_map, hlen] at hj
    have := hc j (by omega)
    rw [hadd] at this
    rw [this]
    simp [hj', List.getD, show j < zs.length by omega]
theorem wf_bounds_u8 {n : Int} (h : (Lit.int .u8 n).wf = true) : 0 ≤ n ∧ n ≤ 255 := by
  simpa [Lit.wf, IntKind.min, IntKind.max, IntKind.signed, IntKind.bits] using h
theorem Row.bytes {w : World} {a : Option Addr} {len cap : Nat} {zs : List Int} (h : Row .u8 w a len cap zs) : ∃ l : List UInt8, l.length = len ∧ Rd w w.heap.size 1 a len (U l) := by
  obtain ⟨h1, h2, h3⟩ := h.rd
  refine ⟨(zs.take len).map fun n => UInt8.ofNat n.toNat, by simpa using h1, ?_⟩
  have : U ((zs.take len).map fun n => UInt8.ofNat n.toNat) = (zs.take len).map (Value.int .u8) := by
    simp only [U, List.map_map]
    refine List.map_congr_left fun n hn => ?_
    have := h3 n hn
    have hb := wf_bounds_u8 this
    show Value.int .u8 (((UInt8.ofNat n.toNat).toNat : Nat) : Int) = Value.int .u8 n
    rw [UInt8.toNat_ofNat', Nat.mod_eq_of_lt (by omega), Int.toNat_of_nonneg hb.1]
  rw [this]; exact h2
theorem Row.ints {w : World} {a : Option Addr} {len cap : Nat} {zs : List Int} (h : Row .i64 w a len cap zs) : ∃ l : List Int, l.length = len ∧ Rd w w.heap.size 1 a len (I l) :=
  ⟨zs.take len, h.rd.1, h.rd.2.1⟩

/-! ### Bits -/
theorem ofInt_i64 (a : Nat) (ha : a < 9223372036854775808) : (BitVec.ofInt 64 (a : Int)).toNat = a := by
  rw [BitVec.ofInt_natCast, BitVec.toNat_ofNat]; exact Nat.mod_eq_of_lt (by omega)
theorem i64_small (a : Nat) (ha : a < 9223372036854775808) : IntKind.i64.wrap (a : Int) = a := by
  simp only [IntKind.wrap, IntKind.bits, IntKind.signed]; simp; omega
theorem i64_or (a b : Nat) (ha : a < 9223372036854775808) (hb : b < 9223372036854775808) : bits .or .i64 (a : Int) (b : Int) = ((a ||| b : Nat) : Int) := by
  have hx : a ||| b < 2 ^ 63 := Nat.or_lt_two_pow (by omega) (by omega)
  show IntKind.i64.wrap ((BitVec.ofInt 64 (a : Int) ||| BitVec.ofInt 64 (b : Int)).toNat : Int) = _
  rw [BitVec.toNat_or, ofInt_i64 a ha, ofInt_i64 b hb]
  exact i64_small _ (by omega)
end Go.Proofs.YtmbfldcmiabccaaGreatDoor

namespace Go.Proofs.YtmbfldcmiabccaaGreatDoor
open Go.RowKit
theorem ret_int {k : IntKind} {a b : Int} (h : a = b) : Ending.returned (.int k a) = .returned (.int k b) := by rw [h]
theorem ret_bool {a b : Bool} (h : a = b) : Ending.returned (.bool a) = .returned (.bool b) := by rw [h]

/-- a block's cells -/
def Cells (w : World) (b : Nat) (xs : List Value) : Prop := b < w.heap.size ∧ ∀ j, j < xs.length → w.cell? ⟨b, j, none⟩ = xs[j]?
theorem Cells.new (w : World) (cs : Array Value) (T : TypeId) : Cells (w.alloc (.cells cs T)) w.heap.size cs.toList :=
  ⟨by simp, fun j _ => by rw [cell_of_row (w.alloc (.cells cs T)) w.heap.size j cs T (0, 0) (heap_alloc_new w _)]; simp⟩
theorem Cells.below {w w' : World} {b B : Nat} {xs : List Value} (h : Cells w b xs) (hb : Below B w w') (hB : b < B) : Cells w' b xs :=
  ⟨Nat.lt_of_lt_of_le h.1 hb.size, fun j hj => (hb.cell (p := ⟨b, j, none⟩) hB).trans (h.2 j hj)⟩
theorem Cells.belowH {w w' : World} {b : Nat} {xs : List Value} (h : Cells w b xs) (hb : Below w.heap.size w w') : Cells w' b xs := h.below hb h.1
theorem Cells.alloc {w : World} {b : Nat} {xs : List Value} (h : Cells w b xs) (o : Obj) : Cells (w.alloc o) b xs :=
  h.belowH ((Below.refl _ _).alloc (Nat.le_refl _) _)
theorem Cells.drew {w : World} {b : Nat} {xs : List Value} (h : Cells w b xs) : Cells w.drew b xs := h
theorem Cells.drewN {w : World} {b : Nat} {xs : List Value} (h : Cells w b xs) (q : Nat) : Cells (w.drewN q) b xs := h
theorem Cells.at {w : World} {b : Nat} {xs : List Value} (h : Cells w b xs) (j : Nat) {v : Value} (hv : xs[j]? = some v) : w.cell? ⟨b, j, none⟩ = some v := by
  rw [h.2 j (List.getElem?_eq_some_iff.1 hv).1, hv]
theorem below_set {B : Nat} {a w : World} {b o : Nat} (h : Below B a w) (hb : B ≤ b) (u : Value) : Below B a (w.setCell ⟨b, o, none⟩ u) := h.setCell (p := ⟨b, o, none⟩) hb u

/-! ### A block known whole -/
def Box (w : World) (b : Nat) (T : TypeId) (cs : Array Value) : Prop := w.heap[b]? = some (.cells cs T)
section
variable {w w' : World} {b B : Nat} {T : TypeId} {cs : Array Value}
theorem Box.new (w : World) (cs : Array Value) (T : TypeId) : Box (w.alloc (.cells cs T)) w.heap.size T cs := heap_alloc_new w _
theorem Box.lt (h : Box w b T cs) : b < w.heap.size := lt_of_block h
theorem Box.at (h : Box w b T cs) (j : Nat) {v : Value} (hv : cs[j]? = some v) : w.cell? ⟨b, j, none⟩ = some v := by
  rw [cell_of_row w b j cs T (0, 0) h, hv]
theorem Box.cold (h : Box w b T cs) (o : Nat) : w.frozen? ⟨b, o, none⟩ = false := by
  unfold World.frozen?; unfold Box at h; simp [h]
theorem Box.set (h : Box w b T cs) (j : Nat) (v : Value) : Box (w.setCell ⟨b, j, none⟩ v) b T (cs.setIfInBounds j v) := Joins.block_setCell h v
theorem Box.below (h : Box w b T cs) (hb : Below B w w') (hB : b < B) : Box w' b T cs := (hb.block b hB).trans h
theorem Box.belowH (h : Box w b T cs) (hb : Below w.heap.size w w') : Box w' b T cs := h.below hb h.lt
theorem Box.alloc (h : Box w b T cs) (o : Obj) : Box (w.alloc o) b T cs := h.belowH ((Below.refl _ _).alloc (Nat.le_refl _) _)
theorem Box.drew (h : Box w b T cs) : Box w.drew b T cs := h
theorem Box.drewN (h : Box w b T cs) (q : Nat) : Box (w.drewN q) b T cs := h
theorem Box.other (h : Box w b T cs) {b' o : Nat} (hne : b ≠ b') (v : Value) : Box (w.setCell ⟨b', o, none⟩ v) b T cs := (heap_setCell_other w ⟨b', o, none⟩ b v hne).trans h
theorem Rd.other {size n : Nat} {A : Option Addr} {xs : List Value} (h : Rd w B size A n xs) {b' o : Nat} (hne : ∀ b o, A = some ⟨b, o, none⟩ → b ≠ b') (v : Value) : Rd (w.setCell ⟨b', o, none⟩ v) B size A n xs := by
  refine ⟨h.1, fun hn => ?_⟩
  obtain ⟨b, o', e, hb, hc⟩ := h.2 hn
  refine ⟨b, o', e, hb, fun j hj => ?_⟩
  rw [World.cell?_of_block (a := ⟨b, o' + j, none⟩) (heap_setCell_other w ⟨b', o, none⟩ b v (hne _ _ e))]
  exact hc j hj
end

/-! ### What an argument weighs -/
theorem weights_le {H : Type} {P : Program} {ts : List TypeId} {ds : List (DataW H)} (hsz : (DataW.weightsEach P ts ds).all (· ≤ reachBytes) = true) {j : Nat} {t : TypeId} {d : DataW H} (ht : ts[j]? = some t) (hd : ds[j]? = some d) :
    ∀ n ∈ d.weights P t, n ≤ 140737488351232 := fun n hn => by
  have := List.all_eq_true.1 hsz n (DataW.weights_mem_each ht hd n hn)
  have h2 := of_decide_eq_true this
  unfold reachBytes at h2
  exact h2
theorem weights_all {H : Type} {P : Program} {e : TypeId} {l : List (DataW H)} {d : DataW H} (hd : d ∈ l) : ∀ n ∈ d.weights P e, n ∈ DataW.weightsAll P e l := by
  induction l with
  | nil => cases hd
  | cons x r ih =>
    intro n hn
    rw [DataW.weightsAll, List.mem_append]
    rcases List.mem_cons.1 hd with rfl | hd
    · exact Or.inl hn
    · exact Or.inr (ih hd n hn)
theorem weights_slice {H : Type} {P : Program} {t e : TypeId} {l s : List (DataW H)} (ht : P.underlying t = some (.slice e)) :
    (DataW.slice l s).weights P t = (l.length + s.length) * P.bytesOf e :: (DataW.weightsAll P e l ++ DataW.weightsAll P e s) := by
  simp [DataW.weights, ht]
theorem weights_struct {H : Type} {P : Program} {t : TypeId} {fs : Array Field} {l : List (DataW H)} (ht : P.underlying t = some (.struct fs)) :
    (DataW.agg l).weights P t = DataW.weightsEach P (fs.toList.map (·.type)) l := by
  simp [DataW.weights, ht]
end Go.Proofs.YtmbfldcmiabccaaGreatDoor

namespace Go.Proofs.YtmbfldcmiabccaaGreatDoor
set_option linter.unusedSimpArgs false

/-- an entry's parts -/
structure Ent where
  key : Int
  ver : Int
  val : List UInt8
deriving DecidableEq

namespace E

/-! ### Bytes in order -/
def lt (a b : List UInt8) : Bool := Op.bytesLess a b
/-! ### Entries in order -/
/-- above, of one key -/
def above (a b : Ent) : Bool := decide (b.ver < a.ver) || (decide (a.ver = b.ver) && lt b.val a.val)
/-! ### Tables -/
def may (x : Ent) : Prop := 0 ≤ x.key ∧ x.key < 12 ∧ 1 ≤ x.ver ∧ x.ver ≤ 1099511627776 ∧ x.val.length ≤ 200
instance (x : Ent) : Decidable (may x) := by unfold may; exact inferInstance
def rising : List Ent → Prop
  | [] => True
  | x :: r => (∀ y ∈ r, x.key < y.key) ∧ rising r
def right (l : List Ent) : Prop := (∀ x ∈ l, may x) ∧ rising l
def get (l : List Ent) (k : Int) : Option Ent := l.find? fun x => x.key == k
def put : List Ent → Ent → List Ent
  | [], x => [x]
  | y :: r, x => if y.key < x.key then y :: put r x else if y.key = x.key then x :: r else x :: y :: r
def step (l : List Ent) (y : Ent) : List Ent :=
  match get l y.key with
  | none => put l y
  | some x => if above y x then put l y else l
def join (a b : List Ent) : List Ent := b.foldl step a
def over (a b : List Ent) : Prop := join a b = a
def aboves (l : List Ent) (v : Int) : List Ent := l.filter fun x => decide (v < x.ver)
theorem get_cons (x : Ent) (r : List Ent) (k : Int) : get (x :: r) k = if x.key = k then some x else get r k := by
  unfold get
  rw [List.find?_cons]
  by_cases h : x.key = k
  · simp [h]
  · have hb : (x.key == k) = false := beq_eq_false_iff_ne.2 h
    rw [hb, if_neg h]
theorem get_low {l : List Ent} {k : Int} (h : ∀ y ∈ l, k < y.key) : get l k = none := by
  unfold get
  rw [List.find?_eq_none]
  intro y hy
  have := h y hy
  simp; omega
theorem get_of_mem {l : List Ent} (hr : rising l) {x : Ent} (hx : x ∈ l) : get l x.key = some x := by
  induction l with
  | nil => cases hx
  | cons y r ih =>
    rw [get_cons]
    rcases List.mem_cons.1 hx with rfl | hx
    · rw [if_pos rfl]
    · have := hr.1 x hx
      rw [if_neg (by omega)]
      exact ih hr.2 hx
/-! ### The lattice -/
/-! ### The greatest version -/
end E
end Go.Proofs.YtmbfldcmiabccaaGreatDoor

namespace Go.Proofs.YtmbfldcmiabccaaGreatDoor
open Go.RowKit Go.ChangeShapes Go.WideShapes Go.Joins Go.Deep

/-- an entry's cells -/
def ec (x : Ent) : List Value := [.int .i64 x.key, .int .i64 x.ver, .string (strB x.val)]
/-- a table's cells -/
def EC (l : List Ent) : List Value := l.flatMap ec
/-- an entry's value -/
def ev (x : Ent) : Value := .agg #[.int .i64 x.key, .int .i64 x.ver, .string (strB x.val)]
theorem EC_nil : EC [] = [] := rfl
theorem EC_cons (x : Ent) (l : List Ent) : EC (x :: l) = ec x ++ EC l := rfl
theorem EC_length (l : List Ent) : (EC l).length = l.length * 3 := by
  induction l with
  | nil => rfl
  | cons x r ih => rw [EC_cons, List.length_append, ih, List.length_cons]; show 3 + _ = _; omega
theorem EC_one (l : List Ent) : ∀ u ∈ EC l, u.oneCell' = true := by
  intro u hu
  obtain ⟨x, _, hx⟩ := List.mem_flatMap.1 hu
  simp [ec] at hx
  rcases hx with rfl | rfl | rfl <;> rfl
theorem EC_drop (l : List Ent) (k : Nat) : (EC l).drop (k * 3) = EC (l.drop k) := by
  induction k generalizing l with
  | zero => simp
  | succ k ih =>
    cases l with
    | nil => simp [EC_nil]
    | cons x r =>
      rw [EC_cons, List.drop_succ_cons, ← ih, show (k + 1) * 3 = 3 + k * 3 by omega, ← List.drop_drop]
      rfl
theorem EC_at {l : List Ent} {k : Nat} {x : Ent} (h : l[k]? = some x) (j : Nat) (hj : j < 3) : (EC l)[k * 3 + j]? = (ec x)[j]? := by
  have h1 : (EC l)[k * 3 + j]? = ((EC l).drop (k * 3))[j]? := by rw [List.getElem?_drop]
  rw [h1, EC_drop, drop_more h, EC_cons, List.getElem?_append_left (by show j < 3; exact hj)]
/-- an element that is read -/
theorem Rd.atE {w : World} {B n : Nat} {A : Option Addr} {l : List Ent} (h : Rd w B 3 A n (EC l)) {k : Nat} (hk : k < n) :
    ∃ b o x, A = some ⟨b, o, none⟩ ∧ b < B ∧ l[k]? = some x ∧ w.cell? ⟨b, o + k * 3, none⟩ = some (.int .i64 x.key) ∧ w.cell? ⟨b, o + k * 3 + 1, none⟩ = some (.int .i64 x.ver) ∧
      w.cell? ⟨b, o + k * 3 + 2, none⟩ = some (.string (strB x.val)) := by
  obtain ⟨b, o, e, hb, hc⟩ := h.2 (by omega)
  have hn : l.length = n := by have := h.1; rw [EC_length] at this; omega
  have hl : k < l.length := by omega
  have hx : l[k]? = some l[k] := List.getElem?_eq_getElem hl
  have key : ∀ j, j < 3 → w.cell? ⟨b, o + (k * 3 + j), none⟩ = (ec l[k])[j]? := fun j hj => by rw [hc _ (by rw [EC_length]; omega), EC_at hx j hj]
  refine ⟨b, o, l[k], e, hb, hx, ?_, ?_, ?_⟩
  · have := key 0 (by omega); rw [Nat.add_zero] at this; rw [this]; rfl
  · have := key 1 (by omega); rw [← Nat.add_assoc] at this; rw [this]; rfl
  · have := key 2 (by omega); rw [← Nat.add_assoc] at this; rw [this]; rfl
theorem Rd.lenE {w : World} {B n : Nat} {A : Option Addr} {l : List Ent} (h : Rd w B 3 A n (EC l)) : l.length = n := by
  have := h.1; rw [EC_length] at this; omega

section
variable {H : Type} {enc : TypeId × Value → H} {P : Program} {W : World} {base fuel : Nat} {spare : Nat → Bool} {held : Bool}
/-- cells that are an entry -/
theorem ent_of {t : TypeId} {f0 f1 f2 : Field} {cs : List Value} {x : DataW H × List MemPlace} (hs : P.underlying t = some (.struct #[f0, f1, f2])) (hone : oneCellFields P #[f0, f1, f2] = true) (_hC : P.cellsOf t = 3)
    (h0 : P.underlying f0.type = some (.int .i64)) (h1 : P.underlying f1.type = some (.int .i64)) (h2 : P.underlying f2.type = some .string) (hl : cs.length = 3)
    (h : DataW.trod enc P W base spare held fuel t cs = some x) : ∃ e : Ent, cs = ec e ∧ e.val.length ∈ x.1.weights P t ∧ (Lit.int .i64 e.key).wf = true ∧ (Lit.int .i64 e.ver).wf = true := by
  obtain ⟨y0, y1, y2, n, hx, _, g0, g1, g2⟩ := trod_struct3 hs h
  obtain ⟨o0, k0⟩ := hone_of hone 0 f0 rfl
  obtain ⟨o1, k1⟩ := hone_of hone 1 f1 rfl
  obtain ⟨o2, k2⟩ := hone_of hone 2 f2 rfl
  match cs, hl with
  | [c0, c1, c2], _ =>
    rw [o0, k0] at g0
    rw [o1, k1] at g1
    rw [o2, k2] at g2
    obtain ⟨k, e0, _, w0⟩ := DataW.trod_int h0 g0
    obtain ⟨v, e1, _, w1⟩ := DataW.trod_int h1 g1
    obtain ⟨s, e2, hy, hm⟩ := DataW.trod_string h2 g2
    obtain rfl : c0 = .int .i64 k := by simpa using e0
    obtain rfl : c1 = .int .i64 v := by simpa using e1
    obtain rfl : c2 = .string s := by simpa using e2
    refine ⟨⟨k, v, s.data.toList⟩, rfl, ?_, w0, w1⟩
    rw [hx]
    show _ ∈ (DataW.agg [y0.1, y1.1, y2.1]).weights P t
    rw [weights_struct hs]
    refine DataW.weights_mem_each (j := 2) (t := f2.type) (d := y2.1) rfl rfl _ ?_
    rw [hy]
    simp [DataW.weights]
/-- a slice of entries that came in -/
def TableIn (W : World) (a : Option Addr) (len cap : Nat) (l : List Ent) : Prop :=
  Rd W W.heap.size 3 a len (EC l) ∧ len ≤ cap ∧ cap ≤ 9223372036854775807 ∧ len * 32 ≤ 140737488351232 ∧ ∀ x ∈ l, x.val.length ≤ 140737488351232 ∧ (Lit.int .i64 x.key).wf = true ∧ (Lit.int .i64 x.ver).wf = true
theorem table_of {t e : TypeId} {f0 f1 f2 : Field} {v : Value} {x : DataW H × List MemPlace} (ht : P.underlying t = some (.slice e)) (hs : P.underlying e = some (.struct #[f0, f1, f2])) (hone : oneCellFields P #[f0, f1, f2] = true)
    (hC : P.cellsOf e = 3) (h0 : P.underlying f0.type = some (.int .i64)) (h1 : P.underlying f1.type = some (.int .i64)) (h2 : P.underlying f2.type = some .string) (h3b : P.bytesOf e = 32) (hw : ∀ n ∈ x.1.weights P t, n ≤ 140737488351232)
    (h : DataW.trod enc P W base spare held fuel t [v] = some x) : ∃ a len cap l, v = .slice a len cap ∧ TableIn W a len cap l := by
  rcases open_slice ht h with ⟨hcs, _⟩ | ⟨a, len, cap, m, n, D, Pl, hcs, hb, hl, hm, hmm, hx0, hi⟩
  · obtain rfl : v = .slice none 0 0 := by simpa using hcs
    exact ⟨none, 0, 0, [], rfl, Rd.zero _ _ _ _, Nat.le_refl _, by omega, by omega, by simp⟩
  · obtain rfl : v = .slice (some a) len cap := by simpa using hcs
    have hlm : len ≤ m := by rw [hmm]; split <;> omega
    rw [hC] at hi
    rw [hx0] at hw
    have hw : ∀ n ∈ (DataW.slice ((List.range len).map D) ((List.range (m - len)).map fun j => D (len + j))).weights P t, n ≤ 140737488351232 := hw
    rw [weights_slice ht, h3b] at hw
    have hlen := hw _ (List.mem_cons_self ..)
    simp only [List.length_map, List.length_range] at hlen
    have each : ∀ i, i < len → ∃ e : Ent, (∀ j, j < 3 → W.cell? ((a.add (i * 3)).add j) = (ec e)[j]?) ∧ e.val.length ≤ 140737488351232 ∧ (Lit.int .i64 e.key).wf = true ∧ (Lit.int .i64 e.ver).wf = true := by
      intro i hi2
      obtain ⟨cs, hcs, htr⟩ := hi i (by omega)
      obtain ⟨_, hcl, hat⟩ := World.cells?_some hcs
      obtain ⟨e, rfl, g1, g2, g3⟩ := ent_of hs hone hC h0 h1 h2 hcl htr
      refine ⟨e, hat, hw _ (List.mem_cons_of_mem _ (List.mem_append_left _ (weights_all (d := D i) ?_ _ g1))), g2, g3⟩
      exact List.mem_map.2 ⟨i, by simpa using hi2, rfl⟩
    clear hi
    have all : ∀ k, k ≤ len → ∃ l : List Ent, l.length = k ∧ (∀ x ∈ l, x.val.length ≤ 140737488351232 ∧ (Lit.int .i64 x.key).wf = true ∧ (Lit.int .i64 x.ver).wf = true) ∧
        ∀ i e, l[i]? = some e → ∀ j, j < 3 → W.cell? ((a.add (i * 3)).add j) = (ec e)[j]? := by
      intro k
      induction k with
      | zero => exact fun _ => ⟨[], rfl, by simp, by simp⟩
      | succ k ih =>
        intro hk
        obtain ⟨l, h3, h4, h5⟩ := ih (by omega)
        obtain ⟨e, h6, h7⟩ := each k (by omega)
        refine ⟨l ++ [e], by simp [h3], ?_, ?_⟩
        · intro x hx
          rcases List.mem_append.1 hx with hx | hx
          · exact h4 x hx
          · obtain rfl : x = e := by simpa using hx
            exact h7
        · intro i e' hie
          by_cases hik : i < k
          · rw [List.getElem?_append_left (by omega)] at hie
            exact h5 i e' hie
          · rw [List.getElem?_append_right (by omega), h3] at hie
            have hi0 : i = k := by
              have := (List.getElem?_eq_some_iff.1 hie).1
              simp at this
              omega
            subst hi0
            obtain rfl : e = e' := by simpa using hie
            exact h6
    obtain ⟨l, h3, h4, h5⟩ := all len (Nat.le_refl _)
    unfold maxLen at hm
    refine ⟨some a, len, cap, l, rfl, ⟨by rw [EC_length, h3], fun hn => ?_⟩, hl, hm, by omega, h4⟩
    obtain ⟨b, o, spot⟩ := a
    have e0 : l[0]? = some (l[0]'(by omega)) := List.getElem?_eq_getElem _
    have c0 := h5 0 _ e0 0 (by omega)
    have hspot : spot = none := by
      have : W.cell? (((⟨b, o, spot⟩ : Addr).add (0 * 3)).add 0) = some (.int .i64 (l[0]'(by omega)).key) := c0
      simpa [Addr.add] using World.cell?_spot this
    subst hspot
    have hadd : ∀ j, (⟨b, o, none⟩ : Addr).add j = ⟨b, o + j, none⟩ := fun j => by unfold Addr.add; split <;> simp_all
    have hadd2 : ∀ o' j, (⟨b, o', none⟩ : Addr).add j = ⟨b, o' + j, none⟩ := fun o' j => by unfold Addr.add; split <;> simp_all
    refine ⟨b, o, rfl, ?_, fun j hj => ?_⟩
    · rw [hadd, hadd2] at c0
      exact lt_of_cell c0
    · rw [EC_length, h3] at hj
      have hq : j / 3 < l.length := by omega
      have hx : l[j / 3]? = some (l[j / 3]'hq) := List.getElem?_eq_getElem hq
      have := h5 (j / 3) _ hx (j % 3) (Nat.mod_lt _ (by omega))
      rw [hadd, hadd2, ← EC_at hx (j % 3) (Nat.mod_lt _ (by omega)), Nat.add_assoc, show j / 3 * 3 + j % 3 = j by omega] at this
      exact this
end
end Go.Proofs.YtmbfldcmiabccaaGreatDoor

namespace Go.Proofs.YtmbfldcmiabccaaGreatDoor
namespace E

theorem rising_snoc {l : List Ent} {z : Ent} : rising (l ++ [z]) ↔ rising l ∧ ∀ y ∈ l, y.key < z.key := by
  induction l with
  | nil => simp [rising]
  | cons x r ih =>
    rw [List.cons_append, rising, rising, ih]
    constructor
    · rintro ⟨h1, h2, h3⟩
      refine ⟨⟨fun y hy => h1 y (by simp [hy]), h2⟩, fun y hy => ?_⟩
      rcases List.mem_cons.1 hy with rfl | hy
      · exact h1 z (by simp)
      · exact h3 y hy
    · rintro ⟨⟨h1, h2⟩, h3⟩
      refine ⟨fun y hy => ?_, h2, fun y hy => h3 y (by simp [hy])⟩
      rcases List.mem_append.1 hy with hy | hy
      · exact h1 y hy
      · obtain rfl : y = z := by simpa using hy
        exact h3 x (by simp)
theorem rising_at {l : List Ent} (h : rising l) {i j : Nat} {x y : Ent} (hij : i < j) (hx : l[i]? = some x) (hy : l[j]? = some y) : x.key < y.key := by
  induction l generalizing i j with
  | nil => simp at hx
  | cons z r ih =>
    cases j with
    | zero => omega
    | succ j =>
      rw [List.getElem?_cons_succ] at hy
      cases i with
      | zero =>
        obtain rfl : z = x := by simpa using hx
        exact h.1 y (List.mem_of_getElem? hy)
      | succ i =>
        rw [List.getElem?_cons_succ] at hx
        exact ih h.2 (by omega) hx hy
theorem put_at {l : List Ent} {x z : Ent} (h : ∀ y ∈ l, y.key < x.key) (r : List Ent) (hz : x.key ≤ z.key) : put (l ++ z :: r) x = l ++ (if z.key = x.key then x :: r else x :: z :: r) := by
  induction l with
  | nil =>
    simp only [List.nil_append, put]
    rw [if_neg (by omega)]
  | cons y s ih =>
    simp only [List.cons_append, put]
    rw [if_pos (h y (by simp)), ih (fun w hw => h w (by simp [hw]))]
theorem put_snoc {l : List Ent} {x z : Ent} (h : ∃ y ∈ l, x.key ≤ y.key) : put (l ++ [z]) x = put l x ++ [z] := by
  induction l with
  | nil => obtain ⟨y, hy, _⟩ := h; cases hy
  | cons w s ih =>
    simp only [List.cons_append, put]
    split
    · rename_i hlt
      rw [List.cons_append, ih]
      obtain ⟨y, hy, h2⟩ := h
      rcases List.mem_cons.1 hy with rfl | hy
      · omega
      · exact ⟨y, hy, h2⟩
    · split <;> rfl
theorem get_rising_none {l : List Ent} {k : Int} (h : ∀ y ∈ l, y.key ≠ k) : get l k = none := by
  unfold get
  rw [List.find?_eq_none]
  intro y hy
  simp [h y hy]
theorem get_at {l : List Ent} {i : Nat} {x : Ent} {k : Int} (h : l[i]? = some x) (hk : x.key = k) (hno : ∀ y ∈ l.take i, y.key ≠ k) : get l k = some x := by
  have hi : i < l.length := (List.getElem?_eq_some_iff.1 h).1
  have e : l = l.take i ++ x :: l.drop (i + 1) := by
    have h1 : l.drop i = x :: l.drop (i + 1) := by
      rw [List.drop_eq_getElem_cons hi]
      rw [List.getElem?_eq_getElem hi] at h
      injection h with h; rw [h]
    rw [← h1, List.take_append_drop]
  rw [e]
  unfold get
  rw [List.find?_append]
  have : (l.take i).find? (fun x => x.key == k) = none := by
    rw [List.find?_eq_none]
    intro y hy
    simp [hno y hy]
  rw [this]
  simp [hk]

/-- how much there is of a table -/
def sumLen (l : List Ent) : Nat := (l.map fun x => x.val.length).sum
theorem sumLen_snoc (l : List Ent) (x : Ent) : sumLen (l ++ [x]) = sumLen l + x.val.length := by simp [sumLen]
theorem sumLen_take (l : List Ent) (k : Nat) : sumLen (l.take k) ≤ sumLen l := by
  have : sumLen l = sumLen (l.take k) + sumLen (l.drop k) := by
    conv => lhs; rw [← List.take_append_drop k l]
    simp only [sumLen, List.map_append, List.sum_append]
  omega
/-- is it a greater one than is looked at? -/
def great (l : List Ent) : Bool := decide (4000 < l.length + sumLen l)
end E
end Go.Proofs.YtmbfldcmiabccaaGreatDoor

namespace Go.Proofs.YtmbfldcmiabccaaGreatDoor
set_option linter.unusedVariables false
set_option linter.unusedSimpArgs false
open Go.RowKit

theorem enT : SlT Tryz.prog 49 48 (.agg #[.int .i64 0, .int .i64 0, .string ⟨#[]⟩]) 3 32 := ⟨Tryz.underlying49, by kernel_rfl, rfl, by omega⟩
def emayB (x : Ent) : Bool := decide (E.may x)
theorem emay_no {x : Ent} (h : ¬ E.may x) : false = emayB x := (decide_eq_false h).symm
theorem emay_eq {x : Ent} {p : Prop} [Decidable p] (h : p ↔ E.may x) : decide p = emayB x := decide_eq_decide.2 h

set_option maxHeartbeats 1000000 in
theorem rmay_any (x : Ent) (w : World) :
    Calls Tryz.prog 76 #[ev x] w fun e w' => e = .returned (.bool (emayB x)) ∧ Below w.heap.size w w' := by
  obtain ⟨k, v, s⟩ := x
  simp only [ev]
  have hs : (strB s).size = s.length := strB_size s
  by_cases h1 : 0 ≤ k
  · by_cases h2 : k < 12
    · by_cases h3 : 1 ≤ v
      · by_cases h4 : v ≤ 1099511627776
        all_goals
          go_enter Tryz.func76, Tryz.ntmps76
          go_wp2
          go_ret
          exact ⟨ret_bool (by first | exact emay_no (by unfold E.may; dsimp only; omega) | exact emay_eq (by unfold E.may; dsimp only; omega)), (Below.refl _ _).alloc (Nat.le_refl _) _⟩
      · go_enter Tryz.func76, Tryz.ntmps76
        go_wp2
        go_ret
        exact ⟨ret_bool (emay_no (by unfold E.may; dsimp only; omega)), (Below.refl _ _).alloc (Nat.le_refl _) _⟩
    · go_enter Tryz.func76, Tryz.ntmps76
      go_wp2
      go_ret
      exact ⟨ret_bool (emay_no (by unfold E.may; dsimp only; omega)), (Below.refl _ _).alloc (Nat.le_refl _) _⟩
  · go_enter Tryz.func76, Tryz.ntmps76
    go_wp2
    go_ret
    exact ⟨ret_bool (emay_no (by unfold E.may; dsimp only; omega)), (Below.refl _ _).alloc (Nat.le_refl _) _⟩

/-! ### Loops that only read -/
set_option maxHeartbeats 1000000 in
theorem rgreat_any (l : List Ent) (A : Option Addr) (n c B : Nat) (w : World) (h : Rd w B 3 A n (EC l)) (hn : n ≤ 70368744177664) (hv : ∀ x ∈ l, x.val.length ≤ 140737488351232) :
    Calls Tryz.prog 75 #[.slice A n c] w fun e w' => e = .returned (.bool (E.great l)) ∧ w = w' := by
  have hl := h.lenE
  have HL := Lib.hid hl
  have HV := Lib.hid hv
  clear hl hv
  go_enter Tryz.func75, Tryz.ntmps75
  go_wp2
  go_loop [3, 4] (fun m i => ∃ k s : Nat, k ≤ n ∧ i = .int .i64 k ∧ s = n + E.sumLen (l.take k) ∧ (k = 0 ∨ s ≤ 4000 + 140737488351232) ∧ m = .int .i64 s) (fun _ i => n - (intOf i).toNat)
  case atStart => exact ⟨0, n, by omega, rfl, by simp [E.sumLen], Or.inl rfl, rfl⟩
  case round =>
    obtain ⟨k, s, hk, rfl, hs, hb, rfl⟩ := hrel
    have hs2 : s ≤ 140737488359424 + 70368744177664 := by
      rcases hb with rfl | hb
      · simp [E.sumLen] at hs; omega
      · omega
    have HS := Lib.hid hs
    clear hs hb
    by_cases hlt : k < n
    · by_cases h4 : s ≤ 4000
      · obtain ⟨b, o, x, rfl, hb, hx, c0, c1, c2⟩ := h.atE hlt
        have hxl := HV.out x (List.mem_of_getElem? hx)
        have hsz : (strB x.val).size = x.val.length := strB_size _
        have HX := Lib.hid hx
        clear hx
        go_wp2
        go_round
        case rel => exact ⟨k + 1, s + x.val.length, by omega, by go_num, by rw [take_more HX.out, E.sumLen_snoc, HS.out]; omega, Or.inr (by omega), by go_num⟩
        case measure => simp [intOf]; omega
      · have hg : E.great l = true := decide_eq_true (by have := E.sumLen_take l k; have := HS.out; have := HL.out; omega)
        go_wp2
        go_ret
        exact ⟨ret_bool (by simp only [hg]), rfl⟩
    · have hg : E.great l = decide (4000 < s) := decide_eq_decide.2 (by have := HS.out; have := HL.out; rw [List.take_of_length_le (by omega)] at *; omega)
      go_wp2
      go_ret
      exact ⟨ret_bool (decide_eq_decide.2 (by omega)), rfl⟩
end Go.Proofs.YtmbfldcmiabccaaGreatDoor

