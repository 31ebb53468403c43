/- ZMath3 OMath YRef4 OMem ORef BRef (merged). -/
import Derived.Deep.DeepCutAuto
import Derived.Test.YtmbfldcmiabccaaDoorJF01
import Derived.Test.YtmbfldcmiabccaaDoorJF04
import Derived.Test.YtmbfldcmiabccaaDoorJF05
import Derived.Test.YtmbfldcmiabccaaDoorJF07
import Derived.Test.YtmbfldcmiabccaaDoorJF08
namespace Go.Proofs.YtmbfldcmiabccaaDoor
set_option linter.unusedVariables false
set_option linter.unusedSimpArgs false
namespace Pk
theorem same_comm (a b : List UInt8) : Lab.same a b = Lab.same b a := by
  unfold Lab.same
  rw [Bool.and_comm (Lab.right a)]
  congr 1
  by_cases h : Lab.lower a = Lab.lower b
  · rw [decide_eq_true h, decide_eq_true h.symm]
  · rw [decide_eq_false h, decide_eq_false fun e => h e.symm]
theorem same_self {a : List UInt8} (h : Lab.right a = true) : Lab.same a a = true := by unfold Lab.same; rw [h]; simp
/-- are two records the same but for letters of names -/
def near (x y : Rrc) : Prop := Lab.same x.name y.name = true ∧ x.typ = y.typ ∧ x.cls = y.cls ∧ x.ttl = y.ttl ∧ x.data = y.data
def begins (l all : List Rrc) : Prop := l.length ≤ all.length ∧ ∀ (i : Nat) (x y : Rrc), l[i]? = some x → all[i]? = some y → near x y
end Pk
end Go.Proofs.YtmbfldcmiabccaaDoor

namespace Go.Proofs.YtmbfldcmiabccaaDoor
set_option linter.unusedVariables false
set_option linter.unusedSimpArgs false
/-- a scene -/
structure Scn where
  view : List Nm
  alive : List Int
  dom : List UInt8
deriving DecidableEq
namespace Zo
def counts (s : Scn) : List Int := (s.view.filter fun x => decide (x.node ∈ s.alive) && Y.up x.st.apps).map Nm.node
def ahead (dom : List UInt8) (ls : List (List UInt8)) : List UInt8 × Bool :=
  if Lab.right dom = true then ((Lab.join (ls ++ Lab.labels dom)).1, decide ((Lab.join (ls ++ Lab.labels dom)).2 = 0)) else ([], false)
def hostL (n : Int) : List UInt8 := [110, UInt8.ofNat (48 + n.toNat)]
def hostN (dom : List UInt8) (n : Int) : List UInt8 × Bool := if n < 0 ∨ 7 < n then ([], false) else ahead dom [hostL n]
def srvL (x : Svc) : List (List UInt8) := [95 :: x.name, 95 :: x.proto]
def tells (dom name : List UInt8) (x : Svc) : Bool := (ahead dom (srvL x)).2 && x.well && Lab.same (ahead dom (srvL x)).1 name
def apps (v : List Nm) (n : Int) : List Ent := match V.get v n with | some st => st.apps | none => []
def offered (s : Scn) (n : Int) (name : List UInt8) : List Svc := (Y.all (apps s.view n)).filter (tells s.dom name)
def hostIs (dom name : List UInt8) (n : Int) : Bool := (hostN dom n).2 && Lab.same (hostN dom n).1 name
def host (s : Scn) (name : List UInt8) : Int := ((counts s).find? (hostIs s.dom name)).getD (-1)
def some_ (s : Scn) (name : List UInt8) (n : Int) : Bool := !(offered s n name).isEmpty
def is (s : Scn) (name : List UInt8) : Bool := Lab.same name s.dom || decide (0 ≤ host s name) || (counts s).any (some_ s name)
def soa : List UInt8 := [0, 0, 0, 1, 0, 0, 0, 5, 0, 0, 0, 5, 0, 0, 0, 5, 0, 0, 0, 5]
def ns (dom : List UInt8) : List UInt8 × Bool := ahead dom [[110, 115]]
def root (dom : List UInt8) : List UInt8 × Bool := ahead dom [[114, 111, 111, 116]]
/-- the data of type 6 -/
def first (dom : List UInt8) : List UInt8 × Bool := ((ns dom).1 ++ (root dom).1 ++ soa, (ns dom).2 && (root dom).2)
def start (s : Scn) : Rrc × Bool := if (first s.dom).2 = true then (⟨s.dom, 6, 1, 5, (first s.dom).1⟩, true) else (⟨[], 0, 0, 0, []⟩, false)
def addr (l : List Ent) (key : Int) : List UInt8 × Bool :=
  if Y.there l key = true ∧ ((key = 1 ∧ (Y.valOf l key).length = 4) ∨ (key = 2 ∧ (Y.valOf l key).length = 16)) then (Y.valOf l key, true) else ([], false)
def srvD (dom : List UInt8) (n : Int) (x : Svc) : List UInt8 := Pk.b2 x.prio.toNat ++ Pk.b2 x.wt.toNat ++ Pk.b2 x.port.toNat ++ (hostN dom n).1
def keyOf (typ : Int) : Int := if typ = 28 then 2 else 1
def addrs (s : Scn) (name : List UInt8) (typ : Int) : List (List UInt8) :=
  if 0 ≤ host s name ∧ (addr (apps s.view (host s name)) (keyOf typ)).2 = true then [(addr (apps s.view (host s name)) (keyOf typ)).1] else []
def srvs (s : Scn) (name : List UInt8) (n : Int) : List (List UInt8) := if (hostN s.dom n).2 = true then (offered s n name).map (srvD s.dom n) else []
def datas (s : Scn) (name : List UInt8) (typ : Int) : List (List UInt8) :=
  if typ = 1 ∨ typ = 28 then addrs s name typ
  else if typ = 2 then (if Lab.same name s.dom = true ∧ (ns s.dom).2 = true then [(ns s.dom).1] else [])
  else if typ = 6 then (if Lab.same name s.dom = true ∧ (first s.dom).2 = true then [(first s.dom).1] else [])
  else if typ = 33 then (counts s).flatMap (srvs s name)
  else []
def rcd (name : List UInt8) (typ : Int) (d : List UInt8) : Rrc := ⟨name, typ, 1, 5, d⟩
def tell (s : Scn) (name : List UInt8) (typ : Int) : List Rrc := (datas s name typ).map (rcd name typ)
theorem tell_len (s : Scn) (name : List UInt8) (typ : Int) : (tell s name typ).length = (datas s name typ).length := List.length_map ..
theorem datas33 (s : Scn) (name : List UInt8) : datas s name 33 = (counts s).flatMap (srvs s name) := rfl
theorem datas1 (s : Scn) (name : List UInt8) : datas s name 1 = addrs s name 1 := rfl
theorem host_none {s : Scn} {name : List UInt8} (h : ∀ n ∈ counts s, hostIs s.dom name n = false) : host s name = -1 := by
  unfold host
  rw [List.find?_eq_none.2 fun n hn => by rw [h n hn]; simp]
  rfl
/-! ### A scene in which nobody is alive -/
theorem counts_dead (s : Scn) : counts ⟨s.view, [], s.dom⟩ = [] := by unfold counts; simp
theorem dead33 (s : Scn) (name : List UInt8) : tell ⟨s.view, [], s.dom⟩ name 33 = [] := by unfold tell; rw [datas33, counts_dead]; rfl
theorem dead1 (s : Scn) (name : List UInt8) : tell ⟨s.view, [], s.dom⟩ name 1 = [] := by
  unfold tell
  rw [datas1]
  unfold addrs
  rw [show host ⟨s.view, [], s.dom⟩ name = -1 from host_none (by rw [counts_dead]; simp)]
  rfl
theorem srv_is {s : Scn} {name : List UInt8} (h : datas s name 33 ≠ []) : is s name = true := by
  rw [datas33] at h
  obtain ⟨d, hd⟩ := List.exists_mem_of_ne_nil _ h
  obtain ⟨n, hn, hd2⟩ := List.mem_flatMap.1 hd
  have h2 : some_ s name n = true := by
    unfold srvs at hd2
    split at hd2
    · obtain ⟨x, hx, _⟩ := List.mem_map.1 hd2
      unfold some_
      cases ho : offered s n name with
      | nil => rw [ho] at hx; simp at hx
      | cons _ _ => rfl
    · simp at hd2
  unfold is
  rw [List.any_eq_true.2 ⟨n, hn, h2⟩]
  simp
/-- what is told is told of what there is -/
theorem told_is {s : Scn} {name : List UInt8} {typ : Int} (h : datas s name typ ≠ []) : is s name = true := by
  by_cases h33 : typ = 33
  · subst h33; exact srv_is h
  unfold datas at h
  split at h
  · unfold addrs at h
    split at h
    · rename_i hh
      unfold is
      rw [decide_eq_true hh.1]
      simp
    · simp at h
  · split at h
    · split at h
      · rename_i hh
        unfold is; rw [hh.1]; simp
      · simp at h
    · split at h
      · split at h
        · rename_i hh
          unfold is; rw [hh.1]; simp
        · simp at h
      · simp at h
/-! ### Without what isn't alive and up -/
def lives (s : Scn) (x : Nm) : Bool := decide (x.node ∈ s.alive) && decide (Y.valOf x.st.apps 0 = [117, 112])
def less (s : Scn) : Scn := ⟨s.view.filter (lives s), s.alive, s.dom⟩
theorem up_val (l : List Ent) : Y.up l = decide (Y.valOf l 0 = [117, 112]) := by
  unfold Y.up
  cases h : Y.there l 0 with
  | true => rfl
  | false =>
    rw [Y.val_none h]
    rfl
theorem lives_up (s : Scn) (x : Nm) : lives s x = (decide (x.node ∈ s.alive) && Y.up x.st.apps) := by unfold lives; rw [up_val]
theorem counts_less (s : Scn) : counts (less s) = counts s := by
  unfold counts less
  simp only [List.filter_filter]
  congr 1
  refine List.filter_congr fun x _ => ?_
  rw [lives_up]
  simp
theorem rising_filter {l : List Nm} (h : V.rising l) (p : Nm → Bool) : V.rising (l.filter p) := by
  induction l with
  | nil => exact h
  | cons x r ih =>
    rw [List.filter_cons]
    split
    · exact ⟨fun y hy => h.1 y (List.mem_filter.1 hy).1, ih h.2⟩
    · exact ih h.2
theorem get_less {s : Scn} (h : V.rising s.view) {n : Int} (hn : n ∈ counts s) : V.get (less s).view n = V.get s.view n := by
  unfold counts at hn
  obtain ⟨x, hx, rfl⟩ := List.mem_map.1 hn
  obtain ⟨hm, hp⟩ := List.mem_filter.1 hx
  rw [V.get_of_mem h hm]
  exact V.get_of_mem (rising_filter h _) (List.mem_filter.2 ⟨hm, by rw [lives_up]; exact hp⟩)
theorem offered_less {s : Scn} (h : V.rising s.view) {n : Int} (hn : n ∈ counts s) (name : List UInt8) : offered (less s) n name = offered s n name := by
  unfold offered apps
  rw [get_less h hn]
  rfl
theorem host_less (s : Scn) (name : List UInt8) : host (less s) name = host s name := by
  unfold host
  rw [counts_less]
  rfl
theorem flat_congr {α β : Type} {l : List α} {f g : α → List β} (h : ∀ x ∈ l, f x = g x) : l.flatMap f = l.flatMap g := by
  induction l with
  | nil => rfl
  | cons x r ih => rw [List.flatMap_cons, List.flatMap_cons, h x (by simp), ih fun y hy => h y (by simp [hy])]
theorem any_congr {α : Type} {l : List α} {f g : α → Bool} (h : ∀ x ∈ l, f x = g x) : l.any f = l.any g := by
  induction l with
  | nil => rfl
  | cons x r ih => rw [List.any_cons, List.any_cons, h x (by simp), ih fun y hy => h y (by simp [hy])]
theorem less33 {s : Scn} (h : V.rising s.view) (name : List UInt8) : tell (less s) name 33 = tell s name 33 := by
  unfold tell
  rw [datas33, datas33, counts_less]
  congr 1
  refine flat_congr fun n hn => ?_
  unfold srvs
  rw [offered_less h hn]
  rfl
theorem is_less {s : Scn} (h : V.rising s.view) (name : List UInt8) : is (less s) name = is s name := by
  unfold is
  rw [counts_less, host_less]
  congr 1
  refine any_congr fun n hn => ?_
  unfold some_
  rw [offered_less h hn]
/-! ### Letters -/
theorem same_low (a b : List UInt8) : Lab.same a (Lab.lower b) = Lab.same a b := by
  unfold Lab.same
  rw [Lab.right_lower, Lab.lower_lower]
theorem low_same (a b : List UInt8) : Lab.same (Lab.lower a) b = Lab.same a b := by
  unfold Lab.same
  rw [Lab.right_lower, Lab.lower_lower]
theorem tells_low (dom name : List UInt8) : tells dom (Lab.lower name) = tells dom name := by
  funext x
  unfold tells
  rw [same_low]
theorem hostIs_low (dom name : List UInt8) : hostIs dom (Lab.lower name) = hostIs dom name := by
  funext n
  unfold hostIs
  rw [same_low]
theorem offered_low (s : Scn) (n : Int) (name : List UInt8) : offered s n (Lab.lower name) = offered s n name := by unfold offered; rw [tells_low]
theorem host_low (s : Scn) (name : List UInt8) : host s (Lab.lower name) = host s name := by unfold host; rw [hostIs_low]
theorem datas_low (s : Scn) (name : List UInt8) (typ : Int) : datas s (Lab.lower name) typ = datas s name typ := by
  have h : srvs s (Lab.lower name) = srvs s name := by funext n; unfold srvs; rw [offered_low]
  unfold datas addrs
  rw [host_low, low_same, h]
theorem is_low (s : Scn) (name : List UInt8) : is s (Lab.lower name) = is s name := by
  have h : some_ s (Lab.lower name) = some_ s name := by funext n; unfold some_; rw [offered_low]
  unfold is
  rw [low_same, host_low, h]
/-! ### Hosts -/
theorem ahead_yes {dom : List UInt8} {ls : List (List UInt8)} (h : (ahead dom ls).2 = true) : ∃ l, Lab.ok l ∧ Lab.names l = dom ∧ Lab.ok (ls ++ l) ∧ (ahead dom ls).1 = Lab.names (ls ++ l) := by
  unfold ahead at h ⊢
  split at h
  · rename_i hr
    rw [if_pos hr]
    obtain ⟨l, hl, rfl⟩ := Lab.right_iff.1 hr
    rw [Lab.labels_names hl] at h ⊢
    obtain ⟨h1, h2⟩ := Lab.join_once (of_decide_eq_true h)
    exact ⟨l, hl, rfl, h1, h2⟩
  · cases h
theorem hostN_yes {dom : List UInt8} {n : Int} (h : (hostN dom n).2 = true) : 0 ≤ n ∧ n ≤ 7 ∧ ∃ l, Lab.ok l ∧ Lab.names l = dom ∧ Lab.ok (hostL n :: l) ∧ (hostN dom n).1 = Lab.names (hostL n :: l) := by
  unfold hostN at h ⊢
  split at h
  · cases h
  · rename_i hn
    rw [if_neg hn]
    obtain ⟨l, h1, h2, h3, h4⟩ := ahead_yes h
    exact ⟨by omega, by omega, l, h1, h2, h3, h4⟩
theorem lowB_digit {n : Int} (h0 : 0 ≤ n) (h7 : n ≤ 7) : Lab.lowB (UInt8.ofNat (48 + n.toNat)) = UInt8.ofNat (48 + n.toNat) := by
  have : (UInt8.ofNat (48 + n.toNat)).toNat = 48 + n.toNat := by rw [UInt8.toNat_ofNat']; omega
  unfold Lab.lowB
  rw [this, if_neg (by omega)]
theorem host_inj {dom : List UInt8} {n m : Int} (hn : (hostN dom n).2 = true) (hm : (hostN dom m).2 = true) (h : Lab.same (hostN dom m).1 (hostN dom n).1 = true) : m = n := by
  obtain ⟨n0, n7, l, hl, e1, o1, e2⟩ := hostN_yes hn
  obtain ⟨m0, m7, l', hl', e1', o1', e2'⟩ := hostN_yes hm
  have hll : l = l' := Lab.names_inj hl hl' (e1.trans e1'.symm)
  subst hll
  rw [e2, e2', Lab.same_names o1' o1] at h
  unfold Lab.lows at h
  simp only [List.map_cons, List.cons.injEq] at h
  have h1 := h.1
  unfold Lab.low hostL at h1
  simp only [List.map_cons, List.map_nil, List.cons.injEq, and_true] at h1
  have h2 := h1.2
  rw [lowB_digit m0 m7, lowB_digit n0 n7] at h2
  have h3 := congrArg UInt8.toNat h2
  rw [UInt8.toNat_ofNat', UInt8.toNat_ofNat'] at h3
  omega
theorem host_of {s : Scn} {n : Int} (hn : n ∈ counts s) (h : (hostN s.dom n).2 = true) : host s (hostN s.dom n).1 = n := by
  have hself : hostIs s.dom (hostN s.dom n).1 n = true := by
    unfold hostIs
    rw [h]
    obtain ⟨_, _, l, _, _, o, e⟩ := hostN_yes h
    rw [e, Pk.same_self (Lab.right_names o)]
    rfl
  cases hf : (counts s).find? (hostIs s.dom (hostN s.dom n).1) with
  | none => exact absurd hself (by have := List.find?_eq_none.1 hf n hn; simpa using this)
  | some m =>
    have h2 := List.find?_some hf
    unfold hostIs at h2
    simp only [Bool.and_eq_true] at h2
    unfold host
    rw [hf]
    exact host_inj h h2.1 h2.2
theorem host_under {dom : List UInt8} {n : Int} (h : (hostN dom n).2 = true) : Lab.under (hostN dom n).1 dom = true := by
  obtain ⟨_, _, l, hl, e1, o, e⟩ := hostN_yes h
  rw [e, ← e1, Lab.under_names o hl]
  exact List.suffix_cons ..
theorem host_is {s : Scn} {n : Int} (hn : n ∈ counts s) (h : (hostN s.dom n).2 = true) : is s (hostN s.dom n).1 = true := by
  unfold is
  rw [host_of hn h, decide_eq_true (hostN_yes h).1]
  simp
theorem host_addrs {s : Scn} {n : Int} (hn : n ∈ counts s) (h : (hostN s.dom n).2 = true) {typ : Int} (ht : typ = 1 ∨ typ = 28) :
    tell s (hostN s.dom n).1 typ = if (addr (apps s.view n) (keyOf typ)).2 = true then [rcd (hostN s.dom n).1 typ (addr (apps s.view n) (keyOf typ)).1] else [] := by
  unfold tell datas
  rw [if_pos ht]
  unfold addrs
  rw [host_of hn h]
  by_cases ha : (addr (apps s.view n) (keyOf typ)).2 = true
  · rw [if_pos ⟨(hostN_yes h).1, ha⟩, if_pos ha]; rfl
  · rw [if_neg fun hh => ha hh.2, if_neg ha]; rfl
theorem counts_len (s : Scn) : (counts s).length ≤ s.view.length := by unfold counts; rw [List.length_map]; exact List.length_filter_le ..
/-! ### The domain itself -/
theorem same_more {l : List (List UInt8)} {ls : List (List UInt8)} (hl : Lab.ok l) (h : Lab.ok (ls ++ l)) (hn : ls ≠ []) : Lab.same (Lab.names (ls ++ l)) (Lab.names l) = false := by
  cases hs : Lab.same (Lab.names (ls ++ l)) (Lab.names l) with
  | false => rfl
  | true =>
    rw [Lab.same_names h hl] at hs
    have h1 := congrArg List.length hs
    unfold Lab.lows at h1
    rw [List.length_map, List.length_map, List.length_append] at h1
    exact absurd (List.eq_nil_of_length_eq_zero (by omega)) hn
theorem ahead_apex {dom : List UInt8} {ls : List (List UInt8)} (hn : ls ≠ []) (h : (ahead dom ls).2 = true) : Lab.same (ahead dom ls).1 dom = false := by
  obtain ⟨l, hl, e1, o, e2⟩ := ahead_yes h
  rw [e2, ← e1]
  exact same_more hl o hn
theorem host_apex (s : Scn) : host s s.dom = -1 := host_none fun n _ => by
  unfold hostIs
  cases h : (hostN s.dom n).2 with
  | false => rfl
  | true =>
    obtain ⟨_, _, l, hl, e1, o, e2⟩ := hostN_yes h
    rw [e2, ← e1]
    exact (Bool.true_and _).trans (same_more (ls := [hostL n]) hl o (by simp))
theorem offered_apex (s : Scn) (n : Int) : offered s n s.dom = [] := by
  unfold offered
  rw [List.filter_eq_nil_iff]
  intro x _
  unfold tells
  cases h : (ahead s.dom (srvL x)).2 with
  | false => simp
  | true => rw [ahead_apex (by simp [srvL]) h]; simp
theorem apex_datas (s : Scn) (typ : Int) : datas s s.dom typ = if typ = 2 then (if Lab.same s.dom s.dom = true ∧ (ns s.dom).2 = true then [(ns s.dom).1] else []) else if typ = 6 then (if Lab.same s.dom s.dom = true ∧ (first s.dom).2 = true then [(first s.dom).1] else []) else [] := by
  unfold datas
  by_cases h1 : typ = 1 ∨ typ = 28
  · rw [if_pos h1]
    unfold addrs
    rw [host_apex, if_neg (by omega), if_neg (by omega), if_neg (by omega)]
  · rw [if_neg h1]
    by_cases h2 : typ = 2
    · rw [if_pos h2, if_pos h2]
    · rw [if_neg h2, if_neg h2]
      by_cases h6 : typ = 6
      · rw [if_pos h6, if_pos h6]
      · rw [if_neg h6, if_neg h6]
        by_cases h33 : typ = 33
        · rw [if_pos h33]
          rw [List.flatMap_eq_nil_iff]
          intro n _
          unfold srvs
          rw [offered_apex]
          split <;> rfl
        · rw [if_neg h33]
theorem apex_no {s : Scn} (h : Lab.right s.dom = false) (typ : Int) : start s = (⟨[], 0, 0, 0, []⟩, false) ∧ tell s s.dom typ = [] ∧ is s s.dom = false := by
  have hs : Lab.same s.dom s.dom = false := by unfold Lab.same; rw [h]; rfl
  have hn : (ns s.dom).2 = false := by unfold ns ahead; rw [h]; rfl
  have hf : (first s.dom).2 = false := by unfold first; rw [hn]; rfl
  refine ⟨by unfold start; rw [hf]; rfl, ?_, ?_⟩
  · unfold tell
    rw [apex_datas, hs, hf, hn]
    simp
  · unfold is
    rw [hs, host_apex]
    simp only [Bool.false_or]
    rw [show decide ((0 : Int) ≤ -1) = false from rfl, Bool.false_or, List.any_eq_false]
    intro n _
    unfold some_
    rw [offered_apex]
    simp
theorem apex_yes {s : Scn} (h : Lab.right s.dom = true) : is s s.dom = true := by unfold is; rw [Pk.same_self h]; rfl
theorem apex_len (s : Scn) (typ : Int) : (tell s s.dom typ).length ≤ 1 ∧ ((tell s s.dom typ).length = 1 → typ = 2 ∨ typ = 6) := by
  rw [tell_len, apex_datas]
  split
  · split <;> simp [*]
  · split
    · split <;> simp [*]
    · simp
theorem apex_soa {s : Scn} (h : Lab.right s.dom = true) : ((start s).2 = true ↔ (tell s s.dom 6).length = 1) ∧ ((start s).2 = true → tell s s.dom 6 = [(start s).1]) := by
  have h1 : datas s s.dom 6 = if (first s.dom).2 = true then [(first s.dom).1] else [] := by
    rw [apex_datas, Pk.same_self h]
    simp
  unfold start tell
  rw [h1]
  by_cases hf : (first s.dom).2 = true
  · rw [if_pos hf, if_pos hf]; exact ⟨by simp, fun _ => rfl⟩
  · rw [if_neg hf, if_neg hf]; simp
end Zo
end Go.Proofs.YtmbfldcmiabccaaDoor

namespace Go.Proofs.YtmbfldcmiabccaaDoor
set_option linter.unusedVariables false
set_option linter.unusedSimpArgs false
open Go.RowKit
set_option maxHeartbeats 4000000 in
theorem ryaddress_any (l : List Ent) (key : Int) (A : Option Addr) (n c : Nat) (w : World) (h : Rd w w.heap.size 3 A n (EC l)) (hn : n * 32 ≤ 140737488351232) :
    Calls Tryd.prog 19 #[.slice A n c, .int .i64 key] w fun e w' => e = .returned (.tuple #[.string (strB (Zo.addr l key).1), .bool (Zo.addr l key).2]) ∧ Below w.heap.size w w' := by
  have ct := rget_any l key A n c _ w h (Nat.le_refl _) hn
  obtain ⟨o, ho⟩ : ∃ o, E.get l key = o := ⟨_, rfl⟩
  rw [ho] at ct
  have HO := Lib.hid ho
  clear h hn ho
  go_enter Tryd.func19, Tryd.ntmps19
  go_wp2_with fail
  refine ct.mono ?_
  clear ct
  rintro e w2 ⟨rfl, hb⟩
  cases o with
  | none =>
    have U : Hid (Zo.addr l key = ([], false)) := Lib.hid (by unfold Zo.addr Y.there; rw [HO.out, if_neg (by simp)])
    simp only [getV, Option.isSome_none]
    go_wp2
    go_ret2
    exact ⟨by rw [U.out]; rfl, hb.alloc hb.size _⟩
  | some x =>
    obtain ⟨ln, hln⟩ : ∃ n, x.val.length = n := ⟨_, rfl⟩
    have hsz : ((strB x.val).size : Int) = (ln : Int) := by rw [strB_size, hln]
    have X := Box.new w2 #[.int .i64 x.key, .int .i64 x.ver, .string (strB x.val)] 39
    have x2 := X.at 2 rfl
    have U : Hid (Zo.addr l key = if (key = 1 ∧ ln = 4) ∨ (key = 2 ∧ ln = 16) then (x.val, true) else ([], false)) := Lib.hid (by
      unfold Zo.addr Y.there Y.valOf
      rw [HO.out]
      simp only [Option.isSome_some, true_and, hln])
    have HLN := Lib.hid hln
    clear hln
    simp only [getV, Option.isSome_some, ev]
    obtain ⟨b1, h1⟩ : ∃ b, (key == 1) = b := ⟨_, rfl⟩
    obtain ⟨b2, h2⟩ : ∃ b, ((ln : Int) == 4) = b := ⟨_, rfl⟩
    obtain ⟨b3, h3⟩ : ∃ b, (key == 2) = b := ⟨_, rfl⟩
    obtain ⟨b4, h4⟩ : ∃ b, ((ln : Int) == 16) = b := ⟨_, rfl⟩
    have V : Hid (((key = 1 ∧ ln = 4) ∨ (key = 2 ∧ ln = 16)) ↔ (b1 && b2 || b3 && b4) = true) := Lib.hid (by
      rw [← h1, ← h2, ← h3, ← h4]
      simp only [Bool.or_eq_true, Bool.and_eq_true, beq_iff_eq]
      omega)
    cases b1 <;> cases b2 <;> cases b3 <;> cases b4 <;> (go_wp2; go_ret2; refine ⟨?_, hb.alloc hb.size _⟩; rw [U.out]; first | (rw [if_pos (V.out.2 rfl)]; done) | (rw [if_pos (V.out.2 rfl)]; rfl) | (rw [if_neg (fun hh => by have := V.out.1 hh; cases this)]; rfl))
theorem svcT : SlT Tryd.prog 69 62 (.agg #[.string ⟨#[]⟩, .string ⟨#[]⟩, .int .i64 0, .int .i64 0, .int .i64 0, .bool false]) 6 64 := ⟨Tryd.underlying69, by kernel_rfl, rfl, by omega⟩
theorem yc_one (x : Svc) : ∀ u ∈ yc x, u.oneCell' = true := by
  intro u hu
  simp only [yc, List.mem_cons, List.not_mem_nil, or_false] at hu
  rcases hu with rfl | rfl | rfl | rfl | rfl | rfl <;> rfl
theorem own_belowY {w w' : World} {base e size n : Nat} {v : Value} {xs : List Value} (h : w.ownsRow base e size v n xs) (hb : Below w.heap.size w w') : w'.ownsRow base e size v n xs := by
  refine ⟨h.1, ?_⟩
  rcases h.2 with h0 | ⟨g, cap, cur, hv, hbg, hg, rest⟩
  · exact .inl h0
  · exact .inr ⟨g, cap, cur, hv, hbg, (hb.block g (lt_of_block hg)).trans hg, rest⟩
end Go.Proofs.YtmbfldcmiabccaaDoor

namespace Go.Proofs.YtmbfldcmiabccaaDoor
set_option linter.unusedVariables false
set_option linter.unusedSimpArgs false
open Go.RowKit
structure Sn where
  v : Vw
  al : List Int
  B : Option Addr
  m : Nat
  d : Nat
  dom : List UInt8
def Sn.sc (s : Sn) : Scn := ⟨s.v.view, s.al, s.dom⟩
def snval (s : Sn) : Value := .agg #[.slice s.v.A s.v.n s.v.c, .slice s.B s.m s.d, .string (strB s.dom)]
/-- the scene's box -/
def sncs (s : Sn) : Array Value := #[.slice s.v.A s.v.n s.v.c, .slice s.B s.m s.d, .string (strB s.dom)]
def SnRd (w : World) (s : Sn) : Prop := VRd w s.v ∧ Rd w w.heap.size 1 s.B s.m (I s.al)
theorem SnRd.belowH {w w' : World} {s : Sn} (h : SnRd w s) (hb : Below w.heap.size w w') : SnRd w' s := ⟨h.1.belowH hb, Rd.belowH h.2 hb⟩
theorem SnRd.alloc {w : World} {s : Sn} (h : SnRd w s) (o : Obj) : SnRd (w.alloc o) s := h.belowH ((Below.refl w.heap.size w).alloc (Nat.le_refl _) o)
theorem SnRd.drew {w : World} {s : Sn} (h : SnRd w s) : SnRd w.drew s := h
/-- what fits -/
def SnFit (s : Sn) : Prop := s.v.n ≤ 1000 ∧ VFit s.v ∧ s.m ≤ 1000
/-- ints that were made -/
def OwnI (l : List Int) (w : World) (e : Ending) (w' : World) : Prop :=
  ∃ (A : Option Addr) (n c : Nat), e = .returned (.slice A n c) ∧ l.length = n ∧ w'.ownsRow w.heap.size 3 1 (.slice A n c) n (I l) ∧ Below w.heap.size w w'
namespace Zo
def cnt (al : List Int) (x : Nm) : Bool := decide (x.node ∈ al) && Y.up x.st.apps
end Zo
end Go.Proofs.YtmbfldcmiabccaaDoor

namespace Go.Proofs.YtmbfldcmiabccaaDoor
set_option linter.unusedVariables false
set_option linter.unusedSimpArgs false
open Go.RowKit
end Go.Proofs.YtmbfldcmiabccaaDoor

namespace Go.Proofs.YtmbfldcmiabccaaDoor
set_option linter.unusedVariables false
set_option linter.unusedSimpArgs false
open Go.RowKit
theorem drop_at {s : List UInt8} {k : Nat} {c : UInt8} {r : List UInt8} (h : s.drop k = c :: r) : s[k]? = some c ∧ k + 1 + r.length = s.length ∧ s.drop (k + 1) = r := by
  have hl := congrArg List.length h
  rw [List.length_drop, List.length_cons] at hl
  refine ⟨?_, by omega, ?_⟩
  · have h1 := congrArg (fun l : List UInt8 => l[0]?) h
    simp only [List.getElem?_drop, Nat.add_zero, List.getElem?_cons_zero] at h1
    exact h1
  · have h2 := congrArg (List.drop 1) h
    rw [List.drop_drop, List.drop_one, List.tail_cons] at h2
    exact h2
namespace Lab
/-- a name cut so far -/
def At (s : List UInt8) (o : List (List UInt8)) (k : Nat) : Prop := (∀ x ∈ o, okL x) ∧ wires o ++ s.drop k = s ∧ (wires o).length = k
theorem at_lab {s : List UInt8} {o : List (List UInt8)} {k : Nat} (h : At s o k) : lab s = (lab (s.drop k)).map (o ++ ·) := by
  have := lab_wires h.1 (s.drop k)
  rwa [h.2.1] at this
theorem at_end {s : List UInt8} {o : List (List UInt8)} {k : Nat} (h : At s o k) (hd : s.drop k = []) : cut s = none := by
  have h1 := at_lab h
  rw [hd, lab_nil] at h1
  unfold cut
  split
  · rfl
  · exact h1
theorem at_bad {s r : List UInt8} {o : List (List UInt8)} {k : Nat} {c : UInt8} (h : At s o k) (hd : s.drop k = c :: r) (hc : c ≠ 0) (hb : 63 < c.toNat ∨ r.length < c.toNat) : cut s = none := by
  have h1 := at_lab h
  rw [hd, lab_cons, if_neg hc, if_pos hb] at h1
  unfold cut
  split
  · rfl
  · exact h1
theorem at_zero {s r : List UInt8} {o : List (List UInt8)} {k : Nat} (h : At s o k) (hd : s.drop k = 0 :: r) : cut s = if 255 < s.length then none else if r = [] then some o else none := by
  have h1 := at_lab h
  rw [hd, lab_cons, if_pos rfl] at h1
  unfold cut
  split
  · rfl
  · rw [h1]
    split
    · simp
    · rfl
theorem at_next {s r : List UInt8} {o : List (List UInt8)} {k : Nat} {c : UInt8} (h : At s o k) (hd : s.drop k = c :: r) (hc : c ≠ 0) (hb : ¬ (63 < c.toNat ∨ r.length < c.toNat)) : At s (o ++ [r.take c.toNat]) (k + 1 + c.toNat) := by
  have hlen : (r.take c.toNat).length = c.toNat := by rw [List.length_take]; omega
  have hp := pos_of hc
  have hw : wires [r.take c.toNat] = c :: r.take c.toNat := by
    show wire (r.take c.toNat) ++ [] = _
    unfold wire
    rw [hlen, UInt8.ofNat_toNat, List.append_nil]
  have hd2 : s.drop (k + 1 + c.toNat) = r.drop c.toNat := by rw [← List.drop_drop, (drop_at hd).2.2]
  refine ⟨fun x hx => ?_, ?_, ?_⟩
  · rcases List.mem_append.1 hx with hx | hx
    · exact h.1 x hx
    · obtain rfl : x = r.take c.toNat := by simpa using hx
      exact ⟨by omega, by omega⟩
  · rw [wires_app, hw, hd2, List.append_assoc]
    show wires o ++ (c :: (r.take c.toNat ++ r.drop c.toNat)) = s
    rw [List.take_append_drop, ← hd]
    exact h.2.1
  · rw [wires_app, hw, List.length_append, h.2.2, List.length_cons, hlen]
    omega
theorem at_part {s r : List UInt8} {k : Nat} {c : UInt8} (hd : s.drop k = c :: r) (n : Nat) : (s.drop (k + 1)).take n = r.take n := by rw [(drop_at hd).2.2]
end Lab
theorem i64_of {z : Int} (h1 : -9223372036854775808 ≤ z) (h2 : z ≤ 9223372036854775807) : IntKind.i64.wrap z = z := IntWalk.i64_in _ (by omega)
theorem w64_of {z : Int} (h1 : -9223372036854775808 ≤ z) (h2 : z ≤ 9223372036854775807) : wrap64 z = z := by unfold wrap64; omega
set_option maxHeartbeats 4000000 in
set_option maxRecDepth 20000 in
theorem rcut_any (s : List UInt8) (hs : s.length ≤ 1100000) (w : World) : Calls Tryd.prog 43 #[.string (strB s)] w (CutR (Lab.cut s) w) := by
  obtain ⟨n, hn⟩ : ∃ n, s.length = n := ⟨_, rfl⟩
  have hsz : (strB s).size = n := by rw [strB_sz, hn]
  rw [hn] at hs
  have HN := Lib.hid hn
  clear hn
  go_enter Tryd.func43, Tryd.ntmps43
  go_wp2
  go_loopw [4, 5] (fun v i wr => ∃ (k m : Nat) (A : Option Addr) (c : Nat) (o : List (List UInt8)), k ≤ n ∧ m ≤ k ∧ i = .int .i64 (k : Int) ∧ v = .slice A m c ∧ Hid (Lab.At s o k) ∧ wr.ownsRow w.heap.size 9 1 (.slice A m c) m (Tt o) ∧ Below w.heap.size w wr) (fun _ i _ => n - (intOf i).toNat)
  case atStart => exact ⟨0, 0, none, 0, [], by omega, by omega, rfl, rfl, Lib.hid ⟨by simp, by simp [Lab.wires], rfl⟩, World.ownsRow_nil _ _ _ _, Below.refl _ _⟩
  case round =>
    obtain ⟨k, m, A, c, o, hk, hm, rfl, rfl, HA, own, bl⟩ := hrel
    have hk0 : (0 : Int) ≤ (k : Int) := by omega
    have hml : (Tt o).length = m := by have := own.1; rwa [Nat.mul_one] at this
    have HO := Lib.hid hml
    clear hml
    obtain ⟨nm1, hnm1⟩ : ∃ z : Int, (n : Int) - 1 = z := ⟨_, rfl⟩
    have V : Hid (wrap64 ((n : Int) - 1) = nm1 ∧ IntKind.i64.wrap ((n : Int) - 1) = nm1) := Lib.hid ⟨by rw [← hnm1]; exact w64_of (by omega) (by omega), by rw [← hnm1]; exact i64_of (by omega) (by omega)⟩
    have HM1 := Lib.hid hnm1
    clear hnm1
    rcases hd : s.drop k with _ | ⟨x, r⟩
    · have hkn : k = n := by have h1 := congrArg List.length hd; rw [List.length_drop] at h1; have := HN.out; simp at h1; omega
      have CN := Lib.hid (Lab.at_end HA.out hd)
      have g1 : decide ((k : Int) < (n : Int)) = false := decide_eq_false (by omega)
      have g2 : ((k : Int) != nm1) = true := by rw [bne_iff_ne]; have := HM1.out; omega
      have g3 : decide (k < n) = false := decide_eq_false (by omega)
      clear hd hkn HA own
      obtain ⟨v1, v2⟩ := V.out
      go_wp2
      go_ret2
      exact ⟨⟨none, 0, 0, by rw [CN.out]; rfl, by rw [CN.out]; rfl, by rw [CN.out]; exact Rd.zero _ _ _ _, by omega, by omega⟩, bl⟩
    · obtain ⟨hx, hlr, _⟩ := drop_at hd
      have hrl : k + 1 + r.length = n := by have := HN.out; omega
      have HD := Lib.hid hd
      have IXA : ∀ w, (Instr.index 9 (.string (strB s)) (.int .i64 (k : Int))).run Tryd.prog w = .ok (.int .u8 (x.toNat : Int)) w := fun w => run_chr hx
      have g1 : decide ((k : Int) < (n : Int)) = true := decide_eq_true (by omega)
      have g3 : decide (k < n) = true := decide_eq_true (by omega)
      clear hd hx hlr
      by_cases hx0 : x = 0
      · subst hx0
        have CZ := Lib.hid (Lab.at_zero HA.out HD.out)
        by_cases hr : r.length = 0
        · have hr0 : r = [] := List.eq_nil_of_length_eq_zero hr
          have g2 : ((k : Int) != nm1) = false := by rw [bne_eq_false_iff_eq]; have := HM1.out; omega
          by_cases h255 : 255 < n
          · have CN : Hid (Lab.cut s = none) := Lib.hid (by rw [CZ.out, HN.out, if_pos h255])
            clear hr0 HA own
            obtain ⟨v1, v2⟩ := V.out
            go_wp2
            go_ret2
            exact ⟨⟨none, 0, 0, by rw [CN.out]; rfl, by rw [CN.out]; rfl, by rw [CN.out]; exact Rd.zero _ _ _ _, by omega, by omega⟩, bl⟩
          · have CN : Hid (Lab.cut s = some o) := Lib.hid (by rw [CZ.out, HN.out, if_neg h255, if_pos hr0])
            have R := Rd.of_own own
            have hc := own_cap own
            clear hr0 HA own
            obtain ⟨v1, v2⟩ := V.out
            go_wp2
            go_ret2
            exact ⟨⟨A, m, c, by rw [CN.out]; rfl, by rw [CN.out]; have := HO.out; rw [Tt_len] at this; exact this.symm, by rw [CN.out]; exact R, hc.1, hc.2⟩, bl⟩
        · have hr0 : r ≠ [] := fun e => hr (by rw [e]; rfl)
          have g2 : ((k : Int) != nm1) = true := by rw [bne_iff_ne]; have := HM1.out; omega
          have CN : Hid (Lab.cut s = none) := Lib.hid (by rw [CZ.out, if_neg hr0]; split <;> rfl)
          clear hr0 HA own
          obtain ⟨v1, v2⟩ := V.out
          go_wp2
          go_ret2
          exact ⟨⟨none, 0, 0, by rw [CN.out]; rfl, by rw [CN.out]; rfl, by rw [CN.out]; exact Rd.zero _ _ _ _, by omega, by omega⟩, bl⟩
      · have hp := Lab.pos_of hx0
        have h256 : x.toNat < 256 := x.toNat_lt
        obtain ⟨y, hy⟩ : ∃ y, x.toNat = y := ⟨_, rfl⟩
        rw [hy] at IXA hp h256
        obtain ⟨ci, hci⟩ : ∃ z : Int, (y : Int) = z := ⟨_, rfl⟩
        rw [hci] at IXA
        have g4 : (ci != 0) = true := by rw [bne_iff_ne]; omega
        have CV : Hid (IntKind.i64.wrap ci = ci) := Lib.hid (i64_of (by omega) (by omega))
        have HY := Lib.hid hy
        have HX0 := Lib.hid hx0
        obtain ⟨k1, hk1⟩ : ∃ z : Int, (k : Int) + 1 = z := ⟨_, rfl⟩
        obtain ⟨k2, hk2⟩ : ∃ z : Int, k1 + ci = z := ⟨_, rfl⟩
        have U1 : Hid (wrap64 ((k : Int) + 1) = k1 ∧ IntKind.i64.wrap ((k : Int) + 1) = k1) := Lib.hid ⟨by rw [← hk1]; exact w64_of (by omega) (by omega), by rw [← hk1]; exact i64_of (by omega) (by omega)⟩
        have U2 : Hid (wrap64 (k1 + ci) = k2 ∧ IntKind.i64.wrap (k1 + ci) = k2) := Lib.hid ⟨by rw [← hk2]; exact w64_of (by omega) (by omega), by rw [← hk2]; exact i64_of (by omega) (by omega)⟩
        have CI := Lib.hid hci
        have HP := Lib.hid hp
        have K1 := Lib.hid hk1
        have K2 := Lib.hid hk2
        by_cases hb1 : 63 < y
        · have CN := Lib.hid (Lab.at_bad HA.out HD.out HX0.out (Or.inl (by rw [HY.out]; exact hb1)))
          have g6 : decide (63 < ci) = true := decide_eq_true (by omega)
          clear HA own hy hx0 hk1 hk2 hci h256 hp hb1
          obtain ⟨v1, v2⟩ := V.out
          obtain ⟨u1, u2⟩ := U1.out
          obtain ⟨u3, u4⟩ := U2.out
          have cv := CV.out
          go_wp2
          go_ret2
          exact ⟨⟨none, 0, 0, by rw [CN.out]; rfl, by rw [CN.out]; rfl, by rw [CN.out]; exact Rd.zero _ _ _ _, by omega, by omega⟩, bl⟩
        have g6 : decide (63 < ci) = false := decide_eq_false (by omega)
        by_cases hb2 : r.length < y
        · have CN := Lib.hid (Lab.at_bad HA.out HD.out HX0.out (Or.inr (by rw [HY.out]; exact hb2)))
          have g5 : decide ((n : Int) < k2) = true := decide_eq_true (by omega)
          clear HA own hy hx0 hk1 hk2 hci h256 hp hb1 hb2
          obtain ⟨v1, v2⟩ := V.out
          obtain ⟨u1, u2⟩ := U1.out
          obtain ⟨u3, u4⟩ := U2.out
          have cv := CV.out
          go_wp2
          go_ret2
          exact ⟨⟨none, 0, 0, by rw [CN.out]; rfl, by rw [CN.out]; rfl, by rw [CN.out]; exact Rd.zero _ _ _ _, by omega, by omega⟩, bl⟩
        have g5 : decide ((n : Int) < k2) = false := decide_eq_false (by omega)
        have NX := Lib.hid (Lab.at_next HA.out HD.out HX0.out (by rw [HY.out]; omega))
        have PT : ∀ w, (Instr.slice 9 (.string (strB s)) (some (.int .i64 k1)) (some (.int .i64 k2)) none).run Tryd.prog w = .ok (.string (strB (r.take y))) w := fun w => by
          have h1 := run_part (w := w) (l := s) (a := k + 1) (b := k + 1 + y) (i := k1) (j := k2) (by omega) (by omega) (by omega) (by rw [HN.out]; omega)
          rwa [show k + 1 + y - (k + 1) = y by omega, Lab.at_part HD.out] at h1
        obtain ⟨t, ht⟩ : ∃ t, r.take y = t := ⟨_, rfl⟩
        rw [ht] at PT
        rw [HY.out, ht] at NX
        have hmn : m ≤ 1100000 := by omega
        have HE : Hid (k + 1 + y ≤ n ∧ k2 = ((k + 1 + y : Nat) : Int)) := Lib.hid ⟨by omega, by omega⟩
        have own1 := own.alloc (.cells #[.string (strB t)] 9)
        have R1 : Rd (wr.alloc (.cells #[.string (strB t)] 9)) (wr.heap.size + 1) 1 (some ⟨wr.heap.size, 0, none⟩) 1 (Tt [t]) := Rd.one wr (.string (strB t)) 9
        have bl1 := bl.alloc bl.size (.cells #[.string (strB t)] 9)
        have hsz1 : w.heap.size ≤ (wr.alloc (.cells #[.string (strB t)] 9)).heap.size := bl1.size
        clear ht HA own hy hx0 hk1 hk2 hci h256 hp hb1 hb2
        obtain ⟨v1, v2⟩ := V.out
        obtain ⟨u1, u2⟩ := U1.out
        obtain ⟨u3, u4⟩ := U2.out
        have cv := CV.out
        go_wp2_with (at_builtin; refine app_law strT rfl (.tmp 32) (.tmp 41) rfl w.heap.size rfl own1 rfl R1 (Tt_one [t]) (by omega) (by omega) hsz1 ?_; rintro A2 c2 w2 ⟨own2, hg2, _, _⟩)
        go_roundw
        case rel => exact ⟨k + 1 + y, m + 1, A2, c2, o ++ [t], HE.out.1, by omega, by rw [HE.out.2], rfl, NX, by rw [Tt_app]; exact own2, below_app bl1 own1 hg2 (Nat.le_refl _) hsz1⟩
        case measure => rw [HE.out.2]; have h1 := HE.out.1; simp only [intOf]; omega
end Go.Proofs.YtmbfldcmiabccaaDoor

