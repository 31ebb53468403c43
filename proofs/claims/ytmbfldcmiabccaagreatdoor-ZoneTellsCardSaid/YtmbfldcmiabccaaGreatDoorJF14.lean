/- OC0 OC2 BRef5 BRef6 BC1 BC2 (merged). -/
import Derived.Deep.AppendLies
import Derived.Laws.OwnMore
import Derived.Test.YtmbfldcmiabccaaGreatDoorJF09
import Derived.Test.YtmbfldcmiabccaaGreatDoorJF10
import Derived.Test.YtmbfldcmiabccaaGreatDoorJF13
namespace Go.Proofs.YtmbfldcmiabccaaGreatDoor
set_option linter.unusedVariables false
set_option linter.unusedSimpArgs false
namespace Zo
theorem same_comm (a b : List UInt8) : Lab.same a b = Lab.same b a := by
  unfold Lab.same
  rw [Bool.and_comm (Lab.right a)]
  congr 1
  exact decide_eq_decide.2 ⟨Eq.symm, Eq.symm⟩
theorem same_nil (a : List UInt8) : Lab.same a [] = false := by
  unfold Lab.same
  rw [show Lab.right [] = false from rfl, Bool.and_false, Bool.false_and]
theorem join_bad {l : List (List UInt8)} (h : (Lab.join l).2 ≠ 0) : (Lab.join l).1 = [] := by
  unfold Lab.join at h ⊢
  split
  · rfl
  · rename_i h1
    rw [if_neg h1] at h
    split
    · rename_i h2
      rw [if_pos h2] at h
      exact absurd rfl h
    · rfl
theorem ahead_bad {dom : List UInt8} {ls : List (List UInt8)} (h : (ahead dom ls).2 = false) : (ahead dom ls).1 = [] := by
  unfold ahead at h ⊢
  split
  · rename_i hr
    rw [if_pos hr] at h
    exact join_bad (of_decide_eq_false h)
  · rfl
theorem hostN_bad {dom : List UInt8} {n : Int} (h : (hostN dom n).2 = false) : (hostN dom n).1 = [] := by
  unfold hostN at h ⊢
  split
  · rfl
  · rename_i hr
    rw [if_neg hr] at h
    exact ahead_bad h
theorem hostIs_same (dom name : List UInt8) (n : Int) : Lab.same name (hostN dom n).1 = hostIs dom name n := by
  unfold hostIs
  cases h : (hostN dom n).2 with
  | true => rw [Bool.true_and, same_comm]
  | false => rw [hostN_bad h, same_nil]; rfl
theorem tells_same (dom name : List UInt8) (x : Svc) : (x.well && Lab.same name (ahead dom (srvL x)).1) = tells dom name x := by
  unfold tells
  cases h : (ahead dom (srvL x)).2 with
  | true => rw [Bool.true_and, same_comm]
  | false => rw [ahead_bad h, same_nil, Bool.and_false, Bool.false_and, Bool.false_and]
/-- of a view those that count -/
def cing (al : List Int) (l : List Nm) : List Nm := l.filter (cnt al)
theorem counts_cing (s : Scn) : counts s = (cing s.alive s.view).map Nm.node := rfl
theorem cing_mem {al : List Int} {l : List Nm} {x : Nm} (h : x ∈ cing al l) : x ∈ l := (List.mem_filter.1 h).1
theorem cing_rising {al : List Int} {l : List Nm} (h : V.rising l) : V.rising (cing al l) := rising_filter h _
/-- what an endpoint offers under a name -/
def off (dom name : List UInt8) (l : List Ent) : List Svc := (Y.all l).filter (tells dom name)
theorem offered_off {s : Scn} (h : V.rising s.view) {x : Nm} (hx : x ∈ s.view) (name : List UInt8) : offered s x.node name = off s.dom name x.st.apps := by
  unfold offered off apps
  rw [V.get_of_mem h hx]
theorem apps_at {v : List Nm} (h : V.rising v) {x : Nm} (hx : x ∈ v) : apps v x.node = x.st.apps := by
  unfold apps
  rw [V.get_of_mem h hx]
/-- is an endpoint's host, or a service of it, of that name? -/
def isAt (dom name : List UInt8) (x : Nm) : Bool := hostIs dom name x.node || !(off dom name x.st.apps).isEmpty
theorem host_any (s : Scn) (name : List UInt8) : decide (0 ≤ host s name) = (counts s).any (hostIs s.dom name) := by
  unfold host
  cases hf : (counts s).find? (hostIs s.dom name) with
  | none =>
    have h1 : (counts s).any (hostIs s.dom name) = false := List.any_eq_false.2 (by simpa using List.find?_eq_none.1 hf)
    rw [h1]; rfl
  | some n =>
    have h1 := List.find?_some hf
    have h2 : (counts s).any (hostIs s.dom name) = true := List.any_eq_true.2 ⟨n, List.mem_of_find?_eq_some hf, h1⟩
    rw [h2]
    unfold hostIs at h1
    simp only [Bool.and_eq_true] at h1
    exact decide_eq_true (hostN_yes h1.1).1
theorem is_cing {s : Scn} (h : V.rising s.view) (name : List UInt8) : is s name = (Lab.same name s.dom || (cing s.alive s.view).any (isAt s.dom name)) := by
  unfold is
  rw [host_any, counts_cing, Bool.or_assoc]
  congr 1
  rw [List.any_map, List.any_map, Bool.eq_iff_iff]
  simp only [Bool.or_eq_true, List.any_eq_true, Function.comp]
  constructor
  · rintro (⟨x, hx, h1⟩ | ⟨x, hx, h1⟩)
    · exact ⟨x, hx, by unfold isAt; rw [h1]; rfl⟩
    · refine ⟨x, hx, ?_⟩
      unfold some_ at h1
      rw [offered_off h (cing_mem hx)] at h1
      unfold isAt
      rw [h1, Bool.or_true]
  · rintro ⟨x, hx, h1⟩
    unfold isAt at h1
    rcases Bool.or_eq_true_iff.1 h1 with h2 | h2
    · exact .inl ⟨x, hx, h2⟩
    · refine .inr ⟨x, hx, ?_⟩
      unfold some_
      rw [offered_off h (cing_mem hx)]
      exact h2
/-- the addresses of one endpoint -/
def adAt (dom name : List UInt8) (typ : Int) (x : Nm) : List (List UInt8) := if hostIs dom name x.node = true ∧ (addr x.st.apps (keyOf typ)).2 = true then [(addr x.st.apps (keyOf typ)).1] else []
theorem hostIs_two {dom name : List UInt8} {n m : Int} (hn : hostIs dom name n = true) (hm : hostIs dom name m = true) : m = n := by
  unfold hostIs at hn hm
  simp only [Bool.and_eq_true] at hn hm
  refine host_inj hn.1 hm.1 ?_
  have h1 := hn.2
  have h2 := hm.2
  unfold Lab.same at h1 h2 ⊢
  simp only [Bool.and_eq_true, decide_eq_true_eq] at h1 h2 ⊢
  exact ⟨⟨h2.1.1, h1.1.1⟩, h2.2.trans h1.2.symm⟩
theorem find_flat {dom name : List UInt8} (f : Nm → List (List UInt8)) (hf : ∀ x, hostIs dom name x.node = false → f x = []) : ∀ l : List Nm, V.rising l → l.flatMap f = match l.find? (fun x => hostIs dom name x.node) with | none => [] | some x => f x
  | [], _ => rfl
  | x :: r, h => by
    rw [List.flatMap_cons, List.find?_cons]
    cases hx : hostIs dom name x.node with
    | true =>
      have h1 : r.flatMap f = [] := by
        rw [List.flatMap_eq_nil_iff]
        intro y hy
        cases hy2 : hostIs dom name y.node with
        | false => exact hf y hy2
        | true =>
          have h2 := hostIs_two hx hy2
          have h3 := h.1 y hy
          omega
      rw [h1, List.append_nil]
    | false => rw [hf x hx, List.nil_append, find_flat f hf r h.2]
theorem find_map {dom name : List UInt8} (l : List Nm) : (l.map Nm.node).find? (hostIs dom name) = (l.find? fun x => hostIs dom name x.node).map Nm.node := by
  rw [List.find?_map]
  rfl
theorem addrs_cing {s : Scn} (h : V.rising s.view) (name : List UInt8) (typ : Int) : addrs s name typ = (cing s.alive s.view).flatMap (adAt s.dom name typ) := by
  rw [find_flat (dom := s.dom) (name := name) _ (fun x hx => by unfold adAt; rw [if_neg (by rw [hx]; simp)]) _ (cing_rising h)]
  unfold addrs host
  rw [counts_cing, find_map]
  cases hf : (cing s.alive s.view).find? (fun x => hostIs s.dom name x.node) with
  | none => rw [if_neg]; exact fun h1 => by have : (0 : Int) ≤ -1 := h1.1; omega
  | some x =>
    have h1 : hostIs s.dom name x.node = true := List.find?_some (p := fun x : Nm => hostIs s.dom name x.node) hf
    have h2 : x ∈ s.view := cing_mem (List.mem_of_find?_eq_some hf)
    have h3 : 0 ≤ x.node := by
      have h4 := h1
      unfold hostIs at h4
      simp only [Bool.and_eq_true] at h4
      exact (hostN_yes h4.1).1
    show (if 0 ≤ x.node ∧ (addr (apps s.view x.node) (keyOf typ)).2 = true then [(addr (apps s.view x.node) (keyOf typ)).1] else []) = adAt s.dom name typ x
    rw [apps_at h h2]
    unfold adAt
    by_cases h5 : (addr x.st.apps (keyOf typ)).2 = true
    · rw [if_pos ⟨h3, h5⟩, if_pos ⟨h1, h5⟩]
    · rw [if_neg fun h6 => h5 h6.2, if_neg fun h6 => h5 h6.2]
/-- one service of an endpoint -/
def svAt (dom : List UInt8) (n : Int) (o : Svc) : List (List UInt8) := if (hostN dom n).2 = true then [srvD dom n o] else []
theorem svAt_all (dom : List UInt8) (n : Int) (l : List Svc) : l.flatMap (svAt dom n) = if (hostN dom n).2 = true then l.map (srvD dom n) else [] := by
  unfold svAt
  split
  · induction l with
    | nil => rfl
    | cons x r ih => rw [List.flatMap_cons, ih]; rfl
  · rw [List.flatMap_eq_nil_iff]; intro x _; rfl
def svsAt (dom name : List UInt8) (x : Nm) : List (List UInt8) := (off dom name x.st.apps).flatMap (svAt dom x.node)
theorem srvs_cing {s : Scn} (h : V.rising s.view) (name : List UInt8) : datas s name 33 = (cing s.alive s.view).flatMap (svsAt s.dom name) := by
  rw [datas33, counts_cing, List.flatMap_map]
  refine flat_congr fun x hx => ?_
  unfold srvs svsAt
  rw [offered_off h (cing_mem hx), svAt_all]
/-- the domain's own data: type 2, or another one -/
def own (dom : List UInt8) (typ : Int) : List UInt8 × Bool := if typ = 2 then ns dom else first dom
theorem root_ns {dom : List UInt8} (h : (root dom).2 = true) : (ns dom).2 = true := by
  obtain ⟨l, h1, h2, h3, h4⟩ := ahead_yes h
  have h5 : Lab.ok ([[110, 115]] ++ l) := by
    refine ⟨fun x hx => ?_, ?_⟩
    · rcases List.mem_append.1 hx with hx | hx
      · obtain rfl : x = [110, 115] := by simpa using hx
        exact ⟨by simp, by simp⟩
      · exact h1.1 x hx
    · have h6 := h3.2
      rw [Lab.names_len, Lab.wires_app, List.length_append] at h6 ⊢
      have h7 : (Lab.wires [[114, 111, 111, 116]]).length = 5 := rfl
      have h8 : (Lab.wires [[110, 115]]).length = 3 := rfl
      omega
  unfold ns ahead
  rw [if_pos (Lab.right_iff.2 ⟨l, h1, h2⟩), ← h2, Lab.labels_names h1, Lab.join_ok h5]
  rfl
theorem first_ok (dom : List UInt8) : (first dom).2 = (root dom).2 := by
  unfold first
  cases h : (root dom).2 with
  | false => simp
  | true => rw [root_ns h]; rfl
/-- what is told, by types -/
theorem tell_own (s : Scn) (name : List UInt8) {typ : Int} (ht : typ = 2 ∨ typ = 6) : datas s name typ = if Lab.same name s.dom = true ∧ (own s.dom typ).2 = true then [(own s.dom typ).1] else [] := by
  rcases ht with rfl | rfl
  · rfl
  · rfl
theorem tell_none (s : Scn) (name : List UInt8) {typ : Int} (h1 : typ ≠ 1) (h28 : typ ≠ 28) (h2 : typ ≠ 2) (h6 : typ ≠ 6) (h33 : typ ≠ 33) : datas s name typ = [] := by
  unfold datas
  rw [if_neg (by omega), if_neg h2, if_neg h6, if_neg h33]
theorem tell_addrs {s : Scn} (h : V.rising s.view) (name : List UInt8) {typ : Int} (ht : typ = 1 ∨ typ = 28) : datas s name typ = (cing s.alive s.view).flatMap (adAt s.dom name typ) := by
  unfold datas
  rw [if_pos ht, addrs_cing h]
end Zo
theorem ahead_shortO (dom : List UInt8) (ls : List (List UInt8)) : (Zo.ahead dom ls).1.length ≤ 255 := by
  unfold Zo.ahead
  split
  · show (Lab.join _).1.length ≤ 255
    unfold Lab.join
    split
    · simp
    · split
      · rename_i h; exact h.2
      · simp
  · simp
theorem hostN_shortO (dom : List UInt8) (n : Int) : (Zo.hostN dom n).1.length ≤ 255 := by
  unfold Zo.hostN
  split
  · simp
  · exact ahead_shortO _ _
end Go.Proofs.YtmbfldcmiabccaaGreatDoor

namespace Go.Proofs.YtmbfldcmiabccaaGreatDoor
set_option linter.unusedVariables false
set_option linter.unusedSimpArgs false
open Go.RowKit
def asz (key : Int) : Int := if key = 1 then 4 else if key = 2 then 16 else 0
theorem ysize_any (key : Int) (w : World) : Calls Tryz.prog 70 #[.int .i64 key] w fun e w' => e = .returned (.int .i64 (asz key)) ∧ w' = w := by
  by_cases h1 : key = 1
  · subst h1
    go_enter Tryz.func70, Tryz.ntmps70
    go_wp2
    go_ret
    exact ⟨rfl, rfl⟩
  · by_cases h2 : key = 2
    · subst h2
      go_enter Tryz.func70, Tryz.ntmps70
      go_wp2
      go_ret
      exact ⟨rfl, rfl⟩
    · have t1 : (key == 1) = false := beq_eq_false_iff_ne.2 h1
      have t2 : (key == 2) = false := beq_eq_false_iff_ne.2 h2
      have E : Hid (asz key = 0) := Lib.hid (by unfold asz; rw [if_neg h1, if_neg h2])
      clear h1 h2
      go_enter Tryz.func70, Tryz.ntmps70
      go_wp2
      go_ret
      exact ⟨by rw [E.out]; rfl, rfl⟩
theorem ite_iffO {α : Type} {P Q : Prop} [Decidable P] [Decidable Q] (h : P ↔ Q) (a b : α) : (if P then a else b) = if Q then a else b := by
  by_cases hp : P
  · rw [if_pos hp, if_pos (h.1 hp)]
  · rw [if_neg hp, if_neg (fun hq => hp (h.2 hq))]
theorem addr_none {l : List Ent} {key : Int} (h : E.get l key = none) : Zo.addr l key = ([], false) := by
  unfold Zo.addr
  rw [if_neg (by rw [there_none h]; simp)]
theorem addr_some {l : List Ent} {key : Int} {x : Ent} (h : E.get l key = some x) : Zo.addr l key = if asz key ≠ 0 ∧ (x.val.length : Int) = asz key then (x.val, true) else ([], false) := by
  unfold Zo.addr
  rw [(there_some h).1, (there_some h).2]
  refine ite_iffO ?_ _ _
  unfold asz
  simp only [true_and]
  by_cases h1 : key = 1
  · rw [if_pos h1]; omega
  · rw [if_neg h1]
    by_cases h2 : key = 2
    · rw [if_pos h2]; omega
    · rw [if_neg h2]; omega
set_option maxHeartbeats 1000000 in
theorem yaddress_any (l : List Ent) (key : Int) (A : Option Addr) (n c : Nat) (w : World) (h : Rd w w.heap.size 3 A n (EC l)) (hn : n ≤ 1000000) : Calls Tryz.prog 43 #[.slice A n c, .int .i64 key] w (TxB (Zo.addr l key).1 (Zo.addr l key).2 w) := by
  have CZ := ysize_any key
  obtain ⟨s, hs⟩ : ∃ s, asz key = s := ⟨_, rfl⟩
  rw [hs] at CZ
  have HS := Lib.hid hs
  clear hs
  go_enter Tryz.func43, Tryz.ntmps43
  go_wp2_with fail
  refine (get_any l key A n c w.heap.size w h (Nat.le_refl _) (by omega)).mono ?_
  rintro _ w1 ⟨rfl, b⟩
  cases hg : E.get l key with
  | none =>
    have E := Lib.hid (addr_none hg)
    have b2 := b.alloc b.size (.cells #[.int .i64 0, .int .i64 0, .string ⟨#[]⟩] 48)
    have X := Box.new w1 #[.int .i64 0, .int .i64 0, .string ⟨#[]⟩] 48
    have x2 := X.at 2 rfl
    clear hg
    simp only [getV]
    go_wp2_with fail
    refine (CZ _).mono ?_
    rintro _ w2 ⟨rfl, rfl⟩
    by_cases h0 : s = 0
    · subst h0
      go_wp2
      go_ret2
      exact ⟨by rw [E.out]; rfl, b2⟩
    · have t0 : (s == 0) = false := beq_eq_false_iff_ne.2 h0
      have t1 : (0 != s) = true := bne_iff_ne.2 (fun e => h0 e.symm)
      clear h0
      go_wp2
      go_ret2
      exact ⟨by rw [E.out]; rfl, b2⟩
  | some x =>
    obtain ⟨kx, ver, val⟩ := x
    have E := Lib.hid (addr_some hg)
    simp only at E
    rw [HS.out] at E
    have b2 := b.alloc b.size (.cells #[.int .i64 kx, .int .i64 ver, .string (strB val)] 48)
    have X := Box.new w1 #[.int .i64 kx, .int .i64 ver, .string (strB val)] 48
    have x2 := X.at 2 rfl
    have hsz : ((strB val).size : Int) = (val.length : Int) := by rw [strB_sz]
    clear hg
    simp only [getV, ev]
    go_wp2_with fail
    refine (CZ _).mono ?_
    rintro _ w2 ⟨rfl, rfl⟩
    by_cases h0 : s = 0
    · subst h0
      have E2 : Hid (Zo.addr l key = ([], false)) := Lib.hid (by rw [E.out, if_neg (by simp)])
      go_wp2
      go_ret2
      exact ⟨by rw [E2.out]; rfl, b2⟩
    · have t0 : (s == 0) = false := beq_eq_false_iff_ne.2 h0
      obtain ⟨ln, hln⟩ : ∃ k, (val.length : Int) = k := ⟨_, rfl⟩
      rw [hln] at hsz E
      by_cases h1 : ln = s
      · have t1 : (ln != s) = false := by rw [h1]; simp
        have E2 : Hid (Zo.addr l key = (val, true)) := Lib.hid (by rw [E.out, if_pos ⟨h0, h1⟩])
        have H1 := Lib.hid (And.intro h0 hln)
        clear h0 hln h1
        go_wp2
        go_ret2
        exact ⟨by rw [E2.out]; rfl, b2⟩
      · have t1 : (ln != s) = true := bne_iff_ne.2 h1
        have E2 : Hid (Zo.addr l key = ([], false)) := Lib.hid (by rw [E.out, if_neg (fun h => h1 h.2)])
        have H1 := Lib.hid (And.intro h0 hln)
        clear h0 hln h1
        go_wp2
        go_ret2
        exact ⟨by rw [E2.out]; rfl, b2⟩
end Go.Proofs.YtmbfldcmiabccaaGreatDoor

namespace Go.Proofs.YtmbfldcmiabccaaGreatDoor
set_option linter.unusedVariables false
set_option linter.unusedSimpArgs false
open Go.RowKit
namespace Lab
end Lab
end Go.Proofs.YtmbfldcmiabccaaGreatDoor

namespace Go.Proofs.YtmbfldcmiabccaaGreatDoor
set_option linter.unusedVariables false
set_option linter.unusedSimpArgs false
open Go.RowKit
namespace Lab
end Lab
end Go.Proofs.YtmbfldcmiabccaaGreatDoor

namespace Go.Proofs.YtmbfldcmiabccaaGreatDoor
set_option linter.unusedVariables false
set_option linter.unusedSimpArgs false
open Go.RowKit
namespace Lab
theorem right_end {s : List UInt8} {o : List (List UInt8)} {k : Nat} (h : At s o k) (hd : s.drop k = []) : right s = false := by unfold right; rw [at_end h hd]; rfl
theorem right_bad {s r : List UInt8} {o : List (List UInt8)} {k : Nat} {c : UInt8} (h : At s o k) (hd : s.drop k = c :: r) (hc : c ≠ 0) (hb : 63 < c.toNat ∨ r.length < c.toNat) : right s = false := by unfold right; rw [at_bad h hd hc hb]; rfl
theorem right_long {s : List UInt8} (h : 255 < s.length) : right s = false := by unfold right cut; rw [if_pos h]; rfl
theorem right_zero {s r : List UInt8} {o : List (List UInt8)} {k : Nat} (h : At s o k) (hd : s.drop k = 0 :: r) (hl : s.length ≤ 255) : right s = decide (r.length = 0) := by
  unfold right
  rw [at_zero h hd, if_neg (by omega)]
  cases r with
  | nil => rfl
  | cons a b => simp
end Lab
set_option maxHeartbeats 4000000 in
set_option maxRecDepth 20000 in
theorem cright_any (s : List UInt8) (hs : s.length ≤ 1100000) (w : World) : Calls Tryz.prog 52 #[.string (strB s)] w (BoB (Lab.right s) w) := by
  obtain ⟨n, hn⟩ : ∃ n, s.length = n := ⟨_, rfl⟩
  have hsz : (strB s).size = n := by rw [strB_sz, hn]
  rw [hn] at hs
  have HN := Lib.hid hn
  clear hn
  by_cases h255 : 255 < n
  · have R0 : Hid (Lab.right s = false) := Lib.hid (Lab.right_long (by rw [HN.out]; exact h255))
    have g0 : decide (255 < (n : Int)) = true := decide_eq_true (by omega)
    go_enter Tryz.func52, Tryz.ntmps52
    go_wp2
    go_ret
    exact ⟨ret_bool R0.out.symm, Below.refl _ _⟩
  have g0 : decide (255 < (n : Int)) = false := decide_eq_false (by omega)
  have n255 : n ≤ 255 := by omega
  clear h255 hs
  obtain ⟨nm1, hnm1⟩ : ∃ z : Int, (n : Int) - 1 = z := ⟨_, rfl⟩
  have V : Hid (wrap64 ((n : Int) - 1) = nm1 ∧ IntKind.i64.wrap ((n : Int) - 1) = nm1) := Lib.hid ⟨by rw [← hnm1]; exact w64_of (by omega) (by omega), by rw [← hnm1]; exact i64_of (by omega) (by omega)⟩
  have HM1 := Lib.hid hnm1
  clear hnm1
  go_enter Tryz.func52, Tryz.ntmps52
  go_wp2
  go_loop [3] (fun i => ∃ k : Nat, k ≤ n + 64 ∧ i = .int .i64 (k : Int) ∧ Hid ((k ≤ n ∧ ∃ o, Lab.At s o k) ∨ (n < k ∧ Lab.right s = false))) (fun i => n + 100 - (intOf i).toNat)
  case atStart => exact ⟨0, by omega, rfl, Lib.hid (Or.inl ⟨by omega, [], by simp, by simp [Lab.wires], rfl⟩)⟩
  case round =>
    obtain ⟨k, hk, rfl, HA⟩ := hrel
    have hk0 : (0 : Int) ≤ (k : Int) := by omega
    by_cases hkn : k < n
    · have g1 : decide ((k : Int) < (n : Int)) = true := decide_eq_true (by omega)
      have g3 : decide (k < n) = true := decide_eq_true hkn
      obtain ⟨o, HAt⟩ : ∃ o, Hid (Lab.At s o k) := by
        rcases HA.out with ⟨_, o, h⟩ | ⟨h, _⟩
        · exact ⟨o, Lib.hid h⟩
        · omega
      clear HA
      rcases hd : s.drop k with _ | ⟨x, r⟩
      · exact absurd (congrArg List.length hd) (by rw [List.length_drop]; have := HN.out; simp; omega)
      · obtain ⟨hx, hlr, _⟩ := drop_at hd
        have hrl : k + 1 + r.length = n := by have := HN.out; omega
        have HD := Lib.hid hd
        have IXA : ∀ w, (Instr.index 9 (.string (strB s)) (.int .i64 (k : Int))).run Tryz.prog w = .ok (.int .u8 (x.toNat : Int)) w := fun w => run_chr hx
        clear hd hx hlr
        by_cases hx0 : x = 0
        · subst hx0
          have CZ := Lib.hid (Lab.right_zero HAt.out HD.out (by rw [HN.out]; exact n255))
          by_cases hr : r.length = 0
          · have g2 : ((k : Int) == nm1) = true := by rw [beq_iff_eq]; have := HM1.out; omega
            have CN : Hid (Lab.right s = true) := Lib.hid (by rw [CZ.out, hr]; rfl)
            clear HAt CZ hr
            obtain ⟨v1, v2⟩ := V.out
            go_wp2
            go_ret
            exact ⟨ret_bool CN.out.symm, Below.refl _ _⟩
          · have g2 : ((k : Int) == nm1) = false := by rw [beq_eq_false_iff_ne]; have := HM1.out; omega
            have CN : Hid (Lab.right s = false) := Lib.hid (by rw [CZ.out]; exact decide_eq_false hr)
            clear HAt CZ hr
            obtain ⟨v1, v2⟩ := V.out
            go_wp2
            go_ret
            exact ⟨ret_bool CN.out.symm, Below.refl _ _⟩
        · have hp := Lab.pos_of hx0
          have h256 : x.toNat < 256 := x.toNat_lt
          obtain ⟨y, hy⟩ : ∃ y, x.toNat = y := ⟨_, rfl⟩
          rw [hy] at IXA hp h256
          obtain ⟨ci, hci⟩ : ∃ z : Int, (y : Int) = z := ⟨_, rfl⟩
          rw [hci] at IXA
          have g4 : (ci != 0) = true := by rw [bne_iff_ne]; omega
          have CV : Hid (IntKind.i64.wrap ci = ci) := Lib.hid (i64_of (by omega) (by omega))
          have HY := Lib.hid hy
          have HX0 := Lib.hid hx0
          obtain ⟨k1, hk1⟩ : ∃ z : Int, 1 + ci = z := ⟨_, rfl⟩
          obtain ⟨k2, hk2⟩ : ∃ z : Int, (k : Int) + k1 = z := ⟨_, rfl⟩
          have U1 : Hid (wrap64 (1 + ci) = k1 ∧ IntKind.i64.wrap (1 + ci) = k1) := Lib.hid ⟨by rw [← hk1]; exact w64_of (by omega) (by omega), by rw [← hk1]; exact i64_of (by omega) (by omega)⟩
          have U2 : Hid (wrap64 ((k : Int) + k1) = k2 ∧ IntKind.i64.wrap ((k : Int) + k1) = k2) := Lib.hid ⟨by rw [← hk2]; exact w64_of (by omega) (by omega), by rw [← hk2]; exact i64_of (by omega) (by omega)⟩
          have CI := Lib.hid hci
          have HP := Lib.hid hp
          have K1 := Lib.hid hk1
          have K2 := Lib.hid hk2
          by_cases hb1 : 63 < y
          · have CN := Lib.hid (Lab.right_bad HAt.out HD.out HX0.out (Or.inl (by rw [HY.out]; exact hb1)))
            have g6 : decide (63 < ci) = true := decide_eq_true (by omega)
            clear HAt hy hx0 hk1 hk2 hci h256 hp hb1
            obtain ⟨u1, u2⟩ := U1.out
            obtain ⟨u3, u4⟩ := U2.out
            have cv := CV.out
            go_wp2
            go_ret
            exact ⟨ret_bool CN.out.symm, Below.refl _ _⟩
          have g6 : decide (63 < ci) = false := decide_eq_false (by omega)
          have NX : Hid (k + 1 + y ≤ n + 64 ∧ k2 = ((k + 1 + y : Nat) : Int) ∧ ((k + 1 + y ≤ n ∧ ∃ o, Lab.At s o (k + 1 + y)) ∨ (n < k + 1 + y ∧ Lab.right s = false))) := Lib.hid (by
            refine ⟨by omega, by omega, ?_⟩
            by_cases hb2 : r.length < y
            · exact Or.inr ⟨by omega, Lab.right_bad HAt.out HD.out HX0.out (Or.inr (by rw [HY.out]; exact hb2))⟩
            · exact Or.inl ⟨by omega, _, by have h1 := Lab.at_next HAt.out HD.out HX0.out (by rw [HY.out]; omega); rwa [HY.out] at h1⟩)
          clear HAt hy hx0 hk1 hk2 hci h256 hp hb1
          obtain ⟨u1, u2⟩ := U1.out
          obtain ⟨u3, u4⟩ := U2.out
          have cv := CV.out
          go_wp2
          go_round
          case rel => exact ⟨k + 1 + y, NX.out.1, by rw [NX.out.2.1], Lib.hid NX.out.2.2⟩
          case measure => rw [NX.out.2.1]; have h1 := NX.out.1; simp only [intOf]; omega
    · have g1 : decide ((k : Int) < (n : Int)) = false := decide_eq_false (by omega)
      have g3 : decide (k < n) = false := decide_eq_false hkn
      have CN : Hid (Lab.right s = false) := Lib.hid (by
        rcases HA.out with ⟨h1, o, h⟩ | ⟨_, h⟩
        · exact Lab.right_end h (List.eq_nil_of_length_eq_zero (by rw [List.length_drop]; have := HN.out; omega))
        · exact h)
      have g2 : ((k : Int) == nm1) = false := by rw [beq_eq_false_iff_ne]; have := HM1.out; omega
      clear HA
      obtain ⟨v1, v2⟩ := V.out
      go_wp2
      go_ret
      exact ⟨ret_bool CN.out.symm, Below.refl _ _⟩
end Go.Proofs.YtmbfldcmiabccaaGreatDoor

namespace Go.Proofs.YtmbfldcmiabccaaGreatDoor
set_option linter.unusedVariables false
set_option linter.unusedSimpArgs false
open Go.RowKit
theorem run_tail {w : World} {l : List UInt8} {a : Nat} {i : Int} (hi : i = a) (h : a ≤ l.length) : (Instr.slice 9 (.string (strB l)) (some (.int .i64 i)) none none).run Tryz.prog w = .ok (.string (strB (l.drop a))) w := by
  subst hi
  rw [run_slice_string_from_if w 9 (strB l) .i64 a Tryz.underlying9, if_pos ⟨by omega, by rw [strB_sz]; omega⟩]
  have e : (strB l).extract ((a : Int)).toNat (strB l).size = strB (l.drop a) := by
    rw [strB_cut, strB_sz]
    show strB (List.take (l.length - a) (List.drop a l)) = _
    rw [List.take_of_length_le (by simp)]
  rw [e]
theorem cright_at {s : List UInt8} {z : Bool} (e : Lab.right s = z) (hs : s.length ≤ 1100000) (w : World) : Calls Tryz.prog 52 #[.string (strB s)] w (BoB z w) := by have h := cright_any s hs w; rw [e] at h; exact h
namespace Lab
theorem names_head {x : List UInt8} {r : List (List UInt8)} : names (x :: r) = UInt8.ofNat x.length :: (x ++ names r) := by
  unfold names
  rw [wires_cons]
  unfold wire
  simp
end Lab
set_option maxHeartbeats 4000000 in
set_option maxRecDepth 20000 in
theorem bllabels_any (s : List UInt8) (hs : s.length ≤ 100000) (w : World) : Calls Tryz.prog 55 #[.string (strB s)] w (LabR (Lab.labels s) w) := by
  cases hr : Lab.right s with
  | false =>
    have HE := Lib.hid (Lab.labels_no hr)
    have HR := Lib.hid hr
    clear hr
    go_enter Tryz.func55, Tryz.ntmps55
    go_wp2_with fail
    refine (cright_at HR.out (by omega) w).mono ?_
    rintro e w1 ⟨rfl, h1⟩
    go_wp2
    go_ret
    exact ⟨⟨none, 0, 0, rfl, by rw [HE.out]; rfl, by rw [HE.out]; exact Rd.zero _ _ _ _, by omega, by omega⟩, h1⟩
  | true =>
    obtain ⟨l, ol, hl⟩ := Lab.right_iff.1 hr
    have HR := Lib.hid hr
    have HE : Hid (Lab.labels s = l) := Lib.hid (by rw [← hl]; exact Lab.labels_names ol)
    have OL := Lib.hid ol
    have HL := Lib.hid hl
    clear hr hl ol
    go_enter Tryz.func55, Tryz.ntmps55
    go_wp2_with fail
    refine (cright_at HR.out (by omega) w).mono ?_
    rintro e w1 ⟨rfl, h1⟩
    go_wp2
    go_loopw [0, 3] (fun t v wr => ∃ (m : Nat) (A : Option Addr) (c : Nat) (o r : List (List UInt8)), m ≤ 300 ∧ t = .string (strB (Lab.names r)) ∧ v = .slice A m c ∧ Hid (l = o ++ r) ∧ wr.ownsRow w.heap.size 9 1 (.slice A m c) m (Tt o) ∧ Below w.heap.size w wr) (fun _ v _ => 400 - (match v with | .slice _ m _ => m | _ => 0))
    case atStart => exact ⟨0, none, 0, [], l, by omega, by rw [HL.out], rfl, Lib.hid rfl, World.ownsRow_nil _ _ _ _, h1⟩
    case round =>
      clear h1
      obtain ⟨m, A, c, o, r, hm, rfl, rfl, HA, own, bl⟩ := hrel
      have hml : (Tt o).length = m := by have := own.1; rwa [Nat.mul_one] at this
      have HO := Lib.hid hml
      clear hml
      cases r with
      | nil =>
        have IXA : ∀ w, (Instr.index 9 (.string (strB (Lab.names []))) (.int .i64 0)).run Tryz.prog w = .ok (.int .u8 0) w := fun w => run_chr (k := 0) (x := 0) rfl
        have R := Rd.of_own own
        have hc := own_cap own
        have EQ : Hid (Lab.labels s = o) := Lib.hid (by rw [HE.out, HA.out]; simp)
        generalize strB (Lab.names []) = z at *
        clear own HA
        go_wp2
        go_ret
        exact ⟨⟨A, m, c, rfl, by rw [EQ.out]; have := HO.out; rw [Tt_len] at this; exact this.symm, by rw [EQ.out]; exact R, hc.1, hc.2⟩, bl⟩
      | cons x r =>
        have hx : Lab.okL x := OL.out.1 x (by rw [HA.out]; simp)
        have hxl := hx.2
        have hxp := hx.1
        have hm2 : m + 1 ≤ 300 := by
          have h2 := Lab.ok_few OL.out
          rw [HA.out, List.length_append, List.length_cons] at h2
          have := HO.out
          rw [Tt_len] at this
          omega
        obtain ⟨y, hy⟩ : ∃ y, x.length = y := ⟨_, rfl⟩
        rw [hy] at hxl hxp
        obtain ⟨ci, hci⟩ : ∃ z : Int, (y : Int) = z := ⟨_, rfl⟩
        obtain ⟨k1, hk1⟩ : ∃ z : Int, 1 + ci = z := ⟨_, rfl⟩
        have e8 : (UInt8.ofNat x.length).toNat = y := by rw [hy]; exact Lab.ofNat_len hxl
        have IXA : ∀ w, (Instr.index 9 (.string (strB (Lab.names (x :: r)))) (.int .i64 0)).run Tryz.prog w = .ok (.int .u8 ci) w := fun w => by
          have h1 := run_chr (w := w) (l := Lab.names (x :: r)) (k := 0) (x := UInt8.ofNat x.length) (by rw [Lab.names_head]; rfl)
          rw [e8, hci] at h1
          exact h1
        have hln : (Lab.names (x :: r)).length = 1 + y + (Lab.names r).length := by rw [Lab.names_head]; simp; omega
        have IXP : ∀ w, (Instr.slice 9 (.string (strB (Lab.names (x :: r)))) (some (.int .i64 1)) (some (.int .i64 k1)) none).run Tryz.prog w = .ok (.string (strB x)) w := fun w => by
          have h1 := run_part (w := w) (l := Lab.names (x :: r)) (a := 1) (b := 1 + y) (i := 1) (j := k1) rfl (by omega) (by omega) (by omega)
          rw [Lab.names_head] at h1
          simp only [List.drop_succ_cons, List.drop_zero] at h1
          rw [show 1 + y - 1 = x.length by omega, List.take_left] at h1
          rw [Lab.names_head]
          exact h1
        have IXT : ∀ w, (Instr.slice 9 (.string (strB (Lab.names (x :: r)))) (some (.int .i64 k1)) none none).run Tryz.prog w = .ok (.string (strB (Lab.names r))) w := fun w => by
          have h1 := run_tail (w := w) (l := Lab.names (x :: r)) (a := 1 + y) (i := k1) (by omega) (by omega)
          rw [Lab.names_head] at h1
          rw [show 1 + y = x.length + 1 by omega, List.drop_succ_cons, List.drop_left] at h1
          rw [Lab.names_head]
          exact h1
        have g4 : (ci != 0) = true := by rw [bne_iff_ne]; omega
        have CV : Hid (IntKind.i64.wrap ci = ci) := Lib.hid (i64_of (by omega) (by omega))
        have U1 : Hid (wrap64 (1 + ci) = k1 ∧ IntKind.i64.wrap (1 + ci) = k1) := Lib.hid ⟨by rw [← hk1]; exact w64_of (by omega) (by omega), by rw [← hk1]; exact i64_of (by omega) (by omega)⟩
        generalize strB (Lab.names (x :: r)) = z at *
        have own1 := own.alloc (.cells #[.string (strB x)] 9)
        have R1 : Rd (wr.alloc (.cells #[.string (strB x)] 9)) (wr.heap.size + 1) 1 (some ⟨wr.heap.size, 0, none⟩) 1 (Tt [x]) := Rd.one wr (.string (strB x)) 9
        have bl1 := bl.alloc bl.size (.cells #[.string (strB x)] 9)
        have hsz1 : w.heap.size ≤ (wr.alloc (.cells #[.string (strB x)] 9)).heap.size := bl1.size
        have HA2 : Hid (l = (o ++ [x]) ++ r) := Lib.hid (by rw [HA.out]; simp)
        clear HA own hx hy hci hk1 hxl hxp e8 hln
        obtain ⟨u1, u2⟩ := U1.out
        have cv := CV.out
        go_wp2_with (at_builtin; refine app_law strT rfl (.tmp 15) (.tmp 19) rfl w.heap.size rfl own1 rfl R1 (Tt_one [x]) (by omega) (by omega) hsz1 ?_; rintro A2 c2 w2 ⟨own2, hg2, _, _⟩)
        go_roundw
        case rel => exact ⟨m + 1, A2, c2, o ++ [x], r, hm2, rfl, rfl, HA2, by rw [Tt_app]; exact own2, below_app bl1 own1 hg2 (Nat.le_refl _) hsz1⟩
        case measure => simp only []; omega
set_option maxHeartbeats 4000000 in
set_option maxRecDepth 20000 in
theorem bllower_any (s : List UInt8) (hs : s.length ≤ 100000) (w : World) : Calls Tryz.prog 64 #[.string (strB s)] w (TxO (Lab.lower s) w) := by
  cases hr : Lab.right s with
  | false =>
    have HE := Lib.hid (Lab.lower_no hr)
    have HR := Lib.hid hr
    clear hr
    go_enter Tryz.func64, Tryz.ntmps64
    go_wp2_with fail
    refine (cright_at HR.out (by omega) w).mono ?_
    rintro e w1 ⟨rfl, h1⟩
    go_wp2
    go_ret
    exact ⟨by rw [HE.out]; rfl, h1⟩
  | true =>
    have HR := Lib.hid hr
    clear hr
    obtain ⟨n, hn⟩ : ∃ n, s.length = n := ⟨_, rfl⟩
    have hsz : (strB s).size = n := by rw [strB_sz, hn]
    have HN := Lib.hid hn
    have hnm : n ≤ 100000 := by omega
    clear hn
    go_enter Tryz.func64, Tryz.ntmps64
    go_wp2_with fail
    refine (cright_at HR.out (by rw [HN.out]; omega) w).mono ?_
    rintro e w0 ⟨rfl, h1⟩
    have hby := run_bytes w0 (strB s)
    rw [hsz] at hby
    have L0 : Lo (w0.alloc (strO w0 (strB s))).drew w0.heap.size s := Lo.new w0 s
    have b0 : Below w.heap.size w (w0.alloc (strO w0 (strB s))).drew := (h1.alloc h1.size (strO w0 (strB s))).drew
    have h0s : w.heap.size ≤ w0.heap.size := h1.size
    obtain ⟨cp, hcp⟩ : ∃ cp, strC w0 (strB s) = cp := ⟨_, rfl⟩
    rw [hcp] at hby
    clear hs hcp h1
    go_wp2
    generalize (w0.alloc (strO w0 (strB s))).drew = w1 at *
    go_loopw [14] (fun i wr => ∃ k : Nat, k ≤ n ∧ i = .int .i64 (k : Int) ∧ Lo wr w0.heap.size (Lab.low (s.take k) ++ s.drop k) ∧ Below w.heap.size w wr) (fun i _ => n - (intOf i).toNat)
    case atStart => exact ⟨0, by omega, rfl, by simpa [Lab.low] using L0, b0⟩
    case round =>
      clear L0 b0
      obtain ⟨k, hk, rfl, L, bl⟩ := hrel
      have hk0 : (0 : Int) ≤ (k : Int) := by omega
      by_cases hlt : k < n
      · obtain ⟨x, hx⟩ : ∃ x, s[k]? = some x := ⟨_, List.getElem?_eq_getElem (by rw [HN.out]; exact hlt)⟩
        have HX := Lib.hid hx
        clear hx
        have g3 : decide (k < n) = true := decide_eq_true hlt
        have g1 : decide ((k : Int) < (n : Int)) = true := decide_eq_true (by omega)
        obtain ⟨c0, f0⟩ := L.2 k x (Lab.low_at HX.out)
        have HST := Lib.hid (Lab.low_step HX.out)
        obtain ⟨ci, hci⟩ : ∃ z : Int, (x.toNat : Int) = z := ⟨_, rfl⟩
        rw [hci] at c0
        have hx256 : x.toNat < 256 := x.toNat_lt
        by_cases hg : 65 ≤ x.toNat ∧ x.toNat ≤ 90
        · have t1 : decide (65 ≤ ci) = true := decide_eq_true (by omega)
          have t2 : decide (ci ≤ 90) = true := decide_eq_true (by omega)
          obtain ⟨z1, hz1⟩ : ∃ z : Int, ci - 65 = z := ⟨_, rfl⟩
          obtain ⟨z2, hz2⟩ : ∃ z : Int, z1 + 97 = z := ⟨_, rfl⟩
          have e1 : ((Lab.lowB x).toNat : Int) = z2 := by rw [Lab.lowB_nat, if_pos hg]; omega
          have L2 := L.set (k := k) (Lab.lowB x)
          rw [HST.out, e1] at L2
          have u1 : IntKind.u8.wrap (ci - 65) = z1 := by rw [hz1]; exact u8_of' (by omega)
          have u2 : IntKind.u8.wrap (z1 + 97) = z2 := by rw [hz2]; exact u8_of' (by omega)
          have b2 := below_set (o := k) bl (by omega) (.int .u8 z2)
          clear hg hci e1 hx256 L bl hz1 hz2
          go_wp2
          go_roundw
          case rel => exact ⟨k + 1, by omega, by go_num, L2, b2⟩
          case measure => simp [intOf]; omega
        · have e1 := Lab.lowB_no hg
          have L2 : Lo wr w0.heap.size (Lab.low (s.take (k + 1)) ++ s.drop (k + 1)) := by
            rw [← HST.out, e1]
            have h1 := Lab.low_at HX.out
            have h2 : (Lab.low (s.take k) ++ s.drop k).set k x = Lab.low (s.take k) ++ s.drop k := by
              refine List.ext_getElem? fun j => ?_
              by_cases e : k = j
              · subst e; rw [List.getElem?_set_self (List.getElem?_eq_some_iff.1 h1).1, h1]
              · rw [List.getElem?_set_ne e]
            rw [h2]
            exact L
          by_cases ha : 65 ≤ x.toNat
          · have t1 : decide (65 ≤ ci) = true := decide_eq_true (by omega)
            have t2 : decide (ci ≤ 90) = false := decide_eq_false (by omega)
            clear hg hci e1 hx256 ha L
            go_wp2
            go_roundw
            case rel => exact ⟨k + 1, by omega, by go_num, L2, bl⟩
            case measure => simp [intOf]; omega
          · have t1 : decide (65 ≤ ci) = false := decide_eq_false (by omega)
            clear hg hci e1 hx256 ha L
            go_wp2
            go_roundw
            case rel => exact ⟨k + 1, by omega, by go_num, L2, bl⟩
            case measure => simp [intOf]; omega
      · have hkn : k = n := by omega
        have g3 : decide (k < n) = false := decide_eq_false hlt
        have g1 : decide ((k : Int) < (n : Int)) = false := decide_eq_false (by omega)
        have ST : Hid (Lab.low (s.take k) ++ s.drop k = Lab.lower s) := Lib.hid (by
          have hl := HN.out
          unfold Lab.lower
          rw [if_pos HR.out, List.take_of_length_le (by omega), List.drop_of_length_le (by omega), List.append_nil])
        obtain ⟨t, ht⟩ : ∃ t, Lab.lower s = t := ⟨_, rfl⟩
        have HTT := Lib.hid ht
        rw [ht] at ST
        clear ht
        have hlen : t.length = n := by rw [← ST.out, Lab.low_mid_len, HN.out]
        rw [ST.out] at L
        have R := L.rd
        rw [hlen] at R
        have E := run_str 58 9 5 Tryz.underlying58 Tryz.underlying5 Tryz.underlying9 (c := cp) R
        clear hkn hlt hlen R
        go_wp2
        go_ret
        exact ⟨by rw [HTT.out]; rfl, bl⟩
theorem clower_at {s t : List UInt8} (e : Lab.lower s = t) (hs : s.length ≤ 100000) (w : World) : Calls Tryz.prog 64 #[.string (strB s)] w (TxO t w) := by have h := bllower_any s hs w; rw [e] at h; exact h
set_option maxHeartbeats 2000000 in
theorem blsame_any (a b : List UInt8) (ha : a.length ≤ 100000) (hb : b.length ≤ 100000) (w : World) : Calls Tryz.prog 32 #[.string (strB a), .string (strB b)] w (BoB (Lab.same a b) w) := by
  obtain ⟨za, hza⟩ : ∃ z, Lab.right a = z := ⟨_, rfl⟩
  obtain ⟨zb, hzb⟩ : ∃ z, Lab.right b = z := ⟨_, rfl⟩
  obtain ⟨ta, hta⟩ : ∃ z, Lab.lower a = z := ⟨_, rfl⟩
  obtain ⟨tb, htb⟩ : ∃ z, Lab.lower b = z := ⟨_, rfl⟩
  have EZ : Hid (Lab.same a b = (za && zb && decide (ta = tb))) := Lib.hid (by unfold Lab.same; rw [hza, hzb, hta, htb])
  obtain ⟨z, hz⟩ : ∃ z, Lab.same a b = z := ⟨_, rfl⟩
  rw [hz] at EZ ⊢
  have HZA := Lib.hid hza
  have HZB := Lib.hid hzb
  have HTA := Lib.hid hta
  have HTB := Lib.hid htb
  have b0 := Below.refl w.heap.size w
  clear hz hza hzb hta htb
  cases za
  · have EZ2 : Hid (z = false) := Lib.hid (by rw [EZ.out]; rfl)
    clear EZ
    go_enter Tryz.func32, Tryz.ntmps32
    go_wp2_with fail
    refine (cright_at HZA.out (by omega) w).mono ?_
    rintro e w1 ⟨rfl, h1⟩
    replace b0 := b0.trans (h1.mono b0.size)
    clear h1
    go_wp2
    go_ret
    exact ⟨ret_bool EZ2.out.symm, b0⟩
  cases zb
  · have EZ2 : Hid (z = false) := Lib.hid (by rw [EZ.out]; rfl)
    clear EZ
    go_enter Tryz.func32, Tryz.ntmps32
    go_wp2_with fail
    refine (cright_at HZA.out (by omega) w).mono ?_
    rintro e w1 ⟨rfl, h1⟩
    replace b0 := b0.trans (h1.mono b0.size)
    clear h1
    go_wp2_with fail
    refine (cright_at HZB.out (by omega) w1).mono ?_
    rintro e w2 ⟨rfl, h1⟩
    replace b0 := b0.trans (h1.mono b0.size)
    clear h1
    go_wp2
    go_ret
    exact ⟨ret_bool EZ2.out.symm, b0⟩
  have EZ2 : Hid ((strB ta == strB tb) = z) := Lib.hid (by rw [EZ.out, strB_beq]; simp)
  have EZ3 : Hid ((ta == tb) = z) := Lib.hid (by rw [EZ.out]; by_cases h : ta = tb <;> simp [h])
  clear EZ
  go_enter Tryz.func32, Tryz.ntmps32
  go_wp2_with fail
  refine (cright_at HZA.out (by omega) w).mono ?_
  rintro e w1 ⟨rfl, h1⟩
  replace b0 := b0.trans (h1.mono b0.size)
  clear h1
  go_wp2_with fail
  refine (cright_at HZB.out (by omega) w1).mono ?_
  rintro e w2 ⟨rfl, h1⟩
  replace b0 := b0.trans (h1.mono b0.size)
  clear h1
  go_wp2_with fail
  refine (clower_at HTA.out ha w2).mono ?_
  rintro e w3 ⟨rfl, h1⟩
  replace b0 := b0.trans (h1.mono b0.size)
  clear h1
  go_wp2_with fail
  refine (clower_at HTB.out hb w3).mono ?_
  rintro e w4 ⟨rfl, h1⟩
  replace b0 := b0.trans (h1.mono b0.size)
  clear h1
  have e1 := EZ2.out
  have e2 := EZ3.out
  go_wp2
  go_ret
  exact ⟨ret_bool (by first | exact e1 | exact e2 | simp_all), b0⟩
end Go.Proofs.YtmbfldcmiabccaaGreatDoor

