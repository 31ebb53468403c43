/- ZMath3 OMath YRef4 OMem ORef BRef (merged). -/
import Derived.Deep.DeepCutAuto
import Derived.Test.YtmbfldcmiabccaaGreatDoorJF01
import Derived.Test.YtmbfldcmiabccaaGreatDoorJF04
import Derived.Test.YtmbfldcmiabccaaGreatDoorJF05
import Derived.Test.YtmbfldcmiabccaaGreatDoorJF07
import Derived.Test.YtmbfldcmiabccaaGreatDoorJF08
namespace Go.Proofs.YtmbfldcmiabccaaGreatDoor
set_option linter.unusedVariables false
set_option linter.unusedSimpArgs false
namespace Pk
theorem same_comm (a b : List UInt8) : Lab.same a b = Lab.same b a := by
  unfold Lab.same
  rw [Bool.and_comm (Lab.right a)]
  congr 1
  by_cases h : Lab.lower a = Lab.lower b
  · rw [decide_eq_true h, decide_eq_true h.symm]
  · rw [decide_eq_false h, decide_eq_false fun e => h e.symm]
/-- are two records the same but for letters of names -/
def near (x y : Rrc) : Prop := Lab.same x.name y.name = true ∧ x.typ = y.typ ∧ x.cls = y.cls ∧ x.ttl = y.ttl ∧ x.data = y.data
def begins (l all : List Rrc) : Prop := l.length ≤ all.length ∧ ∀ (i : Nat) (x y : Rrc), l[i]? = some x → all[i]? = some y → near x y
end Pk
end Go.Proofs.YtmbfldcmiabccaaGreatDoor

namespace Go.Proofs.YtmbfldcmiabccaaGreatDoor
set_option linter.unusedVariables false
set_option linter.unusedSimpArgs false
/-- a scene -/
structure Scn where
  view : List Nm
  alive : List Int
  dom : List UInt8
deriving DecidableEq
namespace Zo
def counts (s : Scn) : List Int := (s.view.filter fun x => decide (x.node ∈ s.alive) && Y.up x.st.apps).map Nm.node
def ahead (dom : List UInt8) (ls : List (List UInt8)) : List UInt8 × Bool :=
  if Lab.right dom = true then ((Lab.join (ls ++ Lab.labels dom)).1, decide ((Lab.join (ls ++ Lab.labels dom)).2 = 0)) else ([], false)
def hostL (n : Int) : List UInt8 := [110, UInt8.ofNat (48 + n.toNat)]
def hostN (dom : List UInt8) (n : Int) : List UInt8 × Bool := if n < 0 ∨ 7 < n then ([], false) else ahead dom [hostL n]
def srvL (x : Svc) : List (List UInt8) := [95 :: x.name, 95 :: x.proto]
def tells (dom name : List UInt8) (x : Svc) : Bool := (ahead dom (srvL x)).2 && x.well && Lab.same (ahead dom (srvL x)).1 name
def apps (v : List Nm) (n : Int) : List Ent := match V.get v n with | some st => st.apps | none => []
def offered (s : Scn) (n : Int) (name : List UInt8) : List Svc := (Y.all (apps s.view n)).filter (tells s.dom name)
def hostIs (dom name : List UInt8) (n : Int) : Bool := (hostN dom n).2 && Lab.same (hostN dom n).1 name
def host (s : Scn) (name : List UInt8) : Int := ((counts s).find? (hostIs s.dom name)).getD (-1)
def some_ (s : Scn) (name : List UInt8) (n : Int) : Bool := !(offered s n name).isEmpty
def is (s : Scn) (name : List UInt8) : Bool := Lab.same name s.dom || decide (0 ≤ host s name) || (counts s).any (some_ s name)
def soa : List UInt8 := [0, 0, 0, 1, 0, 0, 0, 5, 0, 0, 0, 5, 0, 0, 0, 5, 0, 0, 0, 5]
def ns (dom : List UInt8) : List UInt8 × Bool := ahead dom [[110, 115]]
def root (dom : List UInt8) : List UInt8 × Bool := ahead dom [[114, 111, 111, 116]]
/-- the data of type 6 -/
def first (dom : List UInt8) : List UInt8 × Bool := ((ns dom).1 ++ (root dom).1 ++ soa, (ns dom).2 && (root dom).2)
def start (s : Scn) : Rrc × Bool := if (first s.dom).2 = true then (⟨s.dom, 6, 1, 5, (first s.dom).1⟩, true) else (⟨[], 0, 0, 0, []⟩, false)
def addr (l : List Ent) (key : Int) : List UInt8 × Bool :=
  if Y.there l key = true ∧ ((key = 1 ∧ (Y.valOf l key).length = 4) ∨ (key = 2 ∧ (Y.valOf l key).length = 16)) then (Y.valOf l key, true) else ([], false)
def srvD (dom : List UInt8) (n : Int) (x : Svc) : List UInt8 := Pk.b2 x.prio.toNat ++ Pk.b2 x.wt.toNat ++ Pk.b2 x.port.toNat ++ (hostN dom n).1
def keyOf (typ : Int) : Int := if typ = 28 then 2 else 1
def addrs (s : Scn) (name : List UInt8) (typ : Int) : List (List UInt8) :=
  if 0 ≤ host s name ∧ (addr (apps s.view (host s name)) (keyOf typ)).2 = true then [(addr (apps s.view (host s name)) (keyOf typ)).1] else []
def srvs (s : Scn) (name : List UInt8) (n : Int) : List (List UInt8) := if (hostN s.dom n).2 = true then (offered s n name).map (srvD s.dom n) else []
def datas (s : Scn) (name : List UInt8) (typ : Int) : List (List UInt8) :=
  if typ = 1 ∨ typ = 28 then addrs s name typ
  else if typ = 2 then (if Lab.same name s.dom = true ∧ (ns s.dom).2 = true then [(ns s.dom).1] else [])
  else if typ = 6 then (if Lab.same name s.dom = true ∧ (first s.dom).2 = true then [(first s.dom).1] else [])
  else if typ = 33 then (counts s).flatMap (srvs s name)
  else []
def rcd (name : List UInt8) (typ : Int) (d : List UInt8) : Rrc := ⟨name, typ, 1, 5, d⟩
def tell (s : Scn) (name : List UInt8) (typ : Int) : List Rrc := (datas s name typ).map (rcd name typ)
theorem tell_len (s : Scn) (name : List UInt8) (typ : Int) : (tell s name typ).length = (datas s name typ).length := List.length_map ..
theorem datas33 (s : Scn) (name : List UInt8) : datas s name 33 = (counts s).flatMap (srvs s name) := rfl
theorem host_none {s : Scn} {name : List UInt8} (h : ∀ n ∈ counts s, hostIs s.dom name n = false) : host s name = -1 := by
  unfold host
  rw [List.find?_eq_none.2 fun n hn => by rw [h n hn]; simp]
  rfl
/-! ### A scene in which nobody is alive -/
/-! ### Without what isn't alive and up -/
theorem rising_filter {l : List Nm} (h : V.rising l) (p : Nm → Bool) : V.rising (l.filter p) := by
  induction l with
  | nil => exact h
  | cons x r ih =>
    rw [List.filter_cons]
    split
    · exact ⟨fun y hy => h.1 y (List.mem_filter.1 hy).1, ih h.2⟩
    · exact ih h.2
theorem flat_congr {α β : Type} {l : List α} {f g : α → List β} (h : ∀ x ∈ l, f x = g x) : l.flatMap f = l.flatMap g := by
  induction l with
  | nil => rfl
  | cons x r ih => rw [List.flatMap_cons, List.flatMap_cons, h x (by simp), ih fun y hy => h y (by simp [hy])]
/-! ### Letters -/
/-! ### Hosts -/
theorem ahead_yes {dom : List UInt8} {ls : List (List UInt8)} (h : (ahead dom ls).2 = true) : ∃ l, Lab.ok l ∧ Lab.names l = dom ∧ Lab.ok (ls ++ l) ∧ (ahead dom ls).1 = Lab.names (ls ++ l) := by
  unfold ahead at h ⊢
  split at h
  · rename_i hr
    rw [if_pos hr]
    obtain ⟨l, hl, rfl⟩ := Lab.right_iff.1 hr
    rw [Lab.labels_names hl] at h ⊢
    obtain ⟨h1, h2⟩ := Lab.join_once (of_decide_eq_true h)
    exact ⟨l, hl, rfl, h1, h2⟩
  · cases h
theorem hostN_yes {dom : List UInt8} {n : Int} (h : (hostN dom n).2 = true) : 0 ≤ n ∧ n ≤ 7 ∧ ∃ l, Lab.ok l ∧ Lab.names l = dom ∧ Lab.ok (hostL n :: l) ∧ (hostN dom n).1 = Lab.names (hostL n :: l) := by
  unfold hostN at h ⊢
  split at h
  · cases h
  · rename_i hn
    rw [if_neg hn]
    obtain ⟨l, h1, h2, h3, h4⟩ := ahead_yes h
    exact ⟨by omega, by omega, l, h1, h2, h3, h4⟩
theorem lowB_digit {n : Int} (h0 : 0 ≤ n) (h7 : n ≤ 7) : Lab.lowB (UInt8.ofNat (48 + n.toNat)) = UInt8.ofNat (48 + n.toNat) := by
  have : (UInt8.ofNat (48 + n.toNat)).toNat = 48 + n.toNat := by rw [UInt8.toNat_ofNat']; omega
  unfold Lab.lowB
  rw [this, if_neg (by omega)]
theorem host_inj {dom : List UInt8} {n m : Int} (hn : (hostN dom n).2 = true) (hm : (hostN dom m).2 = true) (h : Lab.same (hostN dom m).1 (hostN dom n).1 = true) : m = n := by
  obtain ⟨n0, n7, l, hl, e1, o1, e2⟩ := hostN_yes hn
  obtain ⟨m0, m7, l', hl', e1', o1', e2'⟩ := hostN_yes hm
  have hll : l = l' := Lab.names_inj hl hl' (e1.trans e1'.symm)
  subst hll
  rw [e2, e2', Lab.same_names o1' o1] at h
  unfold Lab.lows at h
  simp only [List.map_cons, List.cons.injEq] at h
  have h1 := h.1
  unfold Lab.low hostL at h1
  simp only [List.map_cons, List.map_nil, List.cons.injEq, and_true] at h1
  have h2 := h1.2
  rw [lowB_digit m0 m7, lowB_digit n0 n7] at h2
  have h3 := congrArg UInt8.toNat h2
  rw [UInt8.toNat_ofNat', UInt8.toNat_ofNat'] at h3
  omega
theorem counts_len (s : Scn) : (counts s).length ≤ s.view.length := by unfold counts; rw [List.length_map]; exact List.length_filter_le ..
/-! ### The domain itself -/
end Zo
end Go.Proofs.YtmbfldcmiabccaaGreatDoor

namespace Go.Proofs.YtmbfldcmiabccaaGreatDoor
set_option linter.unusedVariables false
set_option linter.unusedSimpArgs false
open Go.RowKit
set_option maxHeartbeats 1000000 in
theorem ryup_any (l : List Ent) (A : Option Addr) (n c : Nat) (w : World) (h : Rd w w.heap.size 3 A n (EC l)) (hn : n * 32 ≤ 140737488351232) :
    Calls Tryz.prog 31 #[.slice A n c] w fun e w' => e = .returned (.bool (Y.up l)) ∧ Below w.heap.size w w' := by
  have ct := rget_any l 0 A n c _ w h (Nat.le_refl _) hn
  obtain ⟨o, ho⟩ : ∃ o, E.get l 0 = o := ⟨_, rfl⟩
  rw [ho] at ct
  have HO := Lib.hid ho
  clear h hn ho
  go_enter Tryz.func31, Tryz.ntmps31
  go_wp2_with fail
  refine ct.mono ?_
  clear ct
  rintro e w2 ⟨rfl, hb⟩
  cases o with
  | none =>
    have U : Hid (Y.up l = false) := Lib.hid (by unfold Y.up Y.there; rw [HO.out]; rfl)
    simp only [getV, Option.isSome_none]
    go_wp2
    go_ret
    exact ⟨ret_bool U.out.symm, hb.alloc hb.size _⟩
  | some x =>
    obtain ⟨u, hu⟩ : ∃ u, decide (x.val = [117, 112]) = u := ⟨_, rfl⟩
    have U : Hid (Y.up l = u) := Lib.hid (by unfold Y.up Y.there Y.valOf; rw [HO.out, ← hu]; rfl)
    have q1 : (strB x.val == ⟨#[117, 112]⟩) = u := by rw [← hu]; exact strB_beq x.val [117, 112]
    have q2 : (x.val == [117, 112]) = u := by rw [← hu]; by_cases hv : x.val = [117, 112] <;> simp [hv]
    have X := Box.new w2 #[.int .i64 x.key, .int .i64 x.ver, .string (strB x.val)] 48
    have x2 := X.at 2 rfl
    clear hu
    simp only [getV, Option.isSome_some, ev]
    go_wp2
    go_ret
    exact ⟨ret_bool U.out.symm, hb.alloc hb.size _⟩
set_option maxHeartbeats 4000000 in
theorem ryaddress_any (l : List Ent) (key : Int) (A : Option Addr) (n c : Nat) (w : World) (h : Rd w w.heap.size 3 A n (EC l)) (hn : n * 32 ≤ 140737488351232) :
    Calls Tryz.prog 45 #[.slice A n c, .int .i64 key] w fun e w' => e = .returned (.tuple #[.string (strB (Zo.addr l key).1), .bool (Zo.addr l key).2]) ∧ Below w.heap.size w w' := by
  have ct := rget_any l key A n c _ w h (Nat.le_refl _) hn
  obtain ⟨o, ho⟩ : ∃ o, E.get l key = o := ⟨_, rfl⟩
  rw [ho] at ct
  have HO := Lib.hid ho
  clear h hn ho
  go_enter Tryz.func45, Tryz.ntmps45
  go_wp2_with fail
  refine ct.mono ?_
  clear ct
  rintro e w2 ⟨rfl, hb⟩
  cases o with
  | none =>
    have U : Hid (Zo.addr l key = ([], false)) := Lib.hid (by unfold Zo.addr Y.there; rw [HO.out, if_neg (by simp)])
    simp only [getV, Option.isSome_none]
    go_wp2
    go_ret2
    exact ⟨by rw [U.out]; rfl, hb.alloc hb.size _⟩
  | some x =>
    obtain ⟨ln, hln⟩ : ∃ n, x.val.length = n := ⟨_, rfl⟩
    have hsz : ((strB x.val).size : Int) = (ln : Int) := by rw [strB_size, hln]
    have X := Box.new w2 #[.int .i64 x.key, .int .i64 x.ver, .string (strB x.val)] 48
    have x2 := X.at 2 rfl
    have U : Hid (Zo.addr l key = if (key = 1 ∧ ln = 4) ∨ (key = 2 ∧ ln = 16) then (x.val, true) else ([], false)) := Lib.hid (by
      unfold Zo.addr Y.there Y.valOf
      rw [HO.out]
      simp only [Option.isSome_some, true_and, hln])
    have HLN := Lib.hid hln
    clear hln
    simp only [getV, Option.isSome_some, ev]
    obtain ⟨b1, h1⟩ : ∃ b, (key == 1) = b := ⟨_, rfl⟩
    obtain ⟨b2, h2⟩ : ∃ b, ((ln : Int) == 4) = b := ⟨_, rfl⟩
    obtain ⟨b3, h3⟩ : ∃ b, (key == 2) = b := ⟨_, rfl⟩
    obtain ⟨b4, h4⟩ : ∃ b, ((ln : Int) == 16) = b := ⟨_, rfl⟩
    have V : Hid (((key = 1 ∧ ln = 4) ∨ (key = 2 ∧ ln = 16)) ↔ (b1 && b2 || b3 && b4) = true) := Lib.hid (by
      rw [← h1, ← h2, ← h3, ← h4]
      simp only [Bool.or_eq_true, Bool.and_eq_true, beq_iff_eq]
      omega)
    cases b1 <;> cases b2 <;> cases b3 <;> cases b4 <;> (go_wp2; go_ret2; refine ⟨?_, hb.alloc hb.size _⟩; rw [U.out]; first | (rw [if_pos (V.out.2 rfl)]; done) | (rw [if_pos (V.out.2 rfl)]; rfl) | (rw [if_neg (fun hh => by have := V.out.1 hh; cases this)]; rfl))
theorem all_app : ∀ (l m : List Ent), Y.all (l ++ m) = Y.all l ++ Y.all m
  | [], _ => rfl
  | x :: l, m => by
    show (if Y.tells x then (Y.dec x.val).1 :: Y.all (l ++ m) else Y.all (l ++ m)) = (if Y.tells x then (Y.dec x.val).1 :: Y.all l else Y.all l) ++ Y.all m
    rw [all_app l m]
    split <;> rfl
theorem svcT : SlT Tryz.prog 70 46 (.agg #[.string ⟨#[]⟩, .string ⟨#[]⟩, .int .i64 0, .int .i64 0, .int .i64 0, .bool false]) 6 64 := ⟨Tryz.underlying70, by kernel_rfl, rfl, by omega⟩
theorem yc_one (x : Svc) : ∀ u ∈ yc x, u.oneCell' = true := by
  intro u hu
  simp only [yc, List.mem_cons, List.not_mem_nil, or_false] at hu
  rcases hu with rfl | rfl | rfl | rfl | rfl | rfl <;> rfl
theorem own_belowY {w w' : World} {base e size n : Nat} {v : Value} {xs : List Value} (h : w.ownsRow base e size v n xs) (hb : Below w.heap.size w w') : w'.ownsRow base e size v n xs := by
  refine ⟨h.1, ?_⟩
  rcases h.2 with h0 | ⟨g, cap, cur, hv, hbg, hg, rest⟩
  · exact .inl h0
  · exact .inr ⟨g, cap, cur, hv, hbg, (hb.block g (lt_of_block hg)).trans hg, rest⟩
theorem cell_of_belowY {w w' : World} {b o : Nat} {v : Value} (hb : Below w.heap.size w w') (h : w.cell? ⟨b, o, none⟩ = some v) (hlt : b < w.heap.size) : w'.cell? ⟨b, o, none⟩ = some v := (hb.cell (p := ⟨b, o, none⟩) hlt).trans h
/-- services that were made -/
def OwnY (l : List Svc) (w : World) (e : Ending) (w' : World) : Prop :=
  ∃ (A : Option Addr) (n c : Nat), e = .returned (.slice A n c) ∧ l.length = n ∧ w'.ownsRow w.heap.size 46 6 (.slice A n c) n (FC yc l) ∧ Below w.heap.size w w'
set_option maxHeartbeats 4000000 in
theorem ryall_any (l : List Ent) (A : Option Addr) (n c : Nat) (w : World) (h : Rd w w.heap.size 3 A n (EC l)) (hn : n ≤ 1000000) (hv : ∀ x ∈ l, x.val.length ≤ 140737488351232) :
    Calls Tryz.prog 68 #[.slice A n c] w (OwnY (Y.all l) w) := by
  have HL := Lib.hid h.lenE
  have HV := Lib.hid hv
  clear hv
  go_enter Tryz.func68, Tryz.ntmps68
  go_wp2
  go_loopw [3, 4] (fun v i wr => ∃ (k m : Nat) (A1 : Option Addr) (c1 : Nat), k ≤ n ∧ m ≤ k ∧ v = .slice A1 m c1 ∧ i = .int .i64 (k : Int) ∧ Hid ((Y.all (l.take k)).length = m) ∧ wr.ownsRow w.heap.size 46 6 (.slice A1 m c1) m (FC yc (Y.all (l.take k))) ∧ Below w.heap.size w wr) (fun _ i _ => n - (intOf i).toNat)
  case atStart => exact ⟨0, 0, none, 0, Nat.zero_le _, Nat.le_refl _, rfl, rfl, Lib.hid rfl, World.ownsRow_nil _ _ _ _, Below.refl _ _⟩
  case round =>
    obtain ⟨k, m, A1, c1, hk, hm, rfl, rfl, hml, own, b⟩ := hrel
    have hbs := b.size
    by_cases hlt : k < n
    · obtain ⟨bq, oq, x, rfl, hbq, hx, e0, e1, e2⟩ := (h.belowH b).atE hlt
      obtain ⟨⟨s, er⟩, hd⟩ : ∃ z, Y.dec x.val = z := ⟨_, rfl⟩
      have HX := Lib.hid hx
      have HD := Lib.hid hd
      have HVX := Lib.hid (HV.out x (List.mem_of_getElem? hx))
      have ct := rydecode_any x.val HVX.out wr
      rw [hd] at ct
      have hk0 : (0 : Int) ≤ (k : Int) := by omega
      have AT : Hid (Y.all (l.take (k + 1)) = Y.all (l.take k) ++ if Y.tells x then [s] else []) := Lib.hid (by
        rw [take_more hx, all_app]
        show _ ++ (if Y.tells x then (Y.dec x.val).1 :: Y.all [] else Y.all []) = _
        rw [hd]
        rfl)
      have TL : Hid (Y.tells x ↔ 3 ≤ x.key ∧ er = 0) := Lib.hid (by unfold Y.tells; rw [hd])
      clear hx hd
      go_wp2_with fail
      refine ct.mono ?_
      clear ct
      rintro e w2 ⟨rfl, hb⟩
      have e0' := cell_of_belowY hb e0 hbq
      have X := Box.new w2 #[.string (strB s.name), .string (strB s.proto), .int .i64 s.port, .int .i64 s.prio, .int .i64 s.wt, .bool s.well] 46
      have hal := (Below.refl w2.heap.size w2).alloc (Nat.le_refl _) (.cells #[.string (strB s.name), .string (strB s.proto), .int .i64 s.port, .int .i64 s.prio, .int .i64 s.wt, .bool s.well] 46)
      have own2 := own_belowY own (hb.trans (hal.mono hb.size))
      have b2 := b.trans ((hb.trans (hal.mono hb.size)).mono hbs)
      replace e0' := cell_of_belowY hal e0' (Nat.lt_of_lt_of_le hbq hb.size)
      have x0 := X.at 0 rfl
      have x1 := X.at 1 rfl
      have x2 := X.at 2 rfl
      have x3 := X.at 3 rfl
      have x4 := X.at 4 rfl
      have x5 := X.at 5 rfl
      have hs2 : w2.heap.size < (w2.alloc (.cells #[.string (strB s.name), .string (strB s.proto), .int .i64 s.port, .int .i64 s.prio, .int .i64 s.wt, .bool s.well] 46)).heap.size := by simp
      simp only [ysv]
      clear hb hal e0 e1 e2 own
      by_cases hk3 : 3 ≤ x.key
      · have d1 : decide (3 ≤ x.key) = true := decide_eq_true hk3
        by_cases her : er = 0
        · have HT : Hid (Y.all (l.take (k + 1)) = Y.all (l.take k) ++ [s]) := Lib.hid (by rw [AT.out, if_pos (TL.out.2 ⟨hk3, her⟩)])
          have d2 : (er == 0) = true := by rw [beq_iff_eq]; exact her
          have hbase : w.heap.size ≤ (w2.alloc (.cells #[.string (strB s.name), .string (strB s.proto), .int .i64 s.port, .int .i64 s.prio, .int .i64 s.wt, .bool s.well] 46)).heap.size := b2.size
          clear her hk3
          clear X b hs2
          go_upto_region 7 with fail
          generalize (w2.alloc (.cells #[.string (strB s.name), .string (strB s.proto), .int .i64 s.port, .int .i64 s.prio, .int .i64 s.wt, .bool s.well] 46)) = w4 at *
          go_wp2_with (at_builtin; refine pushF_law (f := yc) (y := s) svcT yc_len yc_one rfl (.tmp 32) (.tmp 34) rfl w.heap.size rfl rfl rfl own2 (by omega) (by omega) hbase ?_; rintro A3 c3 w3 hown3 hb3 _)
          go_roundw
          case rel => exact ⟨k + 1, m + 1, A3, c3, by omega, by omega, rfl, by go_num, Lib.hid (by rw [HT.out, List.length_append, hml.out]; rfl), by rw [HT.out]; exact hown3, b2.trans (hb3.mono (Nat.le_refl _))⟩
          case measure => simp [intOf]; omega
        · have HT : Hid (Y.all (l.take (k + 1)) = Y.all (l.take k)) := Lib.hid (by rw [AT.out, if_neg (fun hh => her (TL.out.1 hh).2), List.append_nil])
          have d2 : (er == 0) = false := by rw [beq_eq_false_iff_ne]; exact her
          clear her hk3
          go_wp2
          go_roundw
          case rel => exact ⟨k + 1, m, A1, c1, by omega, by omega, rfl, by go_num, Lib.hid (by rw [HT.out]; exact hml.out), by rw [HT.out]; exact own2, b2⟩
          case measure => simp [intOf]; omega
      · have d1 : decide (3 ≤ x.key) = false := decide_eq_false hk3
        have HT : Hid (Y.all (l.take (k + 1)) = Y.all (l.take k)) := Lib.hid (by rw [AT.out, if_neg (fun hh => hk3 (TL.out.1 hh).1), List.append_nil])
        clear hk3
        go_wp2
        go_roundw
        case rel => exact ⟨k + 1, m, A1, c1, by omega, by omega, rfl, by go_num, Lib.hid (by rw [HT.out]; exact hml.out), by rw [HT.out]; exact own2, b2⟩
        case measure => simp [intOf]; omega
    · have E : Hid (l.take k = l) := Lib.hid (List.take_of_length_le (by rw [HL.out]; omega))
      rw [E.out] at own hml
      go_wp2
      go_ret
      exact ⟨A1, m, c1, rfl, hml.out, own, b⟩
end Go.Proofs.YtmbfldcmiabccaaGreatDoor

namespace Go.Proofs.YtmbfldcmiabccaaGreatDoor
set_option linter.unusedVariables false
set_option linter.unusedSimpArgs false
open Go.RowKit
structure Sn where
  v : Vw
  al : List Int
  B : Option Addr
  m : Nat
  d : Nat
  dom : List UInt8
def Sn.sc (s : Sn) : Scn := ⟨s.v.view, s.al, s.dom⟩
def snval (s : Sn) : Value := .agg #[.slice s.v.A s.v.n s.v.c, .slice s.B s.m s.d, .string (strB s.dom)]
/-- the scene's box -/
def sncs (s : Sn) : Array Value := #[.slice s.v.A s.v.n s.v.c, .slice s.B s.m s.d, .string (strB s.dom)]
def SnRd (w : World) (s : Sn) : Prop := VRd w s.v ∧ Rd w w.heap.size 1 s.B s.m (I s.al)
theorem SnRd.belowH {w w' : World} {s : Sn} (h : SnRd w s) (hb : Below w.heap.size w w') : SnRd w' s := ⟨h.1.belowH hb, Rd.belowH h.2 hb⟩
theorem SnRd.alloc {w : World} {s : Sn} (h : SnRd w s) (o : Obj) : SnRd (w.alloc o) s := h.belowH ((Below.refl w.heap.size w).alloc (Nat.le_refl _) o)
theorem SnRd.drew {w : World} {s : Sn} (h : SnRd w s) : SnRd w.drew s := h
/-- what fits -/
def SnFit (s : Sn) : Prop := s.v.n ≤ 1000 ∧ VFit s.v ∧ s.m ≤ 1000
def zcl (y : Int) : List Value := [.int .i64 y]
theorem zcl_len (y : Int) : (zcl y).length = 1 := rfl
theorem zcl_one (y : Int) : ∀ u ∈ zcl y, u.oneCell' = true := by
  intro u hu
  rw [zcl, List.mem_singleton] at hu
  subst hu
  rfl
theorem zcl_I (l : List Int) : FC zcl l = I l := by
  induction l with
  | nil => rfl
  | cons x l ih => show .int .i64 x :: FC zcl l = .int .i64 x :: I l; rw [ih]
/-- ints that were made -/
def OwnI (l : List Int) (w : World) (e : Ending) (w' : World) : Prop :=
  ∃ (A : Option Addr) (n c : Nat), e = .returned (.slice A n c) ∧ l.length = n ∧ w'.ownsRow w.heap.size 3 1 (.slice A n c) n (I l) ∧ Below w.heap.size w w'
namespace Zo
def cnt (al : List Int) (x : Nm) : Bool := decide (x.node ∈ al) && Y.up x.st.apps
def cnts (al : List Int) (l : List Nm) : List Int := (l.filter (cnt al)).map Nm.node
theorem counts_cnts (s : Scn) : counts s = cnts s.alive s.view := rfl
theorem cnts_app (al : List Int) (l m : List Nm) : cnts al (l ++ m) = cnts al l ++ cnts al m := by unfold cnts; rw [List.filter_append, List.map_append]
theorem cnts_yes {al : List Int} {x : Nm} (h : cnt al x = true) : cnts al [x] = [x.node] := by unfold cnts; rw [List.filter_cons, if_pos h]; rfl
theorem cnts_no {al : List Int} {x : Nm} (h : cnt al x = false) : cnts al [x] = [] := by unfold cnts; rw [List.filter_cons, if_neg (by rw [h]; simp)]; rfl
end Zo
end Go.Proofs.YtmbfldcmiabccaaGreatDoor

namespace Go.Proofs.YtmbfldcmiabccaaGreatDoor
set_option linter.unusedVariables false
set_option linter.unusedSimpArgs false
open Go.RowKit
set_option maxHeartbeats 4000000 in
theorem rocounts_any (s : Sn) (w : World) (h : SnRd w s) (hf : SnFit s) :
    Calls Tryz.prog 13 #[snval s] w (OwnI (Zo.counts s.sc) w) := by
  obtain ⟨⟨l, A, n, c⟩, al, B, m, d, dom⟩ := s
  obtain ⟨hn, hfit, hm⟩ := hf
  obtain ⟨hv, hal⟩ := h
  have hl := hv.len
  have HF := Lib.hid hfit
  simp only at hn hm hl hal
  have HL := Lib.hid hl
  clear hl hfit
  have X := Box.new w #[.slice A n c, .slice B m d, .string (strB dom)] 25
  have bw := (Below.refl w.heap.size w).alloc (Nat.le_refl _) (.cells #[.slice A n c, .slice B m d, .string (strB dom)] 25)
  have hsz : (w.alloc (.cells #[.slice A n c, .slice B m d, .string (strB dom)] 25)).heap.size = w.heap.size + 1 := by simp
  simp only [snval]
  go_enter Tryz.func13, Tryz.ntmps13
  go_upto_region 1 with fail
  generalize (w.alloc (.cells #[.slice A n c, .slice B m d, .string (strB dom)] 25)) = w0 at *
  go_wp2
  go_loopw [3, 4] (fun v i wr => ∃ (k j : Nat) (A1 : Option Addr) (c1 : Nat), k ≤ n ∧ j ≤ k ∧ v = .slice A1 j c1 ∧ i = .int .i64 (k : Int) ∧ Hid ((Zo.cnts al ((l.take k).map Nv.nm)).length = j) ∧ wr.ownsRow (w.heap.size + 1) 3 1 (.slice A1 j c1) j (FC zcl (Zo.cnts al ((l.take k).map Nv.nm))) ∧ Below (w.heap.size + 1) w0 wr) (fun _ i _ => n - (intOf i).toNat)
  case atStart => exact ⟨0, 0, none, 0, Nat.zero_le _, Nat.le_refl _, rfl, rfl, Lib.hid rfl, World.ownsRow_nil _ _ _ _, Below.refl _ _⟩
  case round =>
    obtain ⟨k, j, A1, c1, hk, hj, rfl, rfl, hjl, own, b⟩ := hrel
    have hbs := b.size
    have hb0 := hbs
    rw [hsz] at hb0
    have bWr : Below w.heap.size w wr := bw.trans (b.mono (Nat.le_succ _))
    have X1 := X.below b (Nat.lt_succ_self _)
    have x0 := X1.at 0 rfl
    have x1 := X1.at 1 rfl
    by_cases hlt : k < n
    · obtain ⟨bq, oq, x, rfl, hbq, hx, hsr, d0, d1, d2, d3⟩ := hv.at hlt
      simp only at hx d0 d1 d2 d3
      have hk0 : (0 : Int) ≤ (k : Int) := by omega
      have AT : Hid (Zo.cnts al ((l.take (k + 1)).map Nv.nm) = Zo.cnts al ((l.take k).map Nv.nm) ++ Zo.cnts al [x.nm]) := Lib.hid (by rw [take_more hx, List.map_append, Zo.cnts_app]; rfl)
      have hfx := HF.out x (List.mem_of_getElem? hx)
      have hs1 := hsr.belowH bWr
      have ha1 := Rd.belowH hal bWr
      replace d0 := (bWr.cell (p := ⟨bq, oq + k * 4, none⟩) hbq).trans d0
      replace d3 := (bWr.cell (p := ⟨bq, oq + k * 4 + 3, none⟩) hbq).trans d3
      have hbr : bq < wr.heap.size := by have := bWr.size; omega
      clear hx hsr d1 d2
      obtain ⟨ha, eha⟩ : ∃ z, decide (x.node ∈ al) = z := ⟨_, rfl⟩
      obtain ⟨up, eup⟩ : ∃ z, Y.up x.v.s.apps = z := ⟨_, rfl⟩
      have C1 := rchas_any al x.node B m d _ wr.drew ha1 (by omega)
      have C2 := ryup_any x.v.s.apps x.v.A x.v.n x.v.c wr.drew hs1 (by omega)
      rw [eha] at C1
      rw [eup] at C2
      have CT : Hid (Zo.cnt al x.nm = (ha && up)) := Lib.hid (by rw [← eha, ← eup]; rfl)
      have HC1 := Lib.hid C1
      have HC2 := Lib.hid C2
      clear C1 C2 eha eup
      cases ha
      · have HT : Hid (Zo.cnts al ((l.take (k + 1)).map Nv.nm) = Zo.cnts al ((l.take k).map Nv.nm)) := Lib.hid (by rw [AT.out, Zo.cnts_no (by rw [CT.out]; rfl), List.append_nil])
        go_wp2
        refine wp_region_held_drew (S := (fun w' => (w'.cell? ⟨w.heap.size, 0, none⟩ = some (.slice (some ⟨bq, oq, none⟩) n c) ∧ w'.cell? ⟨w.heap.size, 1, none⟩ = some (.slice B m d)) ∧ w'.cell? ⟨bq, oq + k * 4, none⟩ = some (.int .i64 x.node) ∧ w'.cell? ⟨bq, oq + k * 4 + 3, none⟩ = some (.slice x.v.A x.v.n x.v.c))) (by kernel_rfl) (by exact ⟨⟨x0, x1⟩, d0, d3⟩) (fun hHeld0 => ?_)
        refine tk 0 12 rfl hHeld0 ?_
        refine tk 1 13 rfl hHeld0 ?_
        refine tk 2 14 rfl hHeld0 ?_
        refine tk 3 15 rfl hHeld0 ?_
        refine tk 4 16 rfl hHeld0 ?_
        refine tk 5 17 rfl hHeld0 ?_
        refine tk 6 18 rfl hHeld0 ?_
        refine tk 7 19 rfl hHeld0 ?_
        refine wpAnyH_ready (rs := [8]) (by kernel_rfl) (by simp) (AllReadyH.cons (o := ⟨some 20, _, _, _, _, _⟩) rfl (fun K hK => ?_) AllReadyH.nil)
        go_simp
        (refine HC1.out.mono ?_; rintro e w2 ⟨rfl, rfl⟩)
        go_simp
        refine hK.out _ _ (by exact ⟨⟨x0, x1⟩, d0, d3⟩) (fun hHeld1 => ?_)
        clear hK hHeld0 K
        try simp only [Act.put, sA, sB, sC]
        refine tk 9 21 rfl hHeld1 ?_
        refine tu 10 22 rfl hHeld1 ?_
        refine tu 11 23 rfl hHeld1 ?_
        refine tu 12 24 rfl hHeld1 ?_
        refine tu 13 25 rfl hHeld1 ?_
        refine tu 14 26 rfl hHeld1 ?_
        refine tu 15 27 rfl hHeld1 ?_
        refine tu 16 28 rfl hHeld1 ?_
        refine tu 17 29 rfl hHeld1 ?_
        refine tk 18 30 rfl hHeld1 ?_
        refine wpAnyH_done (by kernel_rfl) ?_ _
        go_wp2
        go_roundw
        case rel => exact ⟨k + 1, j, A1, c1, by omega, by omega, rfl, by go_num, Lib.hid (by rw [HT.out]; exact hjl.out), by rw [HT.out]; exact own.drew, b.drew⟩
        case measure => simp [intOf]; omega
      · go_wp2
        refine wp_region_held_drew (S := (fun w' => (w'.cell? ⟨w.heap.size, 0, none⟩ = some (.slice (some ⟨bq, oq, none⟩) n c) ∧ w'.cell? ⟨w.heap.size, 1, none⟩ = some (.slice B m d)) ∧ w'.cell? ⟨bq, oq + k * 4, none⟩ = some (.int .i64 x.node) ∧ w'.cell? ⟨bq, oq + k * 4 + 3, none⟩ = some (.slice x.v.A x.v.n x.v.c))) (by kernel_rfl) (by exact ⟨⟨x0, x1⟩, d0, d3⟩) (fun hHeld0 => ?_)
        refine tk 0 12 rfl hHeld0 ?_
        refine tk 1 13 rfl hHeld0 ?_
        refine tk 2 14 rfl hHeld0 ?_
        refine tk 3 15 rfl hHeld0 ?_
        refine tk 4 16 rfl hHeld0 ?_
        refine tk 5 17 rfl hHeld0 ?_
        refine tk 6 18 rfl hHeld0 ?_
        refine tk 7 19 rfl hHeld0 ?_
        refine wpAnyH_ready (rs := [8]) (by kernel_rfl) (by simp) (AllReadyH.cons (o := ⟨some 20, _, _, _, _, _⟩) rfl (fun K hK => ?_) AllReadyH.nil)
        go_simp
        (refine HC1.out.mono ?_; rintro e w2 ⟨rfl, rfl⟩)
        go_simp
        refine hK.out _ _ (by exact ⟨⟨x0, x1⟩, d0, d3⟩) (fun hHeld1 => ?_)
        clear hK hHeld0 K
        try simp only [Act.put, sA, sB, sC]
        refine tk 9 21 rfl hHeld1 ?_
        refine tk 10 22 rfl hHeld1 ?_
        refine tk 11 23 rfl hHeld1 ?_
        refine tk 12 24 rfl hHeld1 ?_
        refine tk 13 25 rfl hHeld1 ?_
        refine tk 14 26 rfl hHeld1 ?_
        refine tk 15 27 rfl hHeld1 ?_
        refine tk 16 28 rfl hHeld1 ?_
        refine wpAnyH_ready (rs := [17]) (by kernel_rfl) (by simp) (AllReadyH.cons (o := ⟨some 29, _, _, _, _, _⟩) rfl (fun K hK => ?_) AllReadyH.nil)
        go_simp
        (refine HC2.out.mono ?_; rintro e w2 ⟨rfl, hb2⟩; replace hb2 : Below wr.heap.size wr w2 := (Below.refl _ _).drew.trans hb2; replace d0 := (hb2.cell (p := ⟨bq, oq + k * 4, none⟩) hbr).trans d0; replace d3 := (hb2.cell (p := ⟨bq, oq + k * 4 + 3, none⟩) hbr).trans d3; have X2 := X1.below hb2 hb0; replace x0 := X2.at 0 rfl; replace x1 := X2.at 1 rfl)
        go_simp
        refine hK.out _ _ (by exact ⟨⟨x0, x1⟩, d0, d3⟩) (fun hHeld2 => ?_)
        clear hK hHeld1 K
        try simp only [Act.put, sA, sB, sC]
        refine tk 18 30 rfl hHeld2 ?_
        refine wpAnyH_done (by kernel_rfl) ?_ _
        have own2 := own_belowY own hb2
        have b2 := b.trans (hb2.mono hb0)
        have hs2 : w.heap.size + 1 ≤ w2.heap.size := by have := hb2.size; omega
        cases up
        · have HT : Hid (Zo.cnts al ((l.take (k + 1)).map Nv.nm) = Zo.cnts al ((l.take k).map Nv.nm)) := Lib.hid (by rw [AT.out, Zo.cnts_no (by rw [CT.out]; rfl), List.append_nil])
          go_wp2
          go_roundw
          case rel => exact ⟨k + 1, j, A1, c1, by omega, by omega, rfl, by go_num, Lib.hid (by rw [HT.out]; exact hjl.out), by rw [HT.out]; exact own2, b2⟩
          case measure => simp [intOf]; omega
        · have HT : Hid (Zo.cnts al ((l.take (k + 1)).map Nv.nm) = Zo.cnts al ((l.take k).map Nv.nm) ++ [x.node]) := Lib.hid (by rw [AT.out, Zo.cnts_yes (by rw [CT.out]; rfl)]; rfl)
          go_wp2_with (at_builtin; refine pushF_law (f := zcl) (y := x.node) i64C zcl_len zcl_one rfl (.tmp 31) (.tmp 38) rfl (w.heap.size + 1) rfl rfl rfl own2 (by omega) (by omega) hs2 ?_; rintro A3 c3 w3 hown3 hb3 _)
          go_roundw
          case rel => exact ⟨k + 1, j + 1, A3, c3, by omega, by omega, rfl, by go_num, Lib.hid (by rw [HT.out, List.length_append, hjl.out]; rfl), by rw [HT.out]; exact hown3, b2.trans hb3⟩
          case measure => simp [intOf]; omega
    · obtain rfl : k = n := by omega
      have E : Hid (l.take k = l) := Lib.hid (List.take_of_length_le (by rw [HL.out]; omega))
      rw [E.out] at own hjl
      rw [zcl_I] at own
      have HO := Lib.hid own
      clear own
      go_wp2
      go_ret
      exact ⟨A1, j, c1, rfl, hjl.out, own_mono HO.out (Nat.le_succ _), bWr⟩
end Go.Proofs.YtmbfldcmiabccaaGreatDoor

namespace Go.Proofs.YtmbfldcmiabccaaGreatDoor
set_option linter.unusedVariables false
set_option linter.unusedSimpArgs false
open Go.RowKit
theorem drop_at {s : List UInt8} {k : Nat} {c : UInt8} {r : List UInt8} (h : s.drop k = c :: r) : s[k]? = some c ∧ k + 1 + r.length = s.length ∧ s.drop (k + 1) = r := by
  have hl := congrArg List.length h
  rw [List.length_drop, List.length_cons] at hl
  refine ⟨?_, by omega, ?_⟩
  · have h1 := congrArg (fun l : List UInt8 => l[0]?) h
    simp only [List.getElem?_drop, Nat.add_zero, List.getElem?_cons_zero] at h1
    exact h1
  · have h2 := congrArg (List.drop 1) h
    rw [List.drop_drop, List.drop_one, List.tail_cons] at h2
    exact h2
namespace Lab
/-- a name cut so far -/
def At (s : List UInt8) (o : List (List UInt8)) (k : Nat) : Prop := (∀ x ∈ o, okL x) ∧ wires o ++ s.drop k = s ∧ (wires o).length = k
theorem at_lab {s : List UInt8} {o : List (List UInt8)} {k : Nat} (h : At s o k) : lab s = (lab (s.drop k)).map (o ++ ·) := by
  have := lab_wires h.1 (s.drop k)
  rwa [h.2.1] at this
theorem at_end {s : List UInt8} {o : List (List UInt8)} {k : Nat} (h : At s o k) (hd : s.drop k = []) : cut s = none := by
  have h1 := at_lab h
  rw [hd, lab_nil] at h1
  unfold cut
  split
  · rfl
  · exact h1
theorem at_bad {s r : List UInt8} {o : List (List UInt8)} {k : Nat} {c : UInt8} (h : At s o k) (hd : s.drop k = c :: r) (hc : c ≠ 0) (hb : 63 < c.toNat ∨ r.length < c.toNat) : cut s = none := by
  have h1 := at_lab h
  rw [hd, lab_cons, if_neg hc, if_pos hb] at h1
  unfold cut
  split
  · rfl
  · exact h1
theorem at_zero {s r : List UInt8} {o : List (List UInt8)} {k : Nat} (h : At s o k) (hd : s.drop k = 0 :: r) : cut s = if 255 < s.length then none else if r = [] then some o else none := by
  have h1 := at_lab h
  rw [hd, lab_cons, if_pos rfl] at h1
  unfold cut
  split
  · rfl
  · rw [h1]
    split
    · simp
    · rfl
theorem at_next {s r : List UInt8} {o : List (List UInt8)} {k : Nat} {c : UInt8} (h : At s o k) (hd : s.drop k = c :: r) (hc : c ≠ 0) (hb : ¬ (63 < c.toNat ∨ r.length < c.toNat)) : At s (o ++ [r.take c.toNat]) (k + 1 + c.toNat) := by
  have hlen : (r.take c.toNat).length = c.toNat := by rw [List.length_take]; omega
  have hp := pos_of hc
  have hw : wires [r.take c.toNat] = c :: r.take c.toNat := by
    show wire (r.take c.toNat) ++ [] = _
    unfold wire
    rw [hlen, UInt8.ofNat_toNat, List.append_nil]
  have hd2 : s.drop (k + 1 + c.toNat) = r.drop c.toNat := by rw [← List.drop_drop, (drop_at hd).2.2]
  refine ⟨fun x hx => ?_, ?_, ?_⟩
  · rcases List.mem_append.1 hx with hx | hx
    · exact h.1 x hx
    · obtain rfl : x = r.take c.toNat := by simpa using hx
      exact ⟨by omega, by omega⟩
  · rw [wires_app, hw, hd2, List.append_assoc]
    show wires o ++ (c :: (r.take c.toNat ++ r.drop c.toNat)) = s
    rw [List.take_append_drop, ← hd]
    exact h.2.1
  · rw [wires_app, hw, List.length_append, h.2.2, List.length_cons, hlen]
    omega
theorem at_part {s r : List UInt8} {k : Nat} {c : UInt8} (hd : s.drop k = c :: r) (n : Nat) : (s.drop (k + 1)).take n = r.take n := by rw [(drop_at hd).2.2]
end Lab
theorem i64_of {z : Int} (h1 : -9223372036854775808 ≤ z) (h2 : z ≤ 9223372036854775807) : IntKind.i64.wrap z = z := IntWalk.i64_in _ (by omega)
theorem w64_of {z : Int} (h1 : -9223372036854775808 ≤ z) (h2 : z ≤ 9223372036854775807) : wrap64 z = z := by unfold wrap64; omega
set_option maxHeartbeats 4000000 in
set_option maxRecDepth 20000 in
theorem rcut_any (s : List UInt8) (hs : s.length ≤ 1100000) (w : World) : Calls Tryz.prog 81 #[.string (strB s)] w (CutR (Lab.cut s) w) := by
  obtain ⟨n, hn⟩ : ∃ n, s.length = n := ⟨_, rfl⟩
  have hsz : (strB s).size = n := by rw [strB_sz, hn]
  rw [hn] at hs
  have HN := Lib.hid hn
  clear hn
  go_enter Tryz.func81, Tryz.ntmps81
  go_wp2
  go_loopw [4, 5] (fun v i wr => ∃ (k m : Nat) (A : Option Addr) (c : Nat) (o : List (List UInt8)), k ≤ n ∧ m ≤ k ∧ i = .int .i64 (k : Int) ∧ v = .slice A m c ∧ Hid (Lab.At s o k) ∧ wr.ownsRow w.heap.size 9 1 (.slice A m c) m (Tt o) ∧ Below w.heap.size w wr) (fun _ i _ => n - (intOf i).toNat)
  case atStart => exact ⟨0, 0, none, 0, [], by omega, by omega, rfl, rfl, Lib.hid ⟨by simp, by simp [Lab.wires], rfl⟩, World.ownsRow_nil _ _ _ _, Below.refl _ _⟩
  case round =>
    obtain ⟨k, m, A, c, o, hk, hm, rfl, rfl, HA, own, bl⟩ := hrel
    have hk0 : (0 : Int) ≤ (k : Int) := by omega
    have hml : (Tt o).length = m := by have := own.1; rwa [Nat.mul_one] at this
    have HO := Lib.hid hml
    clear hml
    obtain ⟨nm1, hnm1⟩ : ∃ z : Int, (n : Int) - 1 = z := ⟨_, rfl⟩
    have V : Hid (wrap64 ((n : Int) - 1) = nm1 ∧ IntKind.i64.wrap ((n : Int) - 1) = nm1) := Lib.hid ⟨by rw [← hnm1]; exact w64_of (by omega) (by omega), by rw [← hnm1]; exact i64_of (by omega) (by omega)⟩
    have HM1 := Lib.hid hnm1
    clear hnm1
    rcases hd : s.drop k with _ | ⟨x, r⟩
    · have hkn : k = n := by have h1 := congrArg List.length hd; rw [List.length_drop] at h1; have := HN.out; simp at h1; omega
      have CN := Lib.hid (Lab.at_end HA.out hd)
      have g1 : decide ((k : Int) < (n : Int)) = false := decide_eq_false (by omega)
      have g2 : ((k : Int) != nm1) = true := by rw [bne_iff_ne]; have := HM1.out; omega
      have g3 : decide (k < n) = false := decide_eq_false (by omega)
      clear hd hkn HA own
      obtain ⟨v1, v2⟩ := V.out
      go_wp2
      go_ret2
      exact ⟨⟨none, 0, 0, by rw [CN.out]; rfl, by rw [CN.out]; rfl, by rw [CN.out]; exact Rd.zero _ _ _ _, by omega, by omega⟩, bl⟩
    · obtain ⟨hx, hlr, _⟩ := drop_at hd
      have hrl : k + 1 + r.length = n := by have := HN.out; omega
      have HD := Lib.hid hd
      have IXA : ∀ w, (Instr.index 9 (.string (strB s)) (.int .i64 (k : Int))).run Tryz.prog w = .ok (.int .u8 (x.toNat : Int)) w := fun w => run_chr hx
      have g1 : decide ((k : Int) < (n : Int)) = true := decide_eq_true (by omega)
      have g3 : decide (k < n) = true := decide_eq_true (by omega)
      clear hd hx hlr
      by_cases hx0 : x = 0
      · subst hx0
        have CZ := Lib.hid (Lab.at_zero HA.out HD.out)
        by_cases hr : r.length = 0
        · have hr0 : r = [] := List.eq_nil_of_length_eq_zero hr
          have g2 : ((k : Int) != nm1) = false := by rw [bne_eq_false_iff_eq]; have := HM1.out; omega
          by_cases h255 : 255 < n
          · have CN : Hid (Lab.cut s = none) := Lib.hid (by rw [CZ.out, HN.out, if_pos h255])
            clear hr0 HA own
            obtain ⟨v1, v2⟩ := V.out
            go_wp2
            go_ret2
            exact ⟨⟨none, 0, 0, by rw [CN.out]; rfl, by rw [CN.out]; rfl, by rw [CN.out]; exact Rd.zero _ _ _ _, by omega, by omega⟩, bl⟩
          · have CN : Hid (Lab.cut s = some o) := Lib.hid (by rw [CZ.out, HN.out, if_neg h255, if_pos hr0])
            have R := Rd.of_own own
            have hc := own_cap own
            clear hr0 HA own
            obtain ⟨v1, v2⟩ := V.out
            go_wp2
            go_ret2
            exact ⟨⟨A, m, c, by rw [CN.out]; rfl, by rw [CN.out]; have := HO.out; rw [Tt_len] at this; exact this.symm, by rw [CN.out]; exact R, hc.1, hc.2⟩, bl⟩
        · have hr0 : r ≠ [] := fun e => hr (by rw [e]; rfl)
          have g2 : ((k : Int) != nm1) = true := by rw [bne_iff_ne]; have := HM1.out; omega
          have CN : Hid (Lab.cut s = none) := Lib.hid (by rw [CZ.out, if_neg hr0]; split <;> rfl)
          clear hr0 HA own
          obtain ⟨v1, v2⟩ := V.out
          go_wp2
          go_ret2
          exact ⟨⟨none, 0, 0, by rw [CN.out]; rfl, by rw [CN.out]; rfl, by rw [CN.out]; exact Rd.zero _ _ _ _, by omega, by omega⟩, bl⟩
      · have hp := Lab.pos_of hx0
        have h256 : x.toNat < 256 := x.toNat_lt
        obtain ⟨y, hy⟩ : ∃ y, x.toNat = y := ⟨_, rfl⟩
        rw [hy] at IXA hp h256
        obtain ⟨ci, hci⟩ : ∃ z : Int, (y : Int) = z := ⟨_, rfl⟩
        rw [hci] at IXA
        have g4 : (ci != 0) = true := by rw [bne_iff_ne]; omega
        have CV : Hid (IntKind.i64.wrap ci = ci) := Lib.hid (i64_of (by omega) (by omega))
        have HY := Lib.hid hy
        have HX0 := Lib.hid hx0
        obtain ⟨k1, hk1⟩ : ∃ z : Int, (k : Int) + 1 = z := ⟨_, rfl⟩
        obtain ⟨k2, hk2⟩ : ∃ z : Int, k1 + ci = z := ⟨_, rfl⟩
        have U1 : Hid (wrap64 ((k : Int) + 1) = k1 ∧ IntKind.i64.wrap ((k : Int) + 1) = k1) := Lib.hid ⟨by rw [← hk1]; exact w64_of (by omega) (by omega), by rw [← hk1]; exact i64_of (by omega) (by omega)⟩
        have U2 : Hid (wrap64 (k1 + ci) = k2 ∧ IntKind.i64.wrap (k1 + ci) = k2) := Lib.hid ⟨by rw [← hk2]; exact w64_of (by omega) (by omega), by rw [← hk2]; exact i64_of (by omega) (by omega)⟩
        have CI := Lib.hid hci
        have HP := Lib.hid hp
        have K1 := Lib.hid hk1
        have K2 := Lib.hid hk2
        by_cases hb1 : 63 < y
        · have CN := Lib.hid (Lab.at_bad HA.out HD.out HX0.out (Or.inl (by rw [HY.out]; exact hb1)))
          have g6 : decide (63 < ci) = true := decide_eq_true (by omega)
          clear HA own hy hx0 hk1 hk2 hci h256 hp hb1
          obtain ⟨v1, v2⟩ := V.out
          obtain ⟨u1, u2⟩ := U1.out
          obtain ⟨u3, u4⟩ := U2.out
          have cv := CV.out
          go_wp2
          go_ret2
          exact ⟨⟨none, 0, 0, by rw [CN.out]; rfl, by rw [CN.out]; rfl, by rw [CN.out]; exact Rd.zero _ _ _ _, by omega, by omega⟩, bl⟩
        have g6 : decide (63 < ci) = false := decide_eq_false (by omega)
        by_cases hb2 : r.length < y
        · have CN := Lib.hid (Lab.at_bad HA.out HD.out HX0.out (Or.inr (by rw [HY.out]; exact hb2)))
          have g5 : decide ((n : Int) < k2) = true := decide_eq_true (by omega)
          clear HA own hy hx0 hk1 hk2 hci h256 hp hb1 hb2
          obtain ⟨v1, v2⟩ := V.out
          obtain ⟨u1, u2⟩ := U1.out
          obtain ⟨u3, u4⟩ := U2.out
          have cv := CV.out
          go_wp2
          go_ret2
          exact ⟨⟨none, 0, 0, by rw [CN.out]; rfl, by rw [CN.out]; rfl, by rw [CN.out]; exact Rd.zero _ _ _ _, by omega, by omega⟩, bl⟩
        have g5 : decide ((n : Int) < k2) = false := decide_eq_false (by omega)
        have NX := Lib.hid (Lab.at_next HA.out HD.out HX0.out (by rw [HY.out]; omega))
        have PT : ∀ w, (Instr.slice 9 (.string (strB s)) (some (.int .i64 k1)) (some (.int .i64 k2)) none).run Tryz.prog w = .ok (.string (strB (r.take y))) w := fun w => by
          have h1 := run_part (w := w) (l := s) (a := k + 1) (b := k + 1 + y) (i := k1) (j := k2) (by omega) (by omega) (by omega) (by rw [HN.out]; omega)
          rwa [show k + 1 + y - (k + 1) = y by omega, Lab.at_part HD.out] at h1
        obtain ⟨t, ht⟩ : ∃ t, r.take y = t := ⟨_, rfl⟩
        rw [ht] at PT
        rw [HY.out, ht] at NX
        have hmn : m ≤ 1100000 := by omega
        have HE : Hid (k + 1 + y ≤ n ∧ k2 = ((k + 1 + y : Nat) : Int)) := Lib.hid ⟨by omega, by omega⟩
        have own1 := own.alloc (.cells #[.string (strB t)] 9)
        have R1 : Rd (wr.alloc (.cells #[.string (strB t)] 9)) (wr.heap.size + 1) 1 (some ⟨wr.heap.size, 0, none⟩) 1 (Tt [t]) := Rd.one wr (.string (strB t)) 9
        have bl1 := bl.alloc bl.size (.cells #[.string (strB t)] 9)
        have hsz1 : w.heap.size ≤ (wr.alloc (.cells #[.string (strB t)] 9)).heap.size := bl1.size
        clear ht HA own hy hx0 hk1 hk2 hci h256 hp hb1 hb2
        obtain ⟨v1, v2⟩ := V.out
        obtain ⟨u1, u2⟩ := U1.out
        obtain ⟨u3, u4⟩ := U2.out
        have cv := CV.out
        go_wp2_with (at_builtin; refine app_law strT rfl (.tmp 32) (.tmp 41) rfl w.heap.size rfl own1 rfl R1 (Tt_one [t]) (by omega) (by omega) hsz1 ?_; rintro A2 c2 w2 ⟨own2, hg2, _, _⟩)
        go_roundw
        case rel => exact ⟨k + 1 + y, m + 1, A2, c2, o ++ [t], HE.out.1, by omega, by rw [HE.out.2], rfl, NX, by rw [Tt_app]; exact own2, below_app bl1 own1 hg2 (Nat.le_refl _) hsz1⟩
        case measure => rw [HE.out.2]; have h1 := HE.out.1; simp only [intOf]; omega
end Go.Proofs.YtmbfldcmiabccaaGreatDoor

