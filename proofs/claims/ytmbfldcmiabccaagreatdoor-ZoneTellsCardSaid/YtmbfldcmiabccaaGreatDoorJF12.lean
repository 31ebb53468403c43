/- ZMem ORef9 ORef10 VRef5 VRef6 OArg (merged). -/
import Derived.Laws.StructEq
import Derived.Deep.DeepCutAuto
import Derived.Test.YtmbfldcmiabccaaGreatDoorJF03
import Derived.Test.YtmbfldcmiabccaaGreatDoorJF08
import Derived.Test.YtmbfldcmiabccaaGreatDoorJF09
import Derived.Test.YtmbfldcmiabccaaGreatDoorJF11
namespace Go.Proofs.YtmbfldcmiabccaaGreatDoor
set_option linter.unusedVariables false
set_option linter.unusedSimpArgs false
open Go.RowKit
def qc (q : Qst) : List Value := [.string (strB q.name), .int .i64 q.typ, .int .i64 q.cls]
def rc (r : Rrc) : List Value := [.string (strB r.name), .int .i64 r.typ, .int .i64 r.cls, .int .i64 r.ttl, .string (strB r.data)]
def QC (l : List Qst) : List Value := FC qc l
def RC (l : List Rrc) : List Value := FC rc l
theorem rc_len (r : Rrc) : (rc r).length = 5 := rfl
theorem RC_len (l : List Rrc) : (RC l).length = l.length * 5 := FC_length rc_len l
section
variable {w : World} {B n k : Nat} {A : Option Addr}
theorem Rd.lenR {l : List Rrc} (h : Rd w B 5 A n (RC l)) : l.length = n := by have h1 := h.1; rw [RC_len] at h1; omega
theorem Rd.atR {l : List Rrc} (h : Rd w B 5 A n (RC l)) (hk : k < n) :
    ∃ b o r, A = some ⟨b, o, none⟩ ∧ b < B ∧ l[k]? = some r ∧ w.cell? ⟨b, o + k * 5, none⟩ = some (.string (strB r.name)) ∧ w.cell? ⟨b, o + k * 5 + 1, none⟩ = some (.int .i64 r.typ) ∧ w.cell? ⟨b, o + k * 5 + 2, none⟩ = some (.int .i64 r.cls) ∧ w.cell? ⟨b, o + k * 5 + 3, none⟩ = some (.int .i64 r.ttl) ∧ w.cell? ⟨b, o + k * 5 + 4, none⟩ = some (.string (strB r.data)) := by
  have hl := h.lenR
  obtain ⟨b, o, e, hb, hc⟩ := h.2 (by omega)
  obtain ⟨r, hr⟩ : ∃ r, l[k]? = some r := ⟨_, List.getElem?_eq_getElem (by omega)⟩
  have g : ∀ j, j < 5 → w.cell? ⟨b, o + k * 5 + j, none⟩ = (rc r)[j]? := fun j hj => by
    rw [← FC_at rc_len hr j hj, Nat.add_assoc]
    exact hc _ (by rw [RC_len]; omega)
  exact ⟨b, o, r, e, hb, hr, g 0 (by omega), g 1 (by omega), g 2 (by omega), g 3 (by omega), g 4 (by omega)⟩
end
/-- a packet with its lists' places -/
structure Pv where
  x : Pck
  A1 : Option Addr
  n1 : Nat
  c1 : Nat
  A2 : Option Addr
  n2 : Nat
  c2 : Nat
  A3 : Option Addr
  n3 : Nat
  c3 : Nat
  A4 : Option Addr
  n4 : Nat
  c4 : Nat
/-- a packet reads -/
def PRd (w : World) (u : Pv) : Prop := Rd w w.heap.size 3 u.A1 u.n1 (QC u.x.qs) ∧ Rd w w.heap.size 5 u.A2 u.n2 (RC u.x.an) ∧ Rd w w.heap.size 5 u.A3 u.n3 (RC u.x.au) ∧ Rd w w.heap.size 5 u.A4 u.n4 (RC u.x.mo)
theorem PRd.belowH {w w' : World} {u : Pv} (h : PRd w u) (hb : Below w.heap.size w w') : PRd w' u := ⟨h.1.belowH hb, h.2.1.belowH hb, h.2.2.1.belowH hb, h.2.2.2.belowH hb⟩
end Go.Proofs.YtmbfldcmiabccaaGreatDoor

namespace Go.Proofs.YtmbfldcmiabccaaGreatDoor
set_option linter.unusedVariables false
set_option linter.unusedSimpArgs false
open Go.RowKit
/-- a record's value -/
def rrv (r : Rrc) : Value := .agg #[.string (strB r.name), .int .i64 r.typ, .int .i64 r.cls, .int .i64 r.ttl, .string (strB r.data)]
def RecB (r : Rrc) (b : Bool) (w : World) (e : Ending) (w' : World) : Prop := e = .returned (.tuple #[rrv r, .bool b]) ∧ Below w.heap.size w w'
def Zo.startOf (dom : List UInt8) : Rrc × Bool := if (Zo.first dom).2 = true then (⟨dom, 6, 1, 5, (Zo.first dom).1⟩, true) else (⟨[], 0, 0, 0, []⟩, false)
set_option maxHeartbeats 4000000 in
set_option maxRecDepth 20000 in
theorem rostartR_any (A B : Option Addr) (n c m d : Nat) (dom : List UInt8) (w : World) (hd : dom.length ≤ 1000) :
    Calls Tryz.prog 10 #[.agg #[.slice A n c, .slice B m d, .string (strB dom)]] w (RecB (Zo.startOf dom).1 (Zo.startOf dom).2 w) := by
  have X := (Box.new w #[.slice A n c, .slice B m d, .string (strB dom)] 25).alloc (.cells #[.string ⟨#[]⟩, .int .i64 0, .int .i64 0, .int .i64 0, .string ⟨#[]⟩] 32)
  have O := Box.new (w.alloc (.cells #[.slice A n c, .slice B m d, .string (strB dom)] 25)) #[.string ⟨#[]⟩, .int .i64 0, .int .i64 0, .int .i64 0, .string ⟨#[]⟩] 32
  have b := ((Below.refl w.heap.size w).alloc (Nat.le_refl _) (.cells #[.slice A n c, .slice B m d, .string (strB dom)] 25)).alloc (by simp) (.cells #[.string ⟨#[]⟩, .int .i64 0, .int .i64 0, .int .i64 0, .string ⟨#[]⟩] 32)
  rw [show (w.alloc (.cells #[.slice A n c, .slice B m d, .string (strB dom)] 25)).heap.size = w.heap.size + 1 by simp] at O
  have x0 := X.at 0 rfl
  have x1 := X.at 1 rfl
  have x2 := X.at 2 rfl
  go_enter Tryz.func10, Tryz.ntmps10
  go_wp2_with fail
  generalize (w.alloc (.cells #[.slice A n c, .slice B m d, .string (strB dom)] 25)).alloc (.cells #[.string ⟨#[]⟩, .int .i64 0, .int .i64 0, .int .i64 0, .string ⟨#[]⟩] 32) = w0 at *
  obtain ⟨⟨t, ok⟩, et⟩ : ∃ z, Zo.first dom = z := ⟨_, rfl⟩
  obtain ⟨⟨t2, ok2⟩, et2⟩ : ∃ z, Zo.ns dom = z := ⟨_, rfl⟩
  have C := rostart_any A B n c m d dom w0 hd
  rw [et, et2] at C
  have HE : Hid (Zo.startOf dom = if ok = true then (⟨dom, 6, 1, 5, t⟩, true) else (⟨[], 0, 0, 0, []⟩, false)) := Lib.hid (by unfold Zo.startOf; rw [et])
  clear et et2
  refine C.mono ?_
  clear C
  rintro e w1 ⟨rfl, hb⟩
  replace X := X.belowH hb
  replace O := O.belowH hb
  replace b := b.trans (hb.mono b.size)
  clear hb x0 x1 x2
  have x2 := X.at 2 rfl
  have o0 := O.at 0 rfl
  have o1 := O.at 1 rfl
  have o2 := O.at 2 rfl
  have o3 := O.at 3 rfl
  have o4 := O.at 4 rfl
  have oc := O.cold
  cases ok
  · have E : Hid (Zo.startOf dom = (⟨[], 0, 0, 0, []⟩, false)) := Lib.hid HE.out
    clear HE
    go_wp2
    have Q0 := ((((O.set 0 (.string ⟨#[]⟩)).set 1 (.int .i64 0)).set 2 (.int .i64 0)).set 3 (.int .i64 0)).set 4 (.string ⟨#[]⟩)
    have q0 := Q0.at 0 (v := .string ⟨#[]⟩) rfl
    have q1 := Q0.at 1 (v := .int .i64 0) rfl
    have q2 := Q0.at 2 (v := .int .i64 0) rfl
    have q3 := Q0.at 3 (v := .int .i64 0) rfl
    have q4 := Q0.at 4 (v := .string ⟨#[]⟩) rfl
    refine bodyPost_ret (v := .tuple #[.agg #[.string ⟨#[]⟩, .int .i64 0, .int .i64 0, .int .i64 0, .string ⟨#[]⟩], .bool false]) (by simp [results, Tryz.results10, go_sem, q0, q1, q2, q3, q4]; try rfl) rfl ⟨by rw [E.out]; rfl, ?_⟩
    repeat (first | (with_reducible exact b) | (with_reducible refine below_set ?_ (by omega) _))
  · have E : Hid (Zo.startOf dom = (⟨dom, 6, 1, 5, t⟩, true)) := Lib.hid HE.out
    clear HE
    go_wp2
    have Q0 := ((((O.set 0 (.string (strB dom))).set 1 (.int .i64 6)).set 2 (.int .i64 1)).set 3 (.int .i64 5)).set 4 (.string (strB t))
    have q0 := Q0.at 0 (v := .string (strB dom)) rfl
    have q1 := Q0.at 1 (v := .int .i64 6) rfl
    have q2 := Q0.at 2 (v := .int .i64 1) rfl
    have q3 := Q0.at 3 (v := .int .i64 5) rfl
    have q4 := Q0.at 4 (v := .string (strB t)) rfl
    refine bodyPost_ret (v := .tuple #[.agg #[.string (strB dom), .int .i64 6, .int .i64 1, .int .i64 5, .string (strB t)], .bool true]) (by simp [results, Tryz.results10, go_sem, q0, q1, q2, q3, q4]; try rfl) rfl ⟨by rw [E.out]; rfl, ?_⟩
    repeat (first | (with_reducible exact b) | (with_reducible refine below_set ?_ (by omega) _))
/-- a scene that can be looked at -/
def SnLook (w : World) (s : Sn) : Prop := SnRd w s ∧ s.v.n * 48 ≤ 140737488351232 ∧ (∀ x ∈ s.v.l, x.v.n * 32 ≤ 140737488351232 ∧ ∀ y ∈ x.v.s.apps, y.val.length ≤ 140737488351232)
def SnGreat (s : Sn) : Bool := vgreatB s.v.l || decide (50 < s.m) || decide (500 < s.dom.length)
set_option maxHeartbeats 1000000 in
theorem rogreat_any (s : Sn) (w : World) (h : SnLook w s) : Calls Tryz.prog 5 #[snval s] w (BoB (SnGreat s) w) := by
  obtain ⟨hrd, hn, hx⟩ := h
  have X := Box.new w (sncs s) 25
  have b := (Below.refl w.heap.size w).alloc (Nat.le_refl _) (.cells (sncs s) 25)
  have C := rvgreat_any s.v _ (hrd.alloc (.cells (sncs s) 25)).1 hn hx
  obtain ⟨dl, hdl⟩ : ∃ q, s.dom.length = q := ⟨_, rfl⟩
  have hsz : ((strB s.dom).size : Int) = (dl : Int) := by rw [strB_size, hdl]
  have HE : Hid (SnGreat s = (vgreatB s.v.l || decide (50 < s.m) || decide (500 < dl))) := Lib.hid (by unfold SnGreat; rw [hdl])
  obtain ⟨g, hg⟩ : ∃ z, SnGreat s = z := ⟨_, rfl⟩
  rw [hg] at HE ⊢
  clear hg hdl hrd hn hx
  obtain ⟨⟨l, A, n, c⟩, al, B, m, d, dom⟩ := s
  simp only [snval, sncs, vval] at *
  have x0 := X.at 0 rfl
  have x1 := X.at 1 rfl
  have x2 := X.at 2 rfl
  go_enter Tryz.func5, Tryz.ntmps5
  go_wp2_with fail
  refine C.mono ?_
  clear C
  generalize w.alloc (.cells #[.slice A n c, .slice B m d, .string (strB dom)] 25) = w0 at *
  rintro e w1 ⟨rfl, hb⟩
  replace X := X.belowH hb
  replace b := b.trans (hb.mono b.size)
  clear hb x0 x1 x2
  have x1 := X.at 1 rfl
  have x2 := X.at 2 rfl
  obtain ⟨z1, hz1⟩ : ∃ z, vgreatB l = z := ⟨_, rfl⟩
  rw [hz1] at HE ⊢
  clear hz1
  cases z1
  · by_cases h1 : 50 < m
    · have f1 : decide ((50 : Int) < (m : Int)) = true := decide_eq_true (by omega)
      have f1' : decide (50 < m) = true := decide_eq_true h1
      have Z : Hid (g = true) := Lib.hid (by rw [HE.out, f1']; rfl)
      go_wp2
      go_ret
      exact ⟨ret_bool Z.out.symm, b⟩
    · have f1 : decide ((50 : Int) < (m : Int)) = false := decide_eq_false (by omega)
      have f1' : decide (50 < m) = false := decide_eq_false h1
      obtain ⟨z2, hz2⟩ : ∃ z, decide ((500 : Int) < (dl : Int)) = z := ⟨_, rfl⟩
      have hz3 : decide (500 < dl) = z2 := by rw [← hz2]; exact decide_eq_decide.2 (by omega)
      have Z : Hid (g = z2) := Lib.hid (by rw [HE.out, f1', hz3]; rfl)
      cases z2
      · go_wp2
        go_ret
        exact ⟨ret_bool Z.out.symm, b⟩
      · go_wp2
        go_ret
        exact ⟨ret_bool Z.out.symm, b⟩
  · have Z : Hid (g = true) := Lib.hid (by rw [HE.out]; rfl)
    go_wp2
    go_ret
    exact ⟨ret_bool Z.out.symm, b⟩
end Go.Proofs.YtmbfldcmiabccaaGreatDoor

namespace Go.Proofs.YtmbfldcmiabccaaGreatDoor
set_option linter.unusedVariables false
set_option linter.unusedSimpArgs false
open Go.RowKit
def tcl (s : List UInt8) : List Value := [.string (strB s)]
theorem tcl_len (s : List UInt8) : (tcl s).length = 1 := rfl
theorem tcl_one (s : List UInt8) : ∀ u ∈ tcl s, u.oneCell' = true := by
  intro u hu
  rw [tcl, List.mem_singleton] at hu
  subst hu
  rfl
theorem tcl_T (l : List (List UInt8)) : FC tcl l = Tt l := by
  induction l with
  | nil => rfl
  | cons x l ih => show .string (strB x) :: FC tcl l = .string (strB x) :: Tt l; rw [ih]
theorem rc_one (r : Rrc) : ∀ u ∈ rc r, u.oneCell' = true := by
  intro u hu
  simp only [rc, List.mem_cons, List.not_mem_nil, or_false] at hu
  rcases hu with rfl | rfl | rfl | rfl | rfl <;> rfl
theorem recT : SlT Tryz.prog 39 32 (.agg #[.string ⟨#[]⟩, .int .i64 0, .int .i64 0, .int .i64 0, .string ⟨#[]⟩]) 5 56 := ⟨Tryz.underlying39, by kernel_rfl, rfl, by omega⟩
/-- records that were made -/
def OwnRc (l : List Rrc) (w : World) (e : Ending) (w' : World) : Prop :=
  ∃ (A : Option Addr) (n c : Nat), e = .returned (.slice A n c) ∧ l.length = n ∧ w'.ownsRow w.heap.size 32 5 (.slice A n c) n (RC l) ∧ Below w.heap.size w w'
theorem rd_cell {w : World} {B size n b o : Nat} {xs : List Value} (h : Rd w B size (some ⟨b, o, none⟩) n xs) (hn : n ≠ 0) {j : Nat} (hj : j < xs.length) : w.cell? ⟨b, o + j, none⟩ = xs[j]? := by
  obtain ⟨b', o', e, _, hc⟩ := h.2 hn
  injection e with e
  injection e with e1 e2
  subst e1 e2
  exact hc j hj
theorem keeps_cell6 {w w' : World} {v v' : Value} {n b o i q : Nat} {xs : List Value} (hk : Keeps w w' v v') (h : Rd w w.heap.size 6 (some ⟨b, o, none⟩) n xs) (ho : Off v (some ⟨b, o, none⟩) n) (hi : i < n) (hq : q < 6) {u : Value} (hc : w.cell? ⟨b, o + i * 6 + q, none⟩ = some u) : w'.cell? ⟨b, o + i * 6 + q, none⟩ = some u := by
  have hn : n ≠ 0 := by omega
  have hl : i * 6 + q < xs.length := by have := h.1; omega
  rw [Nat.add_assoc] at hc ⊢
  rw [rd_cell (hk h ho).1 hn hl, ← rd_cell h hn hl]
  exact hc
theorem flat_congr' {α β : Type} {l : List α} {f g : α → List β} (h : ∀ x, f x = g x) : l.flatMap f = l.flatMap g := by rw [show f = g from funext h]
theorem map_take {α β : Type} (f : α → β) {l : List α} {k : Nat} {x : α} (h : l[k]? = some x) : (l.take (k + 1)).map f = (l.take k).map f ++ [f x] := by rw [take_more h, List.map_append]; rfl
theorem srvD_of (dom : List UInt8) (y : Int) (x : Svc) : [x.prio, x.wt, x.port].flatMap (fun v : Int => Pk.b2 v.toNat) ++ (Zo.hostN dom y).1 = Zo.srvD dom y x := by unfold Zo.srvD; simp
/-- the frame behind the switch -/
def TellD (W : World) (L : List (List UInt8)) (s7 : Value) (wr : World) : Prop := ∃ (A1 : Option Addr) (j c1 : Nat), s7 = .slice A1 j c1 ∧ Hid (L.length = j ∧ j ≤ 4000000) ∧ Rd wr wr.heap.size 1 A1 j (Tt L) ∧ Below W.heap.size W wr
set_option maxHeartbeats 16000000 in
set_option maxRecDepth 40000 in
theorem rotell_any (s : Sn) (name : List UInt8) (typ : Int) (w : World) (h : SnRd w s) (hok : SnOk s) (hn : name.length ≤ 100000) :
    Calls Tryz.prog 18 #[snval s, .string (strB name), .int .i64 typ] w (OwnRc (Zo.tell s.sc name typ) w) := by
  have hd := hok.dom
  have X := Box.new w (sncs s) 25
  have b := (Below.refl w.heap.size w).alloc (Nat.le_refl _) (.cells (sncs s) 25)
  have hrd := h.alloc (.cells (sncs s) 25)
  have CC : Hid (∀ W, SnRd W s → Calls Tryz.prog 13 #[snval s] W (OwnI (Zo.counts s.sc) W)) := Lib.hid fun W hW => rocounts_any s W hW hok.fit
  have CH : Hid (∀ W, SnRd W s → Calls Tryz.prog 38 #[snval s, .string (strB name)] W fun e w' => e = .returned (.int .i64 (Zo.host s.sc name)) ∧ Below W.heap.size W w') := Lib.hid fun W hW => rohostof_any s name W hW hok.fit hd hn
  have CO : Hid (∀ W y, SnRd W s → Calls Tryz.prog 39 #[snval s, .int .i64 y, .string (strB name)] W (OwnY (Zo.offered s.sc y name) W)) := Lib.hid fun W y hW => rooffered_any s y name W hW hok.fit hok.val hd hn
  have CG : Hid (∀ W y, SnRd W s → Calls Tryz.prog 44 #[vval s.v, .int .i64 y] W (MadeG W (V.get s.v.view y))) := Lib.hid fun W y hW => rvget_any s.v y W hW.1 hok.fit.1 hok.fit.2.1
  have CF : Hid ((Zo.counts s.sc).length ≤ 1000) := Lib.hid (by
    have h1 := cnts_few s.al s.v.view
    have h2 := h.1.viewlen
    have h3 := hok.fit.1
    rw [Zo.counts_cnts]
    show (Zo.cnts s.al s.v.view).length ≤ 1000
    omega)
  have OF : Hid (∀ y, (Zo.offered s.sc y name).length ≤ 4000 ∧ ∀ x ∈ Zo.offered s.sc y name, Y.right x) := Lib.hid fun y => by
    refine ⟨?_, fun x hx => ?_⟩
    · have h1 := offered_few s.sc y name
      have h2 := vget_short h.1 hok.fit.2.1 (k := y) _ rfl
      rw [apps_of rfl] at h2
      exact Nat.le_trans h1 h2
    · unfold Zo.offered at hx
      exact all_right _ x (List.mem_filter.1 hx).1
  obtain ⟨hh, ehh⟩ : ∃ z, Zo.host s.sc name = z := ⟨_, rfl⟩
  obtain ⟨op, eop⟩ : ∃ z, V.get s.v.view hh = z := ⟨_, rfl⟩
  have EA := Lib.hid (apps_of eop)
  have FEW := Lib.hid (vget_short h.1 hok.fit.2.1 op eop)
  rw [ehh] at CH
  obtain ⟨L, eL⟩ : ∃ z, Zo.datas s.sc name typ = z := ⟨_, rfl⟩
  have ET : Hid (Zo.tell s.sc name typ = L.map (Zo.rcd name typ)) := Lib.hid (by unfold Zo.tell; rw [eL])
  obtain ⟨R, eR⟩ : ∃ z, Zo.tell s.sc name typ = z := ⟨_, rfl⟩
  rw [eR] at ET ⊢
  obtain ⟨P, eP⟩ : ∃ P : World → Prop, ∀ W, SnRd W s = P W := ⟨_, fun _ => rfl⟩
  have SB := Lib.hid (fun (W : World) (W' : World) (hW : SnRd W s) (hb : Below W.heap.size W W') => hW.belowH hb)
  have HOK := Lib.hid hok
  simp only [eP] at CC CH CO CG SB hrd
  have CG2 := Lib.hid fun W hW => CG.out W hh hW
  rw [eop] at CG2
  have HL := Lib.hid eL
  have HHH := Lib.hid ehh
  clear eop ehh eL eR hok h eP CG
  obtain ⟨⟨l, A, n, c⟩, al, B, m, d, dom⟩ := s
  simp only [snval, sncs, vval] at *
  have x0 := X.at 0 rfl
  have x1 := X.at 1 rfl
  have x2 := X.at 2 rfl
  go_enter Tryz.func18, Tryz.ntmps18
  go_wp2_with fail
  have hob := X.lt
  generalize w.alloc (.cells #[.slice A n c, .slice B m d, .string (strB dom)] 25) = w0 at *
  refine (CH.out w0 hrd).mono ?_
  clear x0 x1 x2 CH
  rintro e w1 ⟨rfl, hb⟩
  replace X := X.belowH hb
  replace b := b.trans (hb.mono b.size)
  replace hrd := SB.out _ _ hrd hb
  clear hb
  have x0 := X.at 0 rfl
  have x1 := X.at 1 rfl
  have x2 := X.at 2 rfl
  go_wp2_with fail
  refine (CG2.out w1 hrd).mono ?_
  clear x0 x1 x2 CG2
  rintro e w2 ⟨sg, rfl, hsg, hgr, hb⟩
  replace X := X.belowH hb
  replace b := b.trans (hb.mono b.size)
  replace hrd := SB.out _ _ hrd hb
  clear hb
  have hap : sg.s.apps = Zo.apps (Vw.view ⟨l, A, n, c⟩) hh := by rw [hsg]; exact EA.out
  have hfew : sg.s.apps.length ≤ 4000 := by rw [hsg]; exact FEW.out
  obtain ⟨⟨gg, gb, ga⟩, Ag, ng, cg⟩ := sg
  simp only [sv]
  simp only at hap hfew
  clear hsg EA FEW
  go_upto_region 4 with fail
  have HAP := Lib.hid hap
  have HFEW := Lib.hid hfew
  clear hap hfew
  have G := Box.new w2 #[.int .i64 gg, .int .i64 gb, .slice Ag ng cg] 51
  replace X := X.alloc (.cells #[.int .i64 gg, .int .i64 gb, .slice Ag ng cg] 51)
  replace hgr : SRd (w2.alloc (.cells #[.int .i64 gg, .int .i64 gb, .slice Ag ng cg] 51)) ⟨⟨gg, gb, ga⟩, Ag, ng, cg⟩ := hgr.alloc _
  replace hrd := SB.out _ _ hrd ((Below.refl w2.heap.size w2).alloc (Nat.le_refl _) (.cells #[.int .i64 gg, .int .i64 gb, .slice Ag ng cg] 51))
  replace b := b.alloc b.size (.cells #[.int .i64 gg, .int .i64 gb, .slice Ag ng cg] 51)
  generalize w2.alloc (.cells #[.int .i64 gg, .int .i64 gb, .slice Ag ng cg] 51) = w3 at *
  generalize w2.heap.size = gbk at *
  have x0 := X.at 0 rfl
  have x1 := X.at 1 rfl
  have x2 := X.at 2 rfl
  obtain ⟨⟨t6, o6⟩, e6⟩ : ∃ z, Zo.first dom = z := ⟨_, rfl⟩
  obtain ⟨⟨t2, o2⟩, e2⟩ : ∃ z, Zo.ns dom = z := ⟨_, rfl⟩
  have C3 := rostart_any A B n c m d dom w3 hd
  rw [e6, e2] at C3
  have H62 := Lib.hid (And.intro e6 e2)
  clear e6 e2
  go_wp2_with fail
  refine C3.mono ?_
  clear x0 x1 x2 C3
  rintro e w4 ⟨rfl, hb⟩
  replace X := X.belowH hb
  replace G := G.belowH hb
  replace b := b.trans (hb.mono b.size)
  replace hrd := SB.out _ _ hrd hb
  replace hgr := hgr.belowH hb
  clear hb
  have x0 := X.at 0 rfl
  have x1 := X.at 1 rfl
  have x2 := X.at 2 rfl
  have C4 := ahead_lit (.slice A n c) (.slice B m d) rfl rfl H62.out.2 (by decide) hd w4
  have bl := (Below.refl w4.heap.size w4).alloc (Nat.le_refl _) (.cells #[.string (strB [110, 115])] 9)
  go_wp2_with fail
  refine C4.mono ?_
  clear x0 x1 x2 C4
  rintro e w5 ⟨rfl, hb⟩
  replace hb := bl.trans (hb.mono bl.size)
  replace X := X.belowH hb
  replace G := G.belowH hb
  replace b := b.trans (hb.mono b.size)
  replace hrd := SB.out _ _ hrd hb
  replace hgr := hgr.belowH hb
  clear hb bl
  go_upto_region 6 with fail
  go_step
  iterate 6 (first | go_values | go_skip | go_guarded | go_step | go_upon | go_back)
  go_cut [7] (TellD w L)
  case first =>
    by_cases ht : typ = 1
    · skip
      have e1 : (typ == 1) = true := by rw [ht]; rfl
      have e28 : (typ == 28) = false := by rw [ht]; rfl
      have e2 : (typ == 2) = false := by rw [ht]; rfl
      have e6 : (typ == 6) = false := by rw [ht]; rfl
      have e33 : (typ == 33) = false := by rw [ht]; rfl
      have EL : Hid (L = if 0 ≤ hh ∧ (Zo.addr ga 1).2 = true then [(Zo.addr ga 1).1] else []) := Lib.hid (by
        rw [← HL.out, ht]
        show Zo.addrs _ name 1 = _
        unfold Zo.addrs
        rw [HHH.out, HAP.out]
        rfl)
      have HT := Lib.hid ht
      clear ht CC CO
      obtain ⟨⟨ad, th⟩, ead⟩ : ∃ z, Zo.addr ga 1 = z := ⟨_, rfl⟩
      have C := ryaddress_any ga 1 Ag ng cg w5 hgr (by have h1 := hgr.lenE; have h2 := HFEW.out; simp only at h1; omega)
      rw [ead] at C EL
      clear ead
      have g2 := G.at 2 rfl
      go_wp2_with fail
      refine C.mono ?_
      clear C g2
      rintro e w6 ⟨rfl, hb⟩
      replace b := b.trans (hb.mono b.size)
      clear hb G X hgr hrd
      by_cases h0 : 0 ≤ hh
      · have z1 : decide (0 ≤ hh) = true := decide_eq_true h0
        cases th
        · replace EL : Hid (L = []) := Lib.hid (by rw [EL.out, if_neg (fun hc => by cases hc.2)])
          clear h0
          go_wp2
          go_meet
          exact ⟨none, 0, 0, rfl, Lib.hid ⟨by rw [EL.out]; rfl, by omega⟩, by rw [EL.out]; exact Rd.zero _ _ _ _, b⟩
        · replace EL : Hid (L = [ad]) := Lib.hid (by rw [EL.out, if_pos ⟨h0, rfl⟩])
          clear h0
          go_wp2_with (at_builtin; refine pushF_law (f := tcl) (y := ad) strT tcl_len tcl_one rfl (.tmp 67) (.tmp 69) rfl w6.heap.size rfl rfl rfl (O := []) (World.ownsRow_nil _ _ _ _) (by omega) (by omega) (Nat.le_refl _) ?_; rintro A7 c7 w7 own7 hb7 _)
          have R7 := Rd.of_own own7
          rw [tcl_T] at R7
          replace b := b.trans (hb7.mono b.size)
          go_meet
          exact ⟨A7, 1, c7, rfl, Lib.hid ⟨by rw [EL.out]; rfl, by omega⟩, by rw [EL.out]; exact R7, b⟩
      · have z1 : decide (0 ≤ hh) = false := decide_eq_false h0
        replace EL : Hid (L = []) := Lib.hid (by rw [EL.out, if_neg (fun hc => h0 hc.1)])
        clear h0
        go_wp2
        go_meet
        exact ⟨none, 0, 0, rfl, Lib.hid ⟨by rw [EL.out]; rfl, by omega⟩, by rw [EL.out]; exact Rd.zero _ _ _ _, b⟩
    by_cases ht : typ = 28
    · skip
      have e1 : (typ == 1) = false := by rw [ht]; rfl
      have e28 : (typ == 28) = true := by rw [ht]; rfl
      have e2 : (typ == 2) = false := by rw [ht]; rfl
      have e6 : (typ == 6) = false := by rw [ht]; rfl
      have e33 : (typ == 33) = false := by rw [ht]; rfl
      have EL : Hid (L = if 0 ≤ hh ∧ (Zo.addr ga 2).2 = true then [(Zo.addr ga 2).1] else []) := Lib.hid (by
        rw [← HL.out, ht]
        show Zo.addrs _ name 28 = _
        unfold Zo.addrs
        rw [HHH.out, HAP.out]
        rfl)
      have HT := Lib.hid ht
      clear ht CC CO
      obtain ⟨⟨ad, th⟩, ead⟩ : ∃ z, Zo.addr ga 2 = z := ⟨_, rfl⟩
      have C := ryaddress_any ga 2 Ag ng cg w5 hgr (by have h1 := hgr.lenE; have h2 := HFEW.out; simp only at h1; omega)
      rw [ead] at C EL
      clear ead
      have g2 := G.at 2 rfl
      go_wp2_with fail
      refine C.mono ?_
      clear C g2
      rintro e w6 ⟨rfl, hb⟩
      replace b := b.trans (hb.mono b.size)
      clear hb G X hgr hrd
      by_cases h0 : 0 ≤ hh
      · have z1 : decide (0 ≤ hh) = true := decide_eq_true h0
        cases th
        · replace EL : Hid (L = []) := Lib.hid (by rw [EL.out, if_neg (fun hc => by cases hc.2)])
          clear h0
          go_wp2
          go_meet
          exact ⟨none, 0, 0, rfl, Lib.hid ⟨by rw [EL.out]; rfl, by omega⟩, by rw [EL.out]; exact Rd.zero _ _ _ _, b⟩
        · replace EL : Hid (L = [ad]) := Lib.hid (by rw [EL.out, if_pos ⟨h0, rfl⟩])
          clear h0
          go_wp2_with (at_builtin; refine pushF_law (f := tcl) (y := ad) strT tcl_len tcl_one rfl (.tmp 67) (.tmp 69) rfl w6.heap.size rfl rfl rfl (O := []) (World.ownsRow_nil _ _ _ _) (by omega) (by omega) (Nat.le_refl _) ?_; rintro A7 c7 w7 own7 hb7 _)
          have R7 := Rd.of_own own7
          rw [tcl_T] at R7
          replace b := b.trans (hb7.mono b.size)
          go_meet
          exact ⟨A7, 1, c7, rfl, Lib.hid ⟨by rw [EL.out]; rfl, by omega⟩, by rw [EL.out]; exact R7, b⟩
      · have z1 : decide (0 ≤ hh) = false := decide_eq_false h0
        replace EL : Hid (L = []) := Lib.hid (by rw [EL.out, if_neg (fun hc => h0 hc.1)])
        clear h0
        go_wp2
        go_meet
        exact ⟨none, 0, 0, rfl, Lib.hid ⟨by rw [EL.out]; rfl, by omega⟩, by rw [EL.out]; exact Rd.zero _ _ _ _, b⟩
    by_cases ht : typ = 2
    · skip
      have e1 : (typ == 1) = false := by rw [ht]; rfl
      have e28 : (typ == 28) = false := by rw [ht]; rfl
      have e2 : (typ == 2) = true := by rw [ht]; rfl
      have e6 : (typ == 6) = false := by rw [ht]; rfl
      have e33 : (typ == 33) = false := by rw [ht]; rfl
      obtain ⟨sm, esm⟩ : ∃ z, Lab.same name dom = z := ⟨_, rfl⟩
      have EL : Hid (L = if sm = true ∧ o2 = true then [t2] else []) := Lib.hid (by
        rw [← HL.out, ht, ← esm]
        show (if Lab.same name dom = true ∧ (Zo.ns dom).2 = true then [(Zo.ns dom).1] else []) = _
        rw [H62.out.2])
      have HT := Lib.hid ht
      have C := rsamel_at esm hn (by omega) w5
      clear ht CC CO esm
      have x0 := X.at 0 rfl
      have x1 := X.at 1 rfl
      have x2 := X.at 2 rfl
      go_wp2_with fail
      refine C.mono ?_
      clear C x0 x1 x2
      rintro e w6 ⟨rfl, hb⟩
      replace b := b.trans (hb.mono b.size)
      clear hb G X hgr hrd
      cases sm
      · replace EL : Hid (L = []) := Lib.hid (by rw [EL.out, if_neg (fun hc => by cases hc.1)])
        go_wp2
        go_meet
        exact ⟨none, 0, 0, rfl, Lib.hid ⟨by rw [EL.out]; rfl, by omega⟩, by rw [EL.out]; exact Rd.zero _ _ _ _, b⟩
      · cases o2
        · replace EL : Hid (L = []) := Lib.hid (by rw [EL.out, if_neg (fun hc => by cases hc.2)])
          go_wp2
          go_meet
          exact ⟨none, 0, 0, rfl, Lib.hid ⟨by rw [EL.out]; rfl, by omega⟩, by rw [EL.out]; exact Rd.zero _ _ _ _, b⟩
        · replace EL : Hid (L = [t2]) := Lib.hid (by rw [EL.out, if_pos ⟨rfl, rfl⟩])
          go_wp2_with (at_builtin; refine pushF_law (f := tcl) (y := t2) strT tcl_len tcl_one rfl (.tmp 80) (.tmp 82) rfl w6.heap.size rfl rfl rfl (O := []) (World.ownsRow_nil _ _ _ _) (by omega) (by omega) (Nat.le_refl _) ?_; rintro A7 c7 w7 own7 hb7 _)
          have R7 := Rd.of_own own7
          rw [tcl_T] at R7
          replace b := b.trans (hb7.mono b.size)
          go_meet
          exact ⟨A7, 1, c7, rfl, Lib.hid ⟨by rw [EL.out]; rfl, by omega⟩, by rw [EL.out]; exact R7, b⟩
    by_cases ht : typ = 6
    · skip
      have e1 : (typ == 1) = false := by rw [ht]; rfl
      have e28 : (typ == 28) = false := by rw [ht]; rfl
      have e2 : (typ == 2) = false := by rw [ht]; rfl
      have e6 : (typ == 6) = true := by rw [ht]; rfl
      have e33 : (typ == 33) = false := by rw [ht]; rfl
      obtain ⟨sm, esm⟩ : ∃ z, Lab.same name dom = z := ⟨_, rfl⟩
      have EL : Hid (L = if sm = true ∧ o6 = true then [t6] else []) := Lib.hid (by
        rw [← HL.out, ht, ← esm]
        show (if Lab.same name dom = true ∧ (Zo.first dom).2 = true then [(Zo.first dom).1] else []) = _
        rw [H62.out.1])
      have HT := Lib.hid ht
      have C := rsamel_at esm hn (by omega) w5
      clear ht CC CO esm
      have x0 := X.at 0 rfl
      have x1 := X.at 1 rfl
      have x2 := X.at 2 rfl
      go_wp2_with fail
      refine C.mono ?_
      clear C x0 x1 x2
      rintro e w6 ⟨rfl, hb⟩
      replace b := b.trans (hb.mono b.size)
      clear hb G X hgr hrd
      cases sm
      · replace EL : Hid (L = []) := Lib.hid (by rw [EL.out, if_neg (fun hc => by cases hc.1)])
        go_wp2
        go_meet
        exact ⟨none, 0, 0, rfl, Lib.hid ⟨by rw [EL.out]; rfl, by omega⟩, by rw [EL.out]; exact Rd.zero _ _ _ _, b⟩
      · cases o6
        · replace EL : Hid (L = []) := Lib.hid (by rw [EL.out, if_neg (fun hc => by cases hc.2)])
          go_wp2
          go_meet
          exact ⟨none, 0, 0, rfl, Lib.hid ⟨by rw [EL.out]; rfl, by omega⟩, by rw [EL.out]; exact Rd.zero _ _ _ _, b⟩
        · replace EL : Hid (L = [t6]) := Lib.hid (by rw [EL.out, if_pos ⟨rfl, rfl⟩])
          go_wp2_with (at_builtin; refine pushF_law (f := tcl) (y := t6) strT tcl_len tcl_one rfl (.tmp 93) (.tmp 95) rfl w6.heap.size rfl rfl rfl (O := []) (World.ownsRow_nil _ _ _ _) (by omega) (by omega) (Nat.le_refl _) ?_; rintro A7 c7 w7 own7 hb7 _)
          have R7 := Rd.of_own own7
          rw [tcl_T] at R7
          replace b := b.trans (hb7.mono b.size)
          go_meet
          exact ⟨A7, 1, c7, rfl, Lib.hid ⟨by rw [EL.out]; rfl, by omega⟩, by rw [EL.out]; exact R7, b⟩
    by_cases ht : typ = 33
    rotate_left
    · have HT := Lib.hid ht
      rename_i n1 n28 n2 n6
      have n33 := ht
      have e1 : (typ == 1) = false := beq_eq_false_iff_ne.2 n1
      have e28 : (typ == 28) = false := beq_eq_false_iff_ne.2 n28
      have e2 : (typ == 2) = false := beq_eq_false_iff_ne.2 n2
      have e6 : (typ == 6) = false := beq_eq_false_iff_ne.2 n6
      have e33 : (typ == 33) = false := beq_eq_false_iff_ne.2 n33
      have EL : Hid (L = []) := Lib.hid (by
        rw [← HL.out]
        unfold Zo.datas
        rw [if_neg (by omega), if_neg n2, if_neg n6, if_neg ht])
      clear ht n1 n28 n2 n6 n33 CC CO
      go_wp2
      go_meet
      exact ⟨none, 0, 0, rfl, Lib.hid ⟨by rw [EL.out]; rfl, by omega⟩, by rw [EL.out]; exact Rd.zero _ _ _ _, b⟩
    · skip
      have e1 : (typ == 1) = false := by rw [ht]; rfl
      have e28 : (typ == 28) = false := by rw [ht]; rfl
      have e2 : (typ == 2) = false := by rw [ht]; rfl
      have e6 : (typ == 6) = false := by rw [ht]; rfl
      have e33 : (typ == 33) = true := by rw [ht]; rfl
      have EL : Hid (L = (Zo.counts ⟨Vw.view ⟨l, A, n, c⟩, al, dom⟩).flatMap (Zo.srvs ⟨Vw.view ⟨l, A, n, c⟩, al, dom⟩ name)) := Lib.hid (by rw [← HL.out, ht]; rfl)
      have HT := Lib.hid ht
      clear ht HL HHH HAP HFEW H62
      have CC2 := CC.out w5 hrd
      obtain ⟨cs, ecs⟩ : ∃ z, Zo.counts ⟨Vw.view ⟨l, A, n, c⟩, al, dom⟩ = z := ⟨_, rfl⟩
      rw [show Zo.counts (Sn.sc ⟨⟨l, A, n, c⟩, al, B, m, d, dom⟩) = cs from ecs] at CC2 CF
      rw [ecs] at EL
      obtain ⟨f, ef⟩ : ∃ f : Int → List Svc, ∀ y, Zo.offered ⟨Vw.view ⟨l, A, n, c⟩, al, dom⟩ y name = f y := ⟨_, fun _ => rfl⟩
      obtain ⟨g, eg⟩ : ∃ g : Int → List (List UInt8), ∀ y, Zo.srvs ⟨Vw.view ⟨l, A, n, c⟩, al, dom⟩ name y = g y := ⟨_, fun _ => rfl⟩
      have EG : Hid (∀ y, g y = if (Zo.hostN dom y).2 = true then (f y).map (Zo.srvD dom y) else []) := Lib.hid fun y => by rw [← eg, ← ef]; rfl
      have EL2 : Hid (L = cs.flatMap g) := Lib.hid (by rw [EL.out]; exact flat_congr' fun y => eg y)
      have CO2 : Hid (∀ W y, P W → Calls Tryz.prog 39 #[.agg #[.slice A n c, .slice B m d, .string (strB dom)], .int .i64 y, .string (strB name)] W (OwnY (f y) W)) := Lib.hid fun W y hW => by rw [← ef]; exact CO.out W y hW
      have OF2 : Hid (∀ y, (f y).length ≤ 4000 ∧ ∀ x ∈ f y, Y.right x) := Lib.hid fun y => by rw [← ef]; exact OF.out y
      clear EL ecs ef eg CC CO OF
      have hs5 : w.heap.size < w5.heap.size := X.lt
      have x0 := X.at 0 rfl
      have x1 := X.at 1 rfl
      have x2 := X.at 2 rfl
      go_wp2_with fail
      refine CC2.mono ?_
      clear CC2
      rintro e w6 ⟨A3, n3, c3, rfl, hl3, own3, hb⟩
      have R3 := Rd.of_own own3
      have hn3 : n3 ≤ 1000 := by have := CF.out; omega
      have HL3 := Lib.hid hl3
      replace X := X.belowH hb
      replace b := b.trans (hb.mono b.size)
      replace hrd := SB.out _ _ hrd hb
      have hs6 : w.heap.size < w6.heap.size := X.lt
      clear hb own3 hl3 G hgr CF hs5
      clear x0 x1 x2
      go_wp2
      go_loopw [7, 20] (fun v i wr => ∃ (k j : Nat) (A4 : Option Addr) (c4 : Nat), k ≤ n3 ∧ j ≤ 4000 * k ∧ v = .slice A4 j c4 ∧ i = .int .i64 (k : Int) ∧ Hid (((cs.take k).flatMap g).length = j) ∧ wr.ownsRow w6.heap.size 9 1 (.slice A4 j c4) j (FC tcl ((cs.take k).flatMap g)) ∧ Below w6.heap.size w6 wr) (fun _ i _ => n3 - (intOf i).toNat)
      case atStart => exact ⟨0, 0, none, 0, Nat.zero_le _, Nat.zero_le _, rfl, rfl, Lib.hid rfl, World.ownsRow_nil _ _ _ _, Below.refl _ _⟩
      case round =>
        obtain ⟨k, j, A4, c4, hk, hj, rfl, rfl, HJ, own, b6⟩ := hrel
        have X4 := X.below b6 hs6
        have x0 := X4.at 0 rfl
        have x1 := X4.at 1 rfl
        have x2 := X4.at 2 rfl
        have bs := b6.size
        have hs7 : w.heap.size < wr.heap.size := by omega
        have P4 := SB.out _ _ hrd b6
        by_cases hlt : k < n3
        · obtain ⟨bq, oq, y, rfl, hbq, hy, c0⟩ := (R3.belowH b6).atI hlt
          have HY := Lib.hid hy
          have hk0 : (0 : Int) ≤ (k : Int) := by omega
          have hbr : bq < wr.heap.size := by omega
          have AT : Hid ((cs.take (k + 1)).flatMap g = (cs.take k).flatMap g ++ g y) := Lib.hid (flat_more g hy)
          obtain ⟨⟨th, okh⟩, eth⟩ : ∃ z, Zo.hostN dom y = z := ⟨_, rfl⟩
          have hth : th.length ≤ 255 := by have h1 := hostN_short dom y; rw [eth] at h1; exact h1
          have CHo : Hid (∀ W, Calls Tryz.prog 8 #[.agg #[.slice A n c, .slice B m d, .string (strB dom)], .int .i64 y] W (TxB th okh W)) := Lib.hid fun W => by have h1 := rohost_any A B n c m d dom y W hd; rw [eth] at h1; exact h1
          have EGY : Hid (g y = if okh = true then (f y).map (Zo.srvD dom y) else []) := Lib.hid (by rw [EG.out y, eth])
          have EH := Lib.hid eth
          have HOWN := Lib.hid own
          have PH := Lib.hid P4
          clear hy eth own P4
          go_wp2
          refine wp_region_held_drew (S := (fun w' => (w'.cell? ⟨w.heap.size, 0, none⟩ = some (.slice A n c) ∧ w'.cell? ⟨w.heap.size, 1, none⟩ = some (.slice B m d) ∧ w'.cell? ⟨w.heap.size, 2, none⟩ = some (.string (strB dom))) ∧ w'.cell? ⟨bq, oq + k, none⟩ = some (.int .i64 y))) (by kernel_rfl) (by exact ⟨⟨x0, x1, x2⟩, c0⟩) (fun hHeld0 => ?_)
          refine tk 0 108 rfl hHeld0 ?_
          refine tk 1 109 rfl hHeld0 ?_
          refine tk 2 110 rfl hHeld0 ?_
          refine tk 3 111 rfl hHeld0 ?_
          refine tk 4 112 rfl hHeld0 ?_
          refine wpAnyH_ready (rs := [5]) (by kernel_rfl) (by simp) (AllReadyH.cons (o := ⟨some 113, _, _, _, _, _⟩) rfl (fun K hK => ?_) AllReadyH.nil)
          go_simp
          (refine (CHo.out _).mono ?_; rintro e w7 ⟨rfl, hb7⟩; replace hb7 : Below wr.heap.size wr w7 := (Below.refl _ _).drew.trans hb7; have X7 := X4.below hb7 hs7; replace x0 := X7.at 0 rfl; replace x1 := X7.at 1 rfl; replace x2 := X7.at 2 rfl; replace c0 := (hb7.cell (p := ⟨bq, oq + k, none⟩) hbr).trans c0)
          go_simp
          refine hK.out _ _ (by exact ⟨⟨x0, x1, x2⟩, c0⟩) (fun hHeld1 => ?_)
          clear hK hHeld0 K
          try simp only [Act.put, sA, sB, sC]
          refine tk 6 107 rfl hHeld1 ?_
          refine tk 7 114 rfl hHeld1 ?_
          refine tk 8 115 rfl hHeld1 ?_
          refine tk 9 21 rfl hHeld1 ?_
          refine tk 10 22 rfl hHeld1 ?_
          refine wpAnyH_done (by kernel_rfl) ?_ _
          have own7 := own_belowY HOWN.out hb7
          have b7 := b6.trans (hb7.mono b6.size)
          have P7 := SB.out _ _ PH.out hb7
          have hs8 : w.heap.size < w7.heap.size := by have := hb7.size; omega
          have hbr7 : bq < w7.heap.size := by have := hb7.size; omega
          have C8 := CO2.out w7.drew y (SB.out _ _ P7 (Below.refl _ _).drew)
          have PH7 := Lib.hid P7
          clear HOWN PH P7 CHo hb7 hs7 hbr X4 bs
          go_wp2
          refine wp_region_held_drew (S := (fun w' => (w'.cell? ⟨w.heap.size, 0, none⟩ = some (.slice A n c) ∧ w'.cell? ⟨w.heap.size, 1, none⟩ = some (.slice B m d) ∧ w'.cell? ⟨w.heap.size, 2, none⟩ = some (.string (strB dom))) ∧ w'.cell? ⟨bq, oq + k, none⟩ = some (.int .i64 y))) (by kernel_rfl) (by exact ⟨⟨x0, x1, x2⟩, c0⟩) (fun hHeld0 => ?_)
          refine tk 0 116 rfl hHeld0 ?_
          refine tk 1 117 rfl hHeld0 ?_
          refine tk 2 118 rfl hHeld0 ?_
          refine tk 3 119 rfl hHeld0 ?_
          refine tk 4 120 rfl hHeld0 ?_
          refine tk 5 121 rfl hHeld0 ?_
          refine wpAnyH_ready (rs := [6]) (by kernel_rfl) (by simp) (AllReadyH.cons (o := ⟨some 122, _, _, _, _, _⟩) rfl (fun K hK => ?_) AllReadyH.nil)
          go_simp
          (refine C8.mono ?_; rintro e w8 ⟨A8, n8, c8, rfl, hl8, own8, hb8⟩; replace hb8 : Below w7.heap.size w7 w8 := (Below.refl _ _).drew.trans hb8; have X8 := X7.below hb8 hs8; replace x0 := X8.at 0 rfl; replace x1 := X8.at 1 rfl; replace x2 := X8.at 2 rfl; replace c0 := (hb8.cell (p := ⟨bq, oq + k, none⟩) hbr7).trans c0)
          go_simp
          refine hK.out _ _ (by exact ⟨⟨x0, x1, x2⟩, c0⟩) (fun hHeld1 => ?_)
          clear hK hHeld0 K
          try simp only [Act.put, sA, sB, sC]
          refine tk 7 23 rfl hHeld1 ?_
          refine wpAnyH_done (by kernel_rfl) ?_ _
          have OFF : Off (.slice A4 j c4) A8 n8 := off_made own7 own8 (Nat.le_refl _)
          have R8 : Rd w8 w8.heap.size 6 A8 n8 (YC (f y)) := Rd.of_own own8
          replace own7 := own_belowY own7 hb8
          have b8 := b7.trans (hb8.mono b7.size)
          have h48 : n8 ≤ 4000 := by have := (OF2.out y).1; omega
          have HL8 := Lib.hid hl8
          clear own8 hl8 x0 x1 x2 c0 C8 hb8 X7 hs8 hbr7 PH7 b7 X8
          go_wp2
          generalize wr = wo at *
          go_loopw [7, 24] (fun v q wr => ∃ (i j5 : Nat) (A5 : Option Addr) (c5 : Nat), i ≤ n8 ∧ Hid (j5 = j + i) ∧ q = .int .i64 (i : Int) ∧ v = .slice A5 j5 c5 ∧ Hid (okh = false → i = 0) ∧ wr.ownsRow w6.heap.size 9 1 (.slice A5 j5 c5) j5 (FC tcl ((cs.take k).flatMap g ++ ((f y).take i).map (Zo.srvD dom y))) ∧ Rd wr wr.heap.size 6 A8 n8 (YC (f y)) ∧ Off (.slice A5 j5 c5) A8 n8 ∧ Below w6.heap.size w6 wr) (fun _ q _ => n8 - (intOf q).toNat)
          case atStart => exact ⟨0, j, A4, c4, Nat.zero_le _, Lib.hid rfl, rfl, rfl, Lib.hid fun _ => rfl, by rw [List.take_zero, List.map_nil, List.append_nil]; exact own7, R8, OFF, b8⟩
          case round =>
            clear own7 R8 OFF b8
            obtain ⟨i, j5, A5, c5, hi, hj5, rfl, rfl, HI, own5, R5, off5, b5⟩ := hrel
            have hi0 : (0 : Int) ≤ (i : Int) := by omega
            by_cases hin : i < n8
            · have g1 : decide ((i : Int) < (n8 : Int)) = true := decide_eq_true (by omega)
              have g1' : decide (i < n8) = true := decide_eq_true hin
              cases okh
              · have hi00 : i = 0 := HI.out rfl
                have EX : Hid ((cs.take (k + 1)).flatMap g = (cs.take k).flatMap g ++ ((f y).take i).map (Zo.srvD dom y)) := Lib.hid (by rw [AT.out, EGY.out, hi00]; simp)
                clear hi00
                go_wp2
                go_roundw
                case rel => exact ⟨k + 1, j5, A5, c5, by omega, by have := hj5.out; omega, rfl, by go_num, Lib.hid (by rw [EX.out, List.length_append, HJ.out, List.length_map, List.length_take, HI.out rfl]; have := HI.out rfl; have := hj5.out; omega), by rw [EX.out]; exact own5, b5⟩
                case measure => simp [intOf]; omega
              · obtain ⟨bs8, os8, x, rfl, hbs8, hx8, y0, y1, y2, y3, y4, y5⟩ := R5.atY hin
                have RX := (OF2.out y).2 x (List.mem_of_getElem? hx8)
                obtain ⟨_, _, _, ⟨p1, p2⟩, ⟨p3, p4⟩, ⟨p5, p6⟩⟩ := RX
                have HX8 := Lib.hid hx8
                have RL : Rd (wr.alloc (.cells #[.int .i64 x.prio, .int .i64 x.wt, .int .i64 x.port] 3)).drew (wr.alloc (.cells #[.int .i64 x.prio, .int .i64 x.wt, .int .i64 x.port] 3)).drew.heap.size 1 (some ⟨wr.heap.size, 0, none⟩) 3 (I [x.prio, x.wt, x.port]) := ((Rd.lit wr #[.int .i64 x.prio, .int .i64 x.wt, .int .i64 x.port] 3 1 3 rfl).more (show wr.heap.size + 1 ≤ (wr.drew.alloc (.cells #[.int .i64 x.prio, .int .i64 x.wt, .int .i64 x.port] 3)).heap.size by simp)).drew
                have CL := rolay2_any [x.prio, x.wt, x.port] _ 3 3 _ RL (by omega) (by intro v hv; simp only [List.mem_cons, List.not_mem_nil, or_false] at hv; rcases hv with rfl | rfl | rfl <;> omega)
                obtain ⟨tl, etl⟩ : ∃ z, [x.prio, x.wt, x.port].flatMap (fun v : Int => Pk.b2 v.toNat) = z := ⟨_, rfl⟩
                have htl : tl.length = 6 := by rw [← etl]; rfl
                rw [etl] at CL
                have ED : Hid (tl ++ th = Zo.srvD dom y x) := Lib.hid (by rw [← etl, ← srvD_of, EH.out])
                have AD : ∀ w, (Op.stringOp .add (strB tl) (strB th)).run Tryz.prog w = .ok (.string (strB (tl ++ th))) w := fun w => run_two (by omega)
                have bl := ((Below.refl wr.heap.size wr).alloc (Nat.le_refl _) (.cells #[.int .i64 x.prio, .int .i64 x.wt, .int .i64 x.port] 3)).drew
                have HCL := Lib.hid CL
                have HBL := Lib.hid bl
                have HOWN := Lib.hid own5
                have HR5 := Lib.hid R5
                have HOF := Lib.hid off5
                have hbase : w6.heap.size ≤ wr.heap.size := b5.size
                clear hx8 etl htl RL CL bl own5 R5 off5 p1 p2 p3 p4 p5 p6 y0 y1 y5
                go_wp2
                refine wp_region_held_drew (S := (fun w' => w'.cell? ⟨bs8, os8 + i * 6 + 3, none⟩ = some (.int .i64 x.prio) ∧ w'.cell? ⟨bs8, os8 + i * 6 + 4, none⟩ = some (.int .i64 x.wt) ∧ w'.cell? ⟨bs8, os8 + i * 6 + 2, none⟩ = some (.int .i64 x.port))) (by kernel_rfl) (by exact ⟨y3, y4, y2⟩) (fun hHeld0 => ?_)
                refine tk 0 132 rfl hHeld0 ?_
                refine tk 1 133 rfl hHeld0 ?_
                refine tk 2 134 rfl hHeld0 ?_
                refine tk 3 135 rfl hHeld0 ?_
                refine tk 4 136 rfl hHeld0 ?_
                refine tk 5 137 rfl hHeld0 ?_
                refine tk 6 138 rfl hHeld0 ?_
                refine tk 7 139 rfl hHeld0 ?_
                refine tk 8 140 rfl hHeld0 ?_
                refine tk 9 141 rfl hHeld0 ?_
                refine tk 10 142 rfl hHeld0 ?_
                refine tk 11 143 rfl hHeld0 ?_
                refine tk 12 144 rfl hHeld0 ?_
                refine tk 13 145 rfl hHeld0 ?_
                refine tk 14 146 rfl hHeld0 ?_
                refine tk 15 147 rfl hHeld0 ?_
                refine tk 18 150 rfl hHeld0 ?_
                refine wpAnyH_ready (rs := [16]) (by kernel_rfl) (by simp) (AllReadyH.cons (o := ⟨some 148, _, _, _, _, _⟩) rfl (fun K hK => ?_) AllReadyH.nil)
                go_simp
                (replace y2 := (HBL.out.cell (p := ⟨bs8, os8 + i * 6 + 2, none⟩) hbs8).trans y2; replace y3 := (HBL.out.cell (p := ⟨bs8, os8 + i * 6 + 3, none⟩) hbs8).trans y3; replace y4 := (HBL.out.cell (p := ⟨bs8, os8 + i * 6 + 4, none⟩) hbs8).trans y4)
                go_simp
                refine hK.out _ _ (by exact ⟨y3, y4, y2⟩) (fun hHeld1 => ?_)
                clear hK hHeld0 K
                try simp only [Act.put, sA, sB, sC]
                refine wpAnyH_ready (rs := [17]) (by kernel_rfl) (by simp) (AllReadyH.cons (o := ⟨some 149, _, _, _, _, _⟩) rfl (fun K hK => ?_) AllReadyH.nil)
                go_simp
                (refine HCL.out.mono ?_; rintro e w9 ⟨rfl, hb9⟩; have b9 : Below wr.heap.size wr w9 := HBL.out.trans (hb9.mono HBL.out.size); replace y2 := (hb9.cell (p := ⟨bs8, os8 + i * 6 + 2, none⟩) (Nat.lt_of_lt_of_le hbs8 HBL.out.size)).trans y2; replace y3 := (hb9.cell (p := ⟨bs8, os8 + i * 6 + 3, none⟩) (Nat.lt_of_lt_of_le hbs8 HBL.out.size)).trans y3; replace y4 := (hb9.cell (p := ⟨bs8, os8 + i * 6 + 4, none⟩) (Nat.lt_of_lt_of_le hbs8 HBL.out.size)).trans y4; have hs9 := b9.size; have z2 := y2; have z3 := y3; have z4 := y4; have own9 := own_belowY HOWN.out b9; have R9 := HR5.out.belowH b9)
                go_simp
                refine hK.out _ _ (by exact ⟨y3, y4, y2⟩) (fun hHeld2 => ?_)
                clear hK hHeld1 K
                try simp only [Act.put, sA, sB, sC]
                refine tk 19 151 rfl hHeld2 ?_
                refine wpAnyH_ready (rs := [20]) (by kernel_rfl) (by simp) (AllReadyH.cons (o := ⟨some 152, _, _, _, _, _⟩) rfl (fun K hK => ?_) AllReadyH.nil)
                go_simp
                (have h89 : bs8 < w9.heap.size := Nat.lt_of_lt_of_le hbs8 hs9; replace y2 := (World.cell?_alloc_lt w9 (.cells #[.string (strB (tl ++ th))] 9) ⟨bs8, os8 + i * 6 + 2, none⟩ h89).trans y2; replace y3 := (World.cell?_alloc_lt w9 (.cells #[.string (strB (tl ++ th))] 9) ⟨bs8, os8 + i * 6 + 3, none⟩ h89).trans y3; replace y4 := (World.cell?_alloc_lt w9 (.cells #[.string (strB (tl ++ th))] 9) ⟨bs8, os8 + i * 6 + 4, none⟩ h89).trans y4)
                go_simp
                refine hK.out _ _ (by exact ⟨y3, y4, y2⟩) (fun hHeld3 => ?_)
                clear hK hHeld2 K
                try simp only [Act.put, sA, sB, sC]
                refine wpAnyH_ready (rs := [21]) (by kernel_rfl) (by simp) (AllReadyH.cons (o := ⟨some 153, _, _, _, _, _⟩) rfl (fun K hK => ?_) AllReadyH.nil)
                (refine pushF_step (f := tcl) (y := tl ++ th) strT tcl_len tcl_one rfl (.tmp 132) (.tmp 152) (by rfl) w6.heap.size rfl (by rfl) (by rfl) own9 (by have := hj5.out; omega) (by have := hj5.out; omega) (by omega) ?_; rintro A10 c10 w10 own10 hb10 hkeep; replace y2 := keeps_cell6 hkeep R9 HOF.out hin (by omega) z2; replace y3 := keeps_cell6 hkeep R9 HOF.out hin (by omega) z3; replace y4 := keeps_cell6 hkeep R9 HOF.out hin (by omega) z4)
                go_simp
                refine hK.out _ _ (by exact ⟨y3, y4, y2⟩) (fun hHeld4 => ?_)
                clear hK hHeld3 K
                try simp only [Act.put, sA, sB, sC]
                refine tk 22 7 rfl hHeld4 ?_
                refine wpAnyH_done (by kernel_rfl) ?_ _
                obtain ⟨R10, off10⟩ := hkeep R9 HOF.out
                have b10 := (b5.trans (b9.mono b5.size)).trans hb10
                rw [ED.out, List.append_assoc, ← map_take (Zo.srvD dom y) HX8.out] at own10
                clear y2 y3 y4 z2 z3 z4 HCL HBL
                go_wp2
                go_roundw
                case rel => exact ⟨i + 1, j5 + 1, A10, c10, by omega, Lib.hid (by have := hj5.out; omega), by go_num, rfl, Lib.hid (fun h => by cases h), own10, R10, off10, b10⟩
                case measure => simp [intOf]; omega
            · have g1 : decide ((i : Int) < (n8 : Int)) = false := decide_eq_false (by omega)
              have g1' : decide (i < n8) = false := decide_eq_false hin
              have EX : Hid ((cs.take (k + 1)).flatMap g = (cs.take k).flatMap g ++ ((f y).take i).map (Zo.srvD dom y)) := Lib.hid (by
                rw [AT.out, EGY.out, show (f y).take i = f y from List.take_of_length_le (by have := HL8.out; omega)]
                cases okh
                · have h0 : i = 0 := HI.out rfl
                  have h1 : (f y) = [] := List.eq_nil_of_length_eq_zero (by have := HL8.out; omega)
                  rw [h1]
                  simp
                · rfl)
              have hi4 : i ≤ 4000 := by omega
              have EJ : Hid (((cs.take (k + 1)).flatMap g).length = j5) := Lib.hid (by rw [EX.out, List.length_append, HJ.out, List.length_map, List.length_take]; have := HL8.out; have := hj5.out; omega)
              go_wp2
              go_roundw
              case rel => exact ⟨k + 1, j5, A5, c5, by omega, by have := hj5.out; omega, rfl, by go_num, EJ, by rw [EX.out]; exact own5, b5⟩
              case measure => simp [intOf]; omega
        · have E : Hid (L = (cs.take k).flatMap g) := Lib.hid (by rw [EL2.out, List.take_of_length_le (by have := HL3.out; omega)])
          rw [← E.out] at own HJ
          have HO := Rd.of_own own
          rw [tcl_T] at HO
          have bz := b.trans (b6.mono b.size)
          have HJ2 : Hid (L.length = j ∧ j ≤ 4000000) := Lib.hid ⟨HJ.out, by omega⟩
          clear own x0 x1 x2
          go_wp2
          go_meet
          exact ⟨A4, j, c4, rfl, HJ2, HO, bz⟩
  case rest =>
    obtain ⟨A1, j, c1, rfl, HJ, RT, bc⟩ := hcut
    clear X G b hrd hgr CC CO CF OF SB HOK HL HHH HAP HFEW H62 hob
    have hj4 : j ≤ 4000000 := HJ.out.2
    go_wp2
    go_loopw [25, 26] (fun v i wr => ∃ (k : Nat) (A2 : Option Addr) (c2 : Nat), k ≤ j ∧ v = .slice A2 k c2 ∧ i = .int .i64 (k : Int) ∧ wr.ownsRow wc.heap.size 32 5 (.slice A2 k c2) k (FC rc ((L.take k).map (Zo.rcd name typ))) ∧ Below wc.heap.size wc wr) (fun _ i _ => j - (intOf i).toNat)
    case atStart => exact ⟨0, none, 0, Nat.zero_le _, rfl, rfl, World.ownsRow_nil _ _ _ _, Below.refl _ _⟩
    case round =>
      obtain ⟨k, A2, c2, hk, rfl, rfl, own, b2⟩ := hrel
      have hk0 : (0 : Int) ≤ (k : Int) := by omega
      by_cases hlt : k < j
      · obtain ⟨bq, oq, y, rfl, hbq, hy, c0⟩ := (RT.belowH b2).atT hlt
        have E := Lib.hid (map_take (Zo.rcd name typ) hy)
        have hbs : wc.heap.size ≤ wr.heap.size := b2.size
        clear hy
        go_wp2_with (at_builtin; refine pushF_law (f := rc) (y := Zo.rcd name typ y) recT rc_len rc_one rfl (.tmp 160) (.tmp 168) rfl wc.heap.size rfl rfl rfl own (by omega) (by omega) hbs ?_; rintro A3 c3 w3 own3 hb3 _)
        go_roundw
        case rel => exact ⟨k + 1, A3, c3, by omega, rfl, by go_num, by rw [E.out]; exact own3, b2.trans hb3⟩
        case measure => simp [intOf]; omega
      · have E : Hid (k = j ∧ L.take k = L) := Lib.hid ⟨by omega, List.take_of_length_le (by have := HJ.out.1; omega)⟩
        rw [E.out.2, ← ET.out] at own
        have HO := Lib.hid own
        have ELN : Hid (R.length = k) := Lib.hid (by rw [ET.out, List.length_map, HJ.out.1, E.out.1])
        clear own
        go_wp2
        go_ret
        exact ⟨A2, k, c2, rfl, ELN.out, own_mono HO.out bc.size, bc.trans (b2.mono bc.size)⟩
end Go.Proofs.YtmbfldcmiabccaaGreatDoor

namespace Go.Proofs.YtmbfldcmiabccaaGreatDoor
set_option linter.unusedVariables false
set_option linter.unusedSimpArgs false
open Go.RowKit

end Go.Proofs.YtmbfldcmiabccaaGreatDoor

namespace Go.Proofs.YtmbfldcmiabccaaGreatDoor
set_option linter.unusedVariables false
set_option linter.unusedSimpArgs false
open Go.RowKit

noncomputable def vrightB (l : List Nm) : Bool := open Classical in decide (V.right l)
theorem vrightB_iff {l : List Nm} {b : Bool} (h : b = true ↔ V.right l) : b = vrightB l := by
  unfold vrightB
  by_cases hr : V.right l
  · rw [h.2 hr]; simp [hr]
  · cases b
    · simp [hr]
    · exact absurd (h.1 rfl) hr
theorem vrightB_no {l : List Nm} (h : ¬ V.right l) : vrightB l = false := (vrightB_iff (b := false) ⟨(fun e => by cases e), fun hr => absurd hr h⟩).symm
theorem vrightB_yes {l : List Nm} (h : V.right l) : vrightB l = true := (vrightB_iff (b := true) ⟨fun _ => h, fun _ => rfl⟩).symm
theorem vrightB_out {l : List Nm} (h : vrightB l = true) : V.right l := by
  by_cases hr : V.right l
  · exact hr
  · rw [vrightB_no hr] at h; cases h
theorem riseV_snoc {l : List Nm} {z : Nm} : V.rising (l ++ [z]) ↔ V.rising l ∧ ∀ y ∈ l, y.node < z.node := by
  induction l with
  | nil => simp [V.rising]
  | cons x r ih =>
    rw [List.cons_append, V.rising, V.rising, ih]
    constructor
    · rintro ⟨h1, h2, h3⟩
      refine ⟨⟨fun y hy => h1 y (by simp [hy]), h2⟩, fun y hy => ?_⟩
      rcases List.mem_cons.1 hy with rfl | hy
      · exact h1 z (by simp)
      · exact h3 y hy
    · rintro ⟨⟨h1, h2⟩, h3⟩
      refine ⟨fun y hy => ?_, h2, fun y hy => h3 y (by simp [hy])⟩
      rcases List.mem_append.1 hy with hy | hy
      · exact h1 y hy
      · obtain rfl : y = z := by simpa using hy
        exact h3 x (by simp)
theorem riseV_at {l : List Nm} (h : V.rising l) {i j : Nat} {x y : Nm} (hij : i < j) (hx : l[i]? = some x) (hy : l[j]? = some y) : x.node < y.node := by
  induction l generalizing i j with
  | nil => simp at hx
  | cons z r ih =>
    cases j with
    | zero => omega
    | succ j =>
      rw [List.getElem?_cons_succ] at hy
      cases i with
      | zero =>
        obtain rfl : z = x := by simpa using hx
        exact h.1 y (List.mem_of_getElem? hy)
      | succ i =>
        rw [List.getElem?_cons_succ] at hx
        exact ih h.2 (by omega) hx hy
theorem rightV_snoc {l : List Nm} {x : Nm} (h : V.right l) (hm : V.may x) (hlt : ∀ y ∈ l, y.node < x.node) : V.right (l ++ [x]) := by
  refine ⟨fun y hy => ?_, riseV_snoc.2 ⟨h.2, hlt⟩⟩
  rcases List.mem_append.1 hy with hy | hy
  · exact h.1 y hy
  · obtain rfl : y = x := by simpa using hy
    exact hm
theorem below_lastV {l : List Nv} {k : Nat} {z x : Nv} (hr : V.rising ((l.take k).map Nv.nm)) (hz : (l.map Nv.nm)[k - 1]? = some z.nm) (hzx : z.node < x.node) (hk : 0 < k) : ∀ y ∈ (l.take k).map Nv.nm, y.node < x.nm.node := by
  intro y hy
  obtain ⟨i, hi, rfl⟩ := List.mem_iff_getElem.1 hy
  have hil : i < k := by rw [List.length_map, List.length_take] at hi; omega
  have hz2 : ((l.take k).map Nv.nm)[k - 1]? = some z.nm := by
    rw [List.getElem?_map] at hz ⊢
    rw [List.getElem?_take, if_pos (by omega)]
    exact hz
  by_cases h : i = k - 1
  · subst h
    rw [List.getElem?_eq_getElem hi] at hz2
    injection hz2 with hz2
    rw [hz2]; exact hzx
  · have h1 := riseV_at hr (show i < k - 1 by omega) (List.getElem?_eq_getElem hi) hz2
    have h2 : z.nm.node < x.nm.node := hzx
    omega

set_option maxHeartbeats 8000000 in
set_option maxRecDepth 20000 in
theorem rvright_any (U : Vw) (w : World) (h : VRd w U) (hn : U.n ≤ 1000) (hf : VFit U) :
    Calls Tryz.prog 6 #[vval U] w fun e w' => e = .returned (.bool (vrightB U.view)) ∧ Below w.heap.size w w' := by
  obtain ⟨l, A, n, c⟩ := U
  have hl := h.len
  simp only at hn hl hf
  have HL := Lib.hid hl
  have HF := Lib.hid hf
  clear hl hf
  simp only [vval]
  go_enter Tryz.func6, Tryz.ntmps6
  go_wp2
  go_loopw [3] (fun i wr => ∃ k : Nat, k ≤ n ∧ i = .int .i64 k ∧ V.right ((l.take k).map Nv.nm) ∧ Below w.heap.size w wr) (fun i _ => n - (intOf i).toNat)
  case atStart => exact ⟨0, by omega, rfl, ⟨by simp, (trivial : V.rising [])⟩, Below.refl _ _⟩
  case round =>
    obtain ⟨k, hk, rfl, hno, hbel⟩ := hrel
    have HN := Lib.hid hno
    have hbs := hbel.size
    clear hno
    by_cases hlt : k < n
    · obtain ⟨b, o, x, e1, hb, hx, hsx, c0, c1', c2, c3⟩ := (h.belowH hbel).at hlt
      have hk0 : (0 : Int) ≤ (k : Int) := by omega
      have hfx := HF.out x (List.mem_of_getElem? hx)
      have hxm : (l.map Nv.nm)[k]? = some x.nm := nm_at hx
      have HX := Lib.hid hxm
      have hxl : x.nm ∈ l.map Nv.nm := List.mem_of_getElem? hxm
      have HXL := Lib.hid hxl
      have htk : (l.take (k + 1)).map Nv.nm = (l.take k).map Nv.nm ++ [x.nm] := by rw [take_more hx, List.map_append]; rfl
      have HTK := Lib.hid htk
      clear hxm hxl htk
      by_cases h0 : x.node < 0
      · have HNO : Hid (vrightB (l.map Nv.nm) = false) := Lib.hid (vrightB_no fun hr => absurd (hr.1 x.nm HXL.out).1 (by show ¬ 0 ≤ x.node; omega))
        have t0 : decide (x.node < 0) = true := decide_eq_true h0
        simp only at e1 hx
        subst e1
        clear hx
        go_wp2
        refine wp_region_held_drew (S := (fun w' => w'.cell? ⟨b, o + k * 4, none⟩ = some (.int .i64 x.node) ∧ w'.cell? ⟨b, o + k * 4 + 1, none⟩ = some (.int .i64 x.v.s.gen) ∧ w'.cell? ⟨b, o + k * 4 + 2, none⟩ = some (.int .i64 x.v.s.beat) ∧ w'.cell? ⟨b, o + k * 4 + 3, none⟩ = some (.slice x.v.A x.v.n x.v.c))) (by kernel_rfl) (by exact ⟨c0, c1', c2, c3⟩) (fun hHeld0 => ?_)
        refine tk 0 10 rfl hHeld0 ?_
        refine tk 1 11 rfl hHeld0 ?_
        refine tk 2 12 rfl hHeld0 ?_
        refine tk 3 13 rfl hHeld0 ?_
        refine tk 4 14 rfl hHeld0 ?_
        refine tk 5 15 rfl hHeld0 ?_
        refine tk 6 16 rfl hHeld0 ?_
        refine tu 7 17 rfl hHeld0 ?_
        refine tu 8 18 rfl hHeld0 ?_
        refine tu 9 19 rfl hHeld0 ?_
        refine tu 10 20 rfl hHeld0 ?_
        refine tu 11 21 rfl hHeld0 ?_
        refine tu 12 22 rfl hHeld0 ?_
        refine tk 13 23 rfl hHeld0 ?_
        refine tk 14 24 rfl hHeld0 ?_
        refine tu 15 25 rfl hHeld0 ?_
        refine tu 16 26 rfl hHeld0 ?_
        refine tu 17 27 rfl hHeld0 ?_
        refine tu 18 28 rfl hHeld0 ?_
        refine tu 19 29 rfl hHeld0 ?_
        refine tu 20 30 rfl hHeld0 ?_
        refine tu 21 31 rfl hHeld0 ?_
        refine tu 22 32 rfl hHeld0 ?_
        refine tu 23 33 rfl hHeld0 ?_
        refine tu 24 34 rfl hHeld0 ?_
        refine tu 25 35 rfl hHeld0 ?_
        refine tu 26 36 rfl hHeld0 ?_
        refine tu 27 37 rfl hHeld0 ?_
        refine tu 28 38 rfl hHeld0 ?_
        refine tu 29 39 rfl hHeld0 ?_
        refine tu 30 40 rfl hHeld0 ?_
        refine tk 31 41 rfl hHeld0 ?_
        refine tk 32 42 rfl hHeld0 ?_
        refine tu 33 43 rfl hHeld0 ?_
        refine tu 34 44 rfl hHeld0 ?_
        refine tu 35 45 rfl hHeld0 ?_
        refine tu 36 46 rfl hHeld0 ?_
        refine tu 37 47 rfl hHeld0 ?_
        refine tu 38 48 rfl hHeld0 ?_
        refine tu 39 49 rfl hHeld0 ?_
        refine tk 40 50 rfl hHeld0 ?_
        refine wpAnyH_done (by kernel_rfl) ?_ _
        go_wp2
        go_ret
        exact ⟨ret_bool HNO.out.symm, hbel.drew⟩
      · have t0 : decide (x.node < 0) = false := decide_eq_false h0
        have t0' : ¬ x.node < 0 := h0
        by_cases h8 : 8 ≤ x.node
        · have HNO : Hid (vrightB (l.map Nv.nm) = false) := Lib.hid (vrightB_no fun hr => absurd (hr.1 x.nm HXL.out).2.1 (by show ¬ x.node < 8; omega))
          have t8 : decide (8 ≤ x.node) = true := decide_eq_true h8
          simp only at e1 hx
          subst e1
          clear hx
          go_wp2
          refine wp_region_held_drew (S := (fun w' => w'.cell? ⟨b, o + k * 4, none⟩ = some (.int .i64 x.node) ∧ w'.cell? ⟨b, o + k * 4 + 1, none⟩ = some (.int .i64 x.v.s.gen) ∧ w'.cell? ⟨b, o + k * 4 + 2, none⟩ = some (.int .i64 x.v.s.beat) ∧ w'.cell? ⟨b, o + k * 4 + 3, none⟩ = some (.slice x.v.A x.v.n x.v.c))) (by kernel_rfl) (by exact ⟨c0, c1', c2, c3⟩) (fun hHeld0 => ?_)
          refine tk 0 10 rfl hHeld0 ?_
          refine tk 1 11 rfl hHeld0 ?_
          refine tk 2 12 rfl hHeld0 ?_
          refine tk 3 13 rfl hHeld0 ?_
          refine tk 4 14 rfl hHeld0 ?_
          refine tk 5 15 rfl hHeld0 ?_
          refine tk 6 16 rfl hHeld0 ?_
          refine tk 7 17 rfl hHeld0 ?_
          refine tk 8 18 rfl hHeld0 ?_
          refine tk 9 19 rfl hHeld0 ?_
          refine tk 10 20 rfl hHeld0 ?_
          refine tk 11 21 rfl hHeld0 ?_
          refine tk 12 22 rfl hHeld0 ?_
          refine tk 13 23 rfl hHeld0 ?_
          refine tk 14 24 rfl hHeld0 ?_
          refine tu 15 25 rfl hHeld0 ?_
          refine tu 16 26 rfl hHeld0 ?_
          refine tu 17 27 rfl hHeld0 ?_
          refine tu 18 28 rfl hHeld0 ?_
          refine tu 19 29 rfl hHeld0 ?_
          refine tu 20 30 rfl hHeld0 ?_
          refine tu 21 31 rfl hHeld0 ?_
          refine tu 22 32 rfl hHeld0 ?_
          refine tu 23 33 rfl hHeld0 ?_
          refine tu 24 34 rfl hHeld0 ?_
          refine tu 25 35 rfl hHeld0 ?_
          refine tu 26 36 rfl hHeld0 ?_
          refine tu 27 37 rfl hHeld0 ?_
          refine tu 28 38 rfl hHeld0 ?_
          refine tu 29 39 rfl hHeld0 ?_
          refine tu 30 40 rfl hHeld0 ?_
          refine tk 31 41 rfl hHeld0 ?_
          refine tk 32 42 rfl hHeld0 ?_
          refine tu 33 43 rfl hHeld0 ?_
          refine tu 34 44 rfl hHeld0 ?_
          refine tu 35 45 rfl hHeld0 ?_
          refine tu 36 46 rfl hHeld0 ?_
          refine tu 37 47 rfl hHeld0 ?_
          refine tu 38 48 rfl hHeld0 ?_
          refine tu 39 49 rfl hHeld0 ?_
          refine tk 40 50 rfl hHeld0 ?_
          refine wpAnyH_done (by kernel_rfl) ?_ _
          go_wp2
          go_ret
          exact ⟨ret_bool HNO.out.symm, hbel.drew⟩
        · have t8 : decide (8 ≤ x.node) = false := decide_eq_false h8
          have HM : Hid (0 ≤ x.node ∧ x.node < 8) := Lib.hid ⟨by omega, by omega⟩
          by_cases hkp : 0 < k
          · obtain ⟨b', o', z, e2, hb', hz, _, f0, _, _, _⟩ := (h.belowH hbel).at (show k - 1 < n by omega)
            simp only at e1 e2 hz
            rw [e1] at e2
            obtain ⟨rfl, rfl⟩ : b = b' ∧ o = o' := by simpa using e2
            have hzm : (l.map Nv.nm)[k - 1]? = some z.nm := nm_at hz
            have HZ := Lib.hid hzm
            have g1i : (0 : Int) ≤ (k : Int) - 1 := by omega
            have g1' : (1 : Int) ≤ (k : Int) := by omega
            have g2i : (k : Int) - 1 < (n : Int) := by omega
            have g3i : ((k : Int) - 1).toNat = k - 1 := by omega
            have hkd : decide ((0 : Int) < (k : Int)) = true := decide_eq_true (by omega)
            clear hz hzm e2
            by_cases hzx : z.node < x.node
            · have td : decide (x.node ≤ z.node) = false := decide_eq_false (by omega)
              have HZX := Lib.hid hzx
              simp only at hx
              subst e1
              clear hx hzx
              go_wp2
              have g4i : IntKind.i64.wrap ((k : Int) - 1) = (k : Int) - 1 := IntWalk.i64_in _ (by omega)
              refine wp_region_held_drew (S := (fun w' => (w'.cell? ⟨b, o + k * 4, none⟩ = some (.int .i64 x.node) ∧ w'.cell? ⟨b, o + k * 4 + 1, none⟩ = some (.int .i64 x.v.s.gen) ∧ w'.cell? ⟨b, o + k * 4 + 2, none⟩ = some (.int .i64 x.v.s.beat) ∧ w'.cell? ⟨b, o + k * 4 + 3, none⟩ = some (.slice x.v.A x.v.n x.v.c)) ∧ w'.cell? ⟨b, o + (k - 1) * 4, none⟩ = some (.int .i64 z.node))) (by kernel_rfl) (by exact ⟨⟨c0, c1', c2, c3⟩, f0⟩) (fun hHeld0 => ?_)
              refine tk 0 10 rfl hHeld0 ?_
              refine tk 1 11 rfl hHeld0 ?_
              refine tk 2 12 rfl hHeld0 ?_
              refine tk 3 13 rfl hHeld0 ?_
              refine tk 4 14 rfl hHeld0 ?_
              refine tk 5 15 rfl hHeld0 ?_
              refine tk 6 16 rfl hHeld0 ?_
              refine tk 7 17 rfl hHeld0 ?_
              refine tk 8 18 rfl hHeld0 ?_
              refine tk 9 19 rfl hHeld0 ?_
              refine tk 10 20 rfl hHeld0 ?_
              refine tk 11 21 rfl hHeld0 ?_
              refine tk 12 22 rfl hHeld0 ?_
              refine tk 13 23 rfl hHeld0 ?_
              refine tk 14 24 rfl hHeld0 ?_
              refine tk 15 25 rfl hHeld0 ?_
              refine tk 16 26 rfl hHeld0 ?_
              refine tk 17 27 rfl hHeld0 ?_
              refine tk 18 28 rfl hHeld0 ?_
              refine tk 19 29 rfl hHeld0 ?_
              refine tk 20 30 rfl hHeld0 ?_
              refine tk 21 31 rfl hHeld0 ?_
              refine tk 22 32 rfl hHeld0 ?_
              refine tk 23 33 rfl hHeld0 ?_
              refine tk 24 34 rfl hHeld0 ?_
              refine tk 25 35 rfl hHeld0 ?_
              refine tk 26 36 rfl hHeld0 ?_
              refine tk 27 37 rfl hHeld0 ?_
              refine tk 28 38 rfl hHeld0 ?_
              refine tk 29 39 rfl hHeld0 ?_
              refine tk 30 40 rfl hHeld0 ?_
              refine tk 31 41 rfl hHeld0 ?_
              refine tk 32 42 rfl hHeld0 ?_
              refine tk 33 43 rfl hHeld0 ?_
              refine tk 34 44 rfl hHeld0 ?_
              refine tk 35 45 rfl hHeld0 ?_
              refine tk 36 46 rfl hHeld0 ?_
              refine tk 37 47 rfl hHeld0 ?_
              refine wpAnyH_ready (rs := [38]) (by kernel_rfl) (by simp) (AllReadyH.cons (o := ⟨some 48, _, _, _, _, _⟩) rfl (fun K hK => ?_) AllReadyH.nil)
              go_simp
              refine (rsright_any x.v _ hsx.drew (by omega)).mono ?_
              rintro e w2 ⟨rfl, hb2⟩
              have hb2' : Below wr.heap.size wr w2 := (Below.refl _ _).drew.trans hb2
              replace c0 := (hb2'.cell (p := ⟨b, o + k * 4, none⟩) hb).trans c0
              replace c1' := (hb2'.cell (p := ⟨b, o + k * 4 + 1, none⟩) hb).trans c1'
              replace c2 := (hb2'.cell (p := ⟨b, o + k * 4 + 2, none⟩) hb).trans c2
              replace c3 := (hb2'.cell (p := ⟨b, o + k * 4 + 3, none⟩) hb).trans c3
              replace f0 := (hb2'.cell (p := ⟨b, o + (k - 1) * 4, none⟩) hb).trans f0
              clear hb2
              rcases hs : srightB x.v.s
              · have HS := Lib.hid hs
                clear hs
                go_simp
                refine hK.out _ _ (by exact ⟨⟨c0, c1', c2, c3⟩, f0⟩) (fun hHeld1 => ?_)
                clear hK hHeld0 K
                try simp only [Act.put, sA, sB, sC]
                refine tk 39 49 rfl hHeld1 ?_
                refine tk 40 50 rfl hHeld1 ?_
                refine wpAnyH_done (by kernel_rfl) ?_ _
                have HNO : Hid (vrightB (l.map Nv.nm) = false) := Lib.hid (vrightB_no fun hr => by have h1 := srightB_yes (hr.1 x.nm HXL.out).2.2; rw [show srightB x.nm.st = false from HS.out] at h1; cases h1)
                go_wp2
                go_ret
                exact ⟨ret_bool HNO.out.symm, hbel.trans (hb2'.mono hbs)⟩
              · have HS := Lib.hid hs
                clear hs
                go_simp
                refine hK.out _ _ (by exact ⟨⟨c0, c1', c2, c3⟩, f0⟩) (fun hHeld1 => ?_)
                clear hK hHeld0 K
                try simp only [Act.put, sA, sB, sC]
                refine tk 39 49 rfl hHeld1 ?_
                refine tk 40 50 rfl hHeld1 ?_
                refine wpAnyH_done (by kernel_rfl) ?_ _
                go_wp2
                go_roundw
                case rel => exact ⟨k + 1, by omega, by go_num, by rw [HTK.out]; exact rightV_snoc HN.out ⟨HM.out.1, HM.out.2, srightB_out HS.out⟩ (below_lastV HN.out.2 HZ.out HZX.out (by omega)), hbel.trans (hb2'.mono hbs)⟩
                case measure => simp [intOf]; omega
            · have td : decide (x.node ≤ z.node) = true := decide_eq_true (by omega)
              have HNO : Hid (vrightB (l.map Nv.nm) = false) := Lib.hid (vrightB_no fun hr => hzx (riseV_at hr.2 (show k - 1 < k by omega) HZ.out HX.out))
              simp only at hx
              subst e1
              clear hx
              go_wp2
              have g4i : IntKind.i64.wrap ((k : Int) - 1) = (k : Int) - 1 := IntWalk.i64_in _ (by omega)
              refine wp_region_held_drew (S := (fun w' => (w'.cell? ⟨b, o + k * 4, none⟩ = some (.int .i64 x.node) ∧ w'.cell? ⟨b, o + k * 4 + 1, none⟩ = some (.int .i64 x.v.s.gen) ∧ w'.cell? ⟨b, o + k * 4 + 2, none⟩ = some (.int .i64 x.v.s.beat) ∧ w'.cell? ⟨b, o + k * 4 + 3, none⟩ = some (.slice x.v.A x.v.n x.v.c)) ∧ w'.cell? ⟨b, o + (k - 1) * 4, none⟩ = some (.int .i64 z.node))) (by kernel_rfl) (by exact ⟨⟨c0, c1', c2, c3⟩, f0⟩) (fun hHeld0 => ?_)
              refine tk 0 10 rfl hHeld0 ?_
              refine tk 1 11 rfl hHeld0 ?_
              refine tk 2 12 rfl hHeld0 ?_
              refine tk 3 13 rfl hHeld0 ?_
              refine tk 4 14 rfl hHeld0 ?_
              refine tk 5 15 rfl hHeld0 ?_
              refine tk 6 16 rfl hHeld0 ?_
              refine tk 7 17 rfl hHeld0 ?_
              refine tk 8 18 rfl hHeld0 ?_
              refine tk 9 19 rfl hHeld0 ?_
              refine tk 10 20 rfl hHeld0 ?_
              refine tk 11 21 rfl hHeld0 ?_
              refine tk 12 22 rfl hHeld0 ?_
              refine tk 13 23 rfl hHeld0 ?_
              refine tk 14 24 rfl hHeld0 ?_
              refine tk 15 25 rfl hHeld0 ?_
              refine tk 16 26 rfl hHeld0 ?_
              refine tk 17 27 rfl hHeld0 ?_
              refine tk 18 28 rfl hHeld0 ?_
              refine tk 19 29 rfl hHeld0 ?_
              refine tk 20 30 rfl hHeld0 ?_
              refine tk 21 31 rfl hHeld0 ?_
              refine tk 22 32 rfl hHeld0 ?_
              refine tk 23 33 rfl hHeld0 ?_
              refine tk 24 34 rfl hHeld0 ?_
              refine tk 25 35 rfl hHeld0 ?_
              refine tk 26 36 rfl hHeld0 ?_
              refine tk 27 37 rfl hHeld0 ?_
              refine tk 28 38 rfl hHeld0 ?_
              refine tk 29 39 rfl hHeld0 ?_
              refine tk 30 40 rfl hHeld0 ?_
              refine tk 31 41 rfl hHeld0 ?_
              refine tk 32 42 rfl hHeld0 ?_
              refine tu 33 43 rfl hHeld0 ?_
              refine tu 34 44 rfl hHeld0 ?_
              refine tu 35 45 rfl hHeld0 ?_
              refine tu 36 46 rfl hHeld0 ?_
              refine tu 37 47 rfl hHeld0 ?_
              refine tu 38 48 rfl hHeld0 ?_
              refine tu 39 49 rfl hHeld0 ?_
              refine tk 40 50 rfl hHeld0 ?_
              refine wpAnyH_done (by kernel_rfl) ?_ _
              go_wp2
              go_ret
              exact ⟨ret_bool HNO.out.symm, hbel.drew⟩
          · have hk1 : ¬ (0 : Int) < (k : Int) := by omega
            have hkd : decide ((0 : Int) < (k : Int)) = false := decide_eq_false hk1
            simp only at e1 hx
            subst e1
            clear hx
            go_wp2
            refine wp_region_held_drew (S := (fun w' => w'.cell? ⟨b, o + k * 4, none⟩ = some (.int .i64 x.node) ∧ w'.cell? ⟨b, o + k * 4 + 1, none⟩ = some (.int .i64 x.v.s.gen) ∧ w'.cell? ⟨b, o + k * 4 + 2, none⟩ = some (.int .i64 x.v.s.beat) ∧ w'.cell? ⟨b, o + k * 4 + 3, none⟩ = some (.slice x.v.A x.v.n x.v.c))) (by kernel_rfl) (by exact ⟨c0, c1', c2, c3⟩) (fun hHeld0 => ?_)
            refine tk 0 10 rfl hHeld0 ?_
            refine tk 1 11 rfl hHeld0 ?_
            refine tk 2 12 rfl hHeld0 ?_
            refine tk 3 13 rfl hHeld0 ?_
            refine tk 4 14 rfl hHeld0 ?_
            refine tk 5 15 rfl hHeld0 ?_
            refine tk 6 16 rfl hHeld0 ?_
            refine tk 7 17 rfl hHeld0 ?_
            refine tk 8 18 rfl hHeld0 ?_
            refine tk 9 19 rfl hHeld0 ?_
            refine tk 10 20 rfl hHeld0 ?_
            refine tk 11 21 rfl hHeld0 ?_
            refine tk 12 22 rfl hHeld0 ?_
            refine tk 13 23 rfl hHeld0 ?_
            refine tk 14 24 rfl hHeld0 ?_
            refine tk 15 25 rfl hHeld0 ?_
            refine tk 16 26 rfl hHeld0 ?_
            refine tk 17 27 rfl hHeld0 ?_
            refine tu 18 28 rfl hHeld0 ?_
            refine tu 19 29 rfl hHeld0 ?_
            refine tu 20 30 rfl hHeld0 ?_
            refine tu 21 31 rfl hHeld0 ?_
            refine tu 22 32 rfl hHeld0 ?_
            refine tu 23 33 rfl hHeld0 ?_
            refine tu 24 34 rfl hHeld0 ?_
            refine tu 25 35 rfl hHeld0 ?_
            refine tu 26 36 rfl hHeld0 ?_
            refine tu 27 37 rfl hHeld0 ?_
            refine tu 28 38 rfl hHeld0 ?_
            refine tu 29 39 rfl hHeld0 ?_
            refine tk 30 40 rfl hHeld0 ?_
            refine tk 31 41 rfl hHeld0 ?_
            refine tk 32 42 rfl hHeld0 ?_
            refine tk 33 43 rfl hHeld0 ?_
            refine tk 34 44 rfl hHeld0 ?_
            refine tk 35 45 rfl hHeld0 ?_
            refine tk 36 46 rfl hHeld0 ?_
            refine tk 37 47 rfl hHeld0 ?_
            refine wpAnyH_ready (rs := [38]) (by kernel_rfl) (by simp) (AllReadyH.cons (o := ⟨some 48, _, _, _, _, _⟩) rfl (fun K hK => ?_) AllReadyH.nil)
            go_simp
            refine (rsright_any x.v _ hsx.drew (by omega)).mono ?_
            rintro e w2 ⟨rfl, hb2⟩
            have hb2' : Below wr.heap.size wr w2 := (Below.refl _ _).drew.trans hb2
            replace c0 := (hb2'.cell (p := ⟨b, o + k * 4, none⟩) hb).trans c0
            replace c1' := (hb2'.cell (p := ⟨b, o + k * 4 + 1, none⟩) hb).trans c1'
            replace c2 := (hb2'.cell (p := ⟨b, o + k * 4 + 2, none⟩) hb).trans c2
            replace c3 := (hb2'.cell (p := ⟨b, o + k * 4 + 3, none⟩) hb).trans c3
            clear hb2
            rcases hs : srightB x.v.s
            · have HS := Lib.hid hs
              clear hs
              go_simp
              refine hK.out _ _ (by exact ⟨c0, c1', c2, c3⟩) (fun hHeld1 => ?_)
              clear hK hHeld0 K
              try simp only [Act.put, sA, sB, sC]
              refine tk 39 49 rfl hHeld1 ?_
              refine tk 40 50 rfl hHeld1 ?_
              refine wpAnyH_done (by kernel_rfl) ?_ _
              have HNO : Hid (vrightB (l.map Nv.nm) = false) := Lib.hid (vrightB_no fun hr => by have h1 := srightB_yes (hr.1 x.nm HXL.out).2.2; rw [show srightB x.nm.st = false from HS.out] at h1; cases h1)
              go_wp2
              go_ret
              exact ⟨ret_bool HNO.out.symm, hbel.trans (hb2'.mono hbs)⟩
            · have HS := Lib.hid hs
              clear hs
              go_simp
              refine hK.out _ _ (by exact ⟨c0, c1', c2, c3⟩) (fun hHeld1 => ?_)
              clear hK hHeld0 K
              try simp only [Act.put, sA, sB, sC]
              refine tk 39 49 rfl hHeld1 ?_
              refine tk 40 50 rfl hHeld1 ?_
              refine wpAnyH_done (by kernel_rfl) ?_ _
              go_wp2
              go_roundw
              case rel => exact ⟨k + 1, by omega, by go_num, by rw [HTK.out]; exact rightV_snoc HN.out ⟨HM.out.1, HM.out.2, srightB_out HS.out⟩ (fun y hy => by rw [show k = 0 by omega] at hy; simp at hy), hbel.trans (hb2'.mono hbs)⟩
              case measure => simp [intOf]; omega
    · have he : vrightB (l.map Nv.nm) = true := vrightB_yes (by have := HN.out; rwa [List.take_of_length_le (by have := HL.out; omega)] at this)
      have HE := Lib.hid he
      clear he
      go_wp2
      go_ret
      exact ⟨ret_bool HE.out.symm, hbel⟩
end Go.Proofs.YtmbfldcmiabccaaGreatDoor

namespace Go.Proofs.YtmbfldcmiabccaaGreatDoor
set_option linter.unusedVariables false
set_option linter.unusedSimpArgs false
open Go.RowKit
/-- a scene that a call is given -/
structure SnArg (s : Sn) : Prop where
  ok : SnOk s
  right : V.right s.v.view
  cap1 : s.v.n ≤ s.v.c ∧ s.v.c ≤ 9223372036854775807
  cap2 : s.m ≤ s.d ∧ s.d ≤ 9223372036854775807
/-- ints that are answered -/
def RdI (l : List Int) (w : World) (e : Ending) (w' : World) : Prop :=
  ∃ (A : Option Addr) (n c : Nat), e = .returned (.slice A n c) ∧ l.length = n ∧ Rd w' w'.heap.size 1 A n (I l) ∧ (n ≤ c ∧ c ≤ 9223372036854775807) ∧ Below w.heap.size w w'
/-- records that are answered -/
def RdRc (l : List Rrc) (w : World) (e : Ending) (w' : World) : Prop :=
  ∃ (A : Option Addr) (n c : Nat), e = .returned (.slice A n c) ∧ l.length = n ∧ Rd w' w'.heap.size 5 A n (RC l) ∧ (n ≤ c ∧ c ≤ 9223372036854775807) ∧ Below w.heap.size w w'
theorem OwnI.rd {l : List Int} {w w' : World} {e : Ending} (h : OwnI l w e w') : RdI l w e w' := by
  obtain ⟨A, n, c, h1, h2, h3, h4⟩ := h
  exact ⟨A, n, c, h1, h2, Rd.of_own h3, own_cap h3, h4⟩
theorem OwnRc.rd {l : List Rrc} {w w' : World} {e : Ending} (h : OwnRc l w e w') : RdRc l w e w' := by
  obtain ⟨A, n, c, h1, h2, h3, h4⟩ := h
  exact ⟨A, n, c, h1, h2, Rd.of_own h3, own_cap h3, h4⟩
end Go.Proofs.YtmbfldcmiabccaaGreatDoor

