/- ZRec (merged). -/
import Derived.Deep.RegionHeld3
import Derived.Test.YtbioblknhfmelaaJZR
import Derived.Test.YtbioblknhfmelaaJZRef2
namespace Go.Proofs.Ytbioblknhfmelaa
set_option linter.unusedVariables false
set_option linter.unusedSimpArgs false
open Go.RowKit
theorem Box.grownZ {w w' : World} {b : Nat} {T : TypeId} {cs : Array Value} (h : Box w b T cs) {row : Option Nat} (hg : w.grownBy w' row) (hne : row ≠ some b) : Box w' b T cs :=
  (hg.block b h.lt (fun e => hne e.symm)).trans h
theorem Wrote.box {a w : World} {base n c : Nat} {A A' : Option Addr} {l : List UInt8} (h : Wrote a w base A A' n c l) {b : Nat} {T : TypeId} {cs : Array Value} (hb : Box a b T cs) (hr : ∀ g, blk A = some g → base ≤ g) (hlt : b < base) : Box w b T cs :=
  hb.grownZ h.2.1 fun e => by have := hr b e; omega
theorem Wr.base {w : World} {base n c : Nat} {A : Option Addr} {l : List UInt8} (h : Wr w base A n c l) : ∀ g, blk A = some g → base ≤ g := fun g hg => by
  rcases h.2.2.2 with ⟨rfl, _⟩ | ⟨g', o, rfl, hb, _⟩
  · cases hg
  · injection hg with hg
    rw [← hg]; exact hb
theorem Wrote.below {a w : World} {B base n c : Nat} {A A' : Option Addr} {l : List UInt8} (h : Wrote a w base A A' n c l) (hr : ∀ g, blk A = some g → base ≤ g) (hB : B ≤ base) (hs : B ≤ a.heap.size) : Below B a w :=
  ⟨h.2.1.os, h.2.1.tape, h.2.1.output, h.2.1.size, fun b hb => h.2.1.block b (by omega) (fun e => by have := hr b e.symm; omega)⟩
theorem Wr.lit (w : World) (l : List UInt8) (h : l.length ≤ 9223372036854775807) : Wr (w.alloc (.cells (U l).toArray 5)) w.heap.size (some ⟨w.heap.size, 0, none⟩) l.length l.length l := by
  have hb := Box.new w (U l).toArray 5
  refine ⟨rfl, Nat.le_refl _, h, Or.inr ⟨w.heap.size, 0, rfl, Nat.le_refl _, by simp, fun j x hx => ?_, fun j hj => ?_⟩⟩
  · rw [Nat.zero_add]
    exact hb.at j (by rw [List.getElem?_toArray, U_get, hx]; rfl)
  · rw [Nat.zero_add]
    obtain ⟨x, hx⟩ : ∃ x, l[j]? = some x := ⟨_, List.getElem?_eq_getElem hj⟩
    exact ⟨by rw [hb.at j (v := .int .u8 (x.toNat : Int)) (by rw [List.getElem?_toArray, U_get, hx]; rfl)]; rfl, hb.cold j⟩
theorem Wr.mono {w : World} {base base' n c : Nat} {A : Option Addr} {l : List UInt8} (h : Wr w base A n c l) (hb : base' ≤ base) : Wr w base' A n c l := ⟨h.1, h.2.1, h.2.2.1, h.2.2.2.imp id fun ⟨g, o, e, h1, h2⟩ => ⟨g, o, e, by omega, h2⟩⟩
theorem rec4 {w : World} {b : Nat} {T : TypeId} {a0 a1 a2 a3 a4 : Value} (h : Box w b T #[a0, a1, a2, a3, a4]) : w.cell? ⟨b, 1, none⟩ = some a1 ∧ w.cell? ⟨b, 2, none⟩ = some a2 ∧ w.cell? ⟨b, 3, none⟩ = some a3 ∧ w.cell? ⟨b, 4, none⟩ = some a4 := ⟨h.at 1 rfl, h.at 2 rfl, h.at 3 rfl, h.at 4 rfl⟩
theorem cell_of_below {w w' : World} {b o : Nat} {v : Value} (hb : Below w.heap.size w w') (h : w.cell? ⟨b, o, none⟩ = some v) (hlt : b < w.heap.size) : w'.cell? ⟨b, o, none⟩ = some v := (hb.cell (p := ⟨b, o, none⟩) hlt).trans h
theorem Wr.belowH {w w' : World} {base n c : Nat} {A : Option Addr} {l : List UInt8} (h : Wr w base A n c l) (hb : Below w.heap.size w w') : Wr w' base A n c l := h.grown (row := none) ⟨hb.os, hb.tape, hb.output, hb.size, fun k hk _ => hb.block k hk⟩ (fun _ _ => by simp)
set_option maxHeartbeats 4000000 in
set_option maxRecDepth 20000 in
theorem rrecord_any (u : Pv) (r : Rrc) (w : World) (h : Rd w w.heap.size 3 u.A1 u.n1 (QC u.x.qs)) (hn : u.n1 ≤ 70368744177664) (hq : ∀ q ∈ u.x.qs, q.name.length ≤ 100000) (hr : Pk.rightR r) (hl : r.name.length ≤ 100000) :
    Calls Try.prog 25 #[pval u, .agg #[.string (strB r.name), .int .i64 r.typ, .int .i64 r.cls, .int .i64 r.ttl, .string (strB r.data)]] w fun e w' => ∃ A' c', e = .returned (.slice A' (Pk.rb u.x.qs r).length c') ∧ Rd w' w'.heap.size 1 A' (Pk.rb u.x.qs r).length (U (Pk.rb u.x.qs r)) ∧ Below w.heap.size w w' := by
  obtain ⟨x, A1, n1, c1, A2, n2, c2, A3, n3, c3, A4, n4, c4⟩ := u
  obtain ⟨_, ⟨t1, t2⟩, ⟨t3, t4⟩, t5, t6, t7⟩ := hr
  obtain ⟨nm, typ, cls, ttl, data⟩ := r
  obtain ⟨id, flags, qs, an, au, mo⟩ := x
  simp only [pval] at *
  have hsd : ((strB data).size : Int) = (data.length : Int) := by rw [show (strB data).size = data.length from by show (List.toArray data).size = _; simp]
  cases qs with
  | nil =>
    have hl0 : n1 = 0 := by have := h.lenQ; simpa using this.symm
    subst hl0
    have X := (Box.new w #[.int .i64 id, .int .i64 flags, .slice A1 0 c1, .slice A2 n2 c2, .slice A3 n3 c3, .slice A4 n4 c4] 25).alloc (.cells #[.string (strB nm), .int .i64 typ, .int .i64 cls, .int .i64 ttl, .string (strB data)] 50)
    have Y := Box.new (w.alloc (.cells #[.int .i64 id, .int .i64 flags, .slice A1 0 c1, .slice A2 n2 c2, .slice A3 n3 c3, .slice A4 n4 c4] 25)) #[.string (strB nm), .int .i64 typ, .int .i64 cls, .int .i64 ttl, .string (strB data)] 50
    have b := ((Below.refl w.heap.size w).alloc (Nat.le_refl _) (.cells #[.int .i64 id, .int .i64 flags, .slice A1 0 c1, .slice A2 n2 c2, .slice A3 n3 c3, .slice A4 n4 c4] 25)).alloc (by simp) (.cells #[.string (strB nm), .int .i64 typ, .int .i64 cls, .int .i64 ttl, .string (strB data)] 50)
    have zs : ((w.alloc (.cells #[.int .i64 id, .int .i64 flags, .slice A1 0 c1, .slice A2 n2 c2, .slice A3 n3 c3, .slice A4 n4 c4] 25)).alloc (.cells #[.string (strB nm), .int .i64 typ, .int .i64 cls, .int .i64 ttl, .string (strB data)] 50)).heap.size = w.heap.size + 2 := by simp
    have zr : (w.alloc (.cells #[.int .i64 id, .int .i64 flags, .slice A1 0 c1, .slice A2 n2 c2, .slice A3 n3 c3, .slice A4 n4 c4] 25)).heap.size = w.heap.size + 1 := by simp
    have RB := run_bytes ((w.alloc (.cells #[.int .i64 id, .int .i64 flags, .slice A1 0 c1, .slice A2 n2 c2, .slice A3 n3 c3, .slice A4 n4 c4] 25)).alloc (.cells #[.string (strB nm), .int .i64 typ, .int .i64 cls, .int .i64 ttl, .string (strB data)] 50)) (strB nm)
    have G := Wr.text ((w.alloc (.cells #[.int .i64 id, .int .i64 flags, .slice A1 0 c1, .slice A2 n2 c2, .slice A3 n3 c3, .slice A4 n4 c4] 25)).alloc (.cells #[.string (strB nm), .int .i64 typ, .int .i64 cls, .int .i64 ttl, .string (strB data)] 50)) nm (by omega)
    rw [zr] at Y
    rw [zs] at G
    replace X := X.alloc (strO ((w.alloc (.cells #[.int .i64 id, .int .i64 flags, .slice A1 0 c1, .slice A2 n2 c2, .slice A3 n3 c3, .slice A4 n4 c4] 25)).alloc (.cells #[.string (strB nm), .int .i64 typ, .int .i64 cls, .int .i64 ttl, .string (strB data)] 50)) (strB nm))
    replace Y := Y.alloc (strO ((w.alloc (.cells #[.int .i64 id, .int .i64 flags, .slice A1 0 c1, .slice A2 n2 c2, .slice A3 n3 c3, .slice A4 n4 c4] 25)).alloc (.cells #[.string (strB nm), .int .i64 typ, .int .i64 cls, .int .i64 ttl, .string (strB data)] 50)) (strB nm))
    replace b := b.alloc (by omega) (strO ((w.alloc (.cells #[.int .i64 id, .int .i64 flags, .slice A1 0 c1, .slice A2 n2 c2, .slice A3 n3 c3, .slice A4 n4 c4] 25)).alloc (.cells #[.string (strB nm), .int .i64 typ, .int .i64 cls, .int .i64 ttl, .string (strB data)] 50)) (strB nm))
    have z3 : (((w.alloc (.cells #[.int .i64 id, .int .i64 flags, .slice A1 0 c1, .slice A2 n2 c2, .slice A3 n3 c3, .slice A4 n4 c4] 25)).alloc (.cells #[.string (strB nm), .int .i64 typ, .int .i64 cls, .int .i64 ttl, .string (strB data)] 50)).alloc (strO ((w.alloc (.cells #[.int .i64 id, .int .i64 flags, .slice A1 0 c1, .slice A2 n2 c2, .slice A3 n3 c3, .slice A4 n4 c4] 25)).alloc (.cells #[.string (strB nm), .int .i64 typ, .int .i64 cls, .int .i64 ttl, .string (strB data)] 50)) (strB nm))).heap.size = w.heap.size + 3 := by simp
    replace G : Wr (((w.alloc (.cells #[.int .i64 id, .int .i64 flags, .slice A1 0 c1, .slice A2 n2 c2, .slice A3 n3 c3, .slice A4 n4 c4] 25)).alloc (.cells #[.string (strB nm), .int .i64 typ, .int .i64 cls, .int .i64 ttl, .string (strB data)] 50)).alloc (strO ((w.alloc (.cells #[.int .i64 id, .int .i64 flags, .slice A1 0 c1, .slice A2 n2 c2, .slice A3 n3 c3, .slice A4 n4 c4] 25)).alloc (.cells #[.string (strB nm), .int .i64 typ, .int .i64 cls, .int .i64 ttl, .string (strB data)] 50)) (strB nm))) (w.heap.size + 2) _ _ _ _ := G
    have hsn : (strB nm).size = nm.length := by show (List.toArray nm).size = _; simp
    rw [hsn] at RB
    have hc := G.2.1
    go_enter Try.func25, Try.ntmps25
    go_wp2
    clear RB
    generalize ((w.alloc (.cells #[.int .i64 id, .int .i64 flags, .slice A1 0 c1, .slice A2 n2 c2, .slice A3 n3 c3, .slice A4 n4 c4] 25)).alloc (.cells #[.string (strB nm), .int .i64 typ, .int .i64 cls, .int .i64 ttl, .string (strB data)] 50)).alloc (strO ((w.alloc (.cells #[.int .i64 id, .int .i64 flags, .slice A1 0 c1, .slice A2 n2 c2, .slice A3 n3 c3, .slice A4 n4 c4] 25)).alloc (.cells #[.string (strB nm), .int .i64 typ, .int .i64 cls, .int .i64 ttl, .string (strB data)] 50)) (strB nm)) = w3 at *
    generalize strC ((w.alloc (.cells #[.int .i64 id, .int .i64 flags, .slice A1 0 c1, .slice A2 n2 c2, .slice A3 n3 c3, .slice A4 n4 c4] 25)).alloc (.cells #[.string (strB nm), .int .i64 typ, .int .i64 cls, .int .i64 ttl, .string (strB data)] 50)) (strB nm) = cz at *
    clear zs zr
    have x2 : w3.cell? ⟨w.heap.size, 2, none⟩ = some (.slice A1 0 c1) := X.at 2 rfl
    go_quiet (fail)
    have X4 : Box (w3.drew.drewN nq).drew w.heap.size _ _ := X
    have Y4 : Box (w3.drew.drewN nq).drew (w.heap.size + 1) _ _ := Y
    have b4 : Below w.heap.size w (w3.drew.drewN nq).drew := ⟨b.os, b.tape, b.output, b.size, b.block⟩
    have G4 : Wr (w3.drew.drewN nq).drew (w.heap.size + 2) _ _ _ _ := G
    have z4 : (w3.drew.drewN nq).drew.heap.size = w.heap.size + 3 := z3
    clear X Y b G z3 x2
    generalize w3.drew.drewN nq = w4 at *
    obtain ⟨k1, k2, k3, k4⟩ := rec4 Y4
    try go_wp2_with fail
    go_region_held3 (fun w' => w'.cell? ⟨w.heap.size + 1, 1, none⟩ = some (.int .i64 typ) ∧ w'.cell? ⟨w.heap.size + 1, 2, none⟩ = some (.int .i64 cls) ∧ w'.cell? ⟨w.heap.size + 1, 3, none⟩ = some (.int .i64 ttl) ∧ w'.cell? ⟨w.heap.size + 1, 4, none⟩ = some (.string (strB data))) (go_keep)
      (first
      | (go_at_call 24; refine (rlay2_any Ac _ cc (w.heap.size + 2) _ _ _ (by exact hcc.1) (by omega) (by omega) (by omega)).mono ?_; rintro e wd ⟨Ad, cd, rfl, hd⟩; have Yd := hd.box Yc gc (by omega); have gd := hd.1.base; obtain ⟨kd1, kd2, kd3, kd4⟩ := rec4 Yd; have sd := hd.2.1.size)
      | (go_at_call 24; refine (rlay4_any Ab _ cb (w.heap.size + 2) _ ttl _ (by exact hb.1) (by omega) (by omega) (by omega)).mono ?_; rintro e wc ⟨Ac, cc, rfl, hcc⟩; have Yc := hcc.box Yb gb (by omega); have gc := hcc.1.base; obtain ⟨kc1, kc2, kc3, kc4⟩ := rec4 Yc; have sc := hcc.2.1.size)
      | (go_at_call 24; refine (rlay2_any Aa _ ca (w.heap.size + 2) _ cls _ (by exact ha.1) (by omega) (by omega) (by omega)).mono ?_; rintro e wb ⟨Ab, cb, rfl, hb⟩; have Yb := hb.box Ya ga (by omega); have gb := hb.1.base; obtain ⟨kb1, kb2, kb3, kb4⟩ := rec4 Yb; have sb := hb.2.1.size)
      | (go_at_call 24; refine (rlay2_any _ nm.length cz (w.heap.size + 2) nm typ _ (by exact G4) (by omega) (by omega) (by omega)).mono ?_; rintro e wa ⟨Aa, ca, rfl, ha⟩; have Ya := ha.box Y4 G4.base (by omega); have ga := ha.1.base; obtain ⟨ka1, ka2, ka3, ka4⟩ := rec4 Ya; have sa := ha.2.1.size))
    have ZR : Hid (Pk.rb [] (⟨nm, typ, cls, ttl, data⟩ : Rrc) = nm ++ Pk.b2 typ.toNat ++ Pk.b2 cls.toNat ++ Pk.b4 ttl.toNat ++ Pk.b2 ((data.length : Int)).toNat ++ data) := Lib.hid (by simp [Pk.rb, Pk.nmb, Pk.asked])
    go_wp2_with (at_builtin; refine wr_str_law rfl (.tmp 38) (.tmp 40) rfl rfl hd.1 (by omega) rfl (by omega) ?_; rintro Az cz2 wz hz)
    go_ret
    have hw := (((ha.trans hb).trans hcc).trans hd).trans hz
    have hwl := hw.1.1
    have hrd := hw.1.rd
    rw [← ZR.out] at hwl hrd
    rw [← hwl] at hrd
    exact ⟨Az, cz2, by rw [hwl]; rfl, hrd, b4.trans (hw.below G4.base (by omega) (by omega))⟩
  | cons q qs =>
    have hl1 : 1 ≤ n1 := by have := h.lenQ; simp at this; omega
    have hqn : q.name.length ≤ 100000 := hq q (by simp)
    obtain ⟨z, hz⟩ : ∃ z, Lab.same nm q.name = z := ⟨_, rfl⟩
    have HZ := Lib.hid hz
    clear hz hq
    have X := (Box.new w #[.int .i64 id, .int .i64 flags, .slice A1 n1 c1, .slice A2 n2 c2, .slice A3 n3 c3, .slice A4 n4 c4] 25).alloc (.cells #[.string (strB nm), .int .i64 typ, .int .i64 cls, .int .i64 ttl, .string (strB data)] 50)
    have Y := Box.new (w.alloc (.cells #[.int .i64 id, .int .i64 flags, .slice A1 n1 c1, .slice A2 n2 c2, .slice A3 n3 c3, .slice A4 n4 c4] 25)) #[.string (strB nm), .int .i64 typ, .int .i64 cls, .int .i64 ttl, .string (strB data)] 50
    have b := ((Below.refl w.heap.size w).alloc (Nat.le_refl _) (.cells #[.int .i64 id, .int .i64 flags, .slice A1 n1 c1, .slice A2 n2 c2, .slice A3 n3 c3, .slice A4 n4 c4] 25)).alloc (by simp) (.cells #[.string (strB nm), .int .i64 typ, .int .i64 cls, .int .i64 ttl, .string (strB data)] 50)
    have zs : ((w.alloc (.cells #[.int .i64 id, .int .i64 flags, .slice A1 n1 c1, .slice A2 n2 c2, .slice A3 n3 c3, .slice A4 n4 c4] 25)).alloc (.cells #[.string (strB nm), .int .i64 typ, .int .i64 cls, .int .i64 ttl, .string (strB data)] 50)).heap.size = w.heap.size + 2 := by simp
    have zr : (w.alloc (.cells #[.int .i64 id, .int .i64 flags, .slice A1 n1 c1, .slice A2 n2 c2, .slice A3 n3 c3, .slice A4 n4 c4] 25)).heap.size = w.heap.size + 1 := by simp
    have RB := run_bytes ((w.alloc (.cells #[.int .i64 id, .int .i64 flags, .slice A1 n1 c1, .slice A2 n2 c2, .slice A3 n3 c3, .slice A4 n4 c4] 25)).alloc (.cells #[.string (strB nm), .int .i64 typ, .int .i64 cls, .int .i64 ttl, .string (strB data)] 50)) (strB nm)
    have G := Wr.text ((w.alloc (.cells #[.int .i64 id, .int .i64 flags, .slice A1 n1 c1, .slice A2 n2 c2, .slice A3 n3 c3, .slice A4 n4 c4] 25)).alloc (.cells #[.string (strB nm), .int .i64 typ, .int .i64 cls, .int .i64 ttl, .string (strB data)] 50)) nm (by omega)
    rw [zr] at Y
    rw [zs] at G
    replace X := X.alloc (strO ((w.alloc (.cells #[.int .i64 id, .int .i64 flags, .slice A1 n1 c1, .slice A2 n2 c2, .slice A3 n3 c3, .slice A4 n4 c4] 25)).alloc (.cells #[.string (strB nm), .int .i64 typ, .int .i64 cls, .int .i64 ttl, .string (strB data)] 50)) (strB nm))
    replace Y := Y.alloc (strO ((w.alloc (.cells #[.int .i64 id, .int .i64 flags, .slice A1 n1 c1, .slice A2 n2 c2, .slice A3 n3 c3, .slice A4 n4 c4] 25)).alloc (.cells #[.string (strB nm), .int .i64 typ, .int .i64 cls, .int .i64 ttl, .string (strB data)] 50)) (strB nm))
    replace b := b.alloc (by omega) (strO ((w.alloc (.cells #[.int .i64 id, .int .i64 flags, .slice A1 n1 c1, .slice A2 n2 c2, .slice A3 n3 c3, .slice A4 n4 c4] 25)).alloc (.cells #[.string (strB nm), .int .i64 typ, .int .i64 cls, .int .i64 ttl, .string (strB data)] 50)) (strB nm))
    have z3 : (((w.alloc (.cells #[.int .i64 id, .int .i64 flags, .slice A1 n1 c1, .slice A2 n2 c2, .slice A3 n3 c3, .slice A4 n4 c4] 25)).alloc (.cells #[.string (strB nm), .int .i64 typ, .int .i64 cls, .int .i64 ttl, .string (strB data)] 50)).alloc (strO ((w.alloc (.cells #[.int .i64 id, .int .i64 flags, .slice A1 n1 c1, .slice A2 n2 c2, .slice A3 n3 c3, .slice A4 n4 c4] 25)).alloc (.cells #[.string (strB nm), .int .i64 typ, .int .i64 cls, .int .i64 ttl, .string (strB data)] 50)) (strB nm))).heap.size = w.heap.size + 3 := by simp
    replace G : Wr (((w.alloc (.cells #[.int .i64 id, .int .i64 flags, .slice A1 n1 c1, .slice A2 n2 c2, .slice A3 n3 c3, .slice A4 n4 c4] 25)).alloc (.cells #[.string (strB nm), .int .i64 typ, .int .i64 cls, .int .i64 ttl, .string (strB data)] 50)).alloc (strO ((w.alloc (.cells #[.int .i64 id, .int .i64 flags, .slice A1 n1 c1, .slice A2 n2 c2, .slice A3 n3 c3, .slice A4 n4 c4] 25)).alloc (.cells #[.string (strB nm), .int .i64 typ, .int .i64 cls, .int .i64 ttl, .string (strB data)] 50)) (strB nm))) (w.heap.size + 2) _ _ _ _ := G
    have hsn : (strB nm).size = nm.length := by show (List.toArray nm).size = _; simp
    rw [hsn] at RB
    have hc := G.2.1
    have h3 := h.belowH b
    go_enter Try.func25, Try.ntmps25
    go_wp2
    clear RB
    generalize ((w.alloc (.cells #[.int .i64 id, .int .i64 flags, .slice A1 n1 c1, .slice A2 n2 c2, .slice A3 n3 c3, .slice A4 n4 c4] 25)).alloc (.cells #[.string (strB nm), .int .i64 typ, .int .i64 cls, .int .i64 ttl, .string (strB data)] 50)).alloc (strO ((w.alloc (.cells #[.int .i64 id, .int .i64 flags, .slice A1 n1 c1, .slice A2 n2 c2, .slice A3 n3 c3, .slice A4 n4 c4] 25)).alloc (.cells #[.string (strB nm), .int .i64 typ, .int .i64 cls, .int .i64 ttl, .string (strB data)] 50)) (strB nm)) = w3 at *
    generalize strC ((w.alloc (.cells #[.int .i64 id, .int .i64 flags, .slice A1 n1 c1, .slice A2 n2 c2, .slice A3 n3 c3, .slice A4 n4 c4] 25)).alloc (.cells #[.string (strB nm), .int .i64 typ, .int .i64 cls, .int .i64 ttl, .string (strB data)] 50)) (strB nm) = cz at *
    clear zs zr h
    obtain ⟨bq, oq, q', rfl, hbq, hq', q0, q1, q2⟩ := h3.atQ (k := 0) (by omega)
    obtain rfl : q = q' := by simpa using hq'
    simp only [Nat.zero_mul, Nat.add_zero] at q0
    clear q1 q2 h3 hq'
    have X4 : Box w3.drew.drew w.heap.size _ _ := X
    have Y4 : Box w3.drew.drew (w.heap.size + 1) _ _ := Y
    have b4 : Below w.heap.size w w3.drew.drew := ⟨b.os, b.tape, b.output, b.size, b.block⟩
    have G4 : Wr w3.drew.drew (w.heap.size + 2) _ _ _ _ := G
    have z4 : w3.drew.drew.heap.size = w.heap.size + 3 := z3
    have x2 : w3.drew.drew.cell? ⟨w.heap.size, 2, none⟩ = some (.slice (some ⟨bq, oq, none⟩) n1 c1) := X.at 2 rfl
    have y0 : w3.drew.drew.cell? ⟨w.heap.size + 1, 0, none⟩ = some (.string (strB nm)) := Y.at 0 rfl
    have q0' : w3.drew.drew.cell? ⟨bq, oq, none⟩ = some (.string (strB q.name)) := q0
    have g1 : decide ((0 : Int) < (n1 : Int)) = true := decide_eq_true (by omega)
    have g2 : decide (0 < n1) = true := decide_eq_true (by omega)
    have hi0 : (0 : Int) < (n1 : Int) := by omega
    have hi1 : (0 : Int) ≤ (n1 : Int) := by omega
    have hi2 : (1 : Int) ≤ (n1 : Int) := by omega
    have hi3 : 0 < n1 := by omega
    go_region_held3 (fun w' => w'.cell? ⟨w.heap.size, 2, none⟩ = some (.slice (some ⟨bq, oq, none⟩) n1 c1) ∧ w'.cell? ⟨w.heap.size + 1, 0, none⟩ = some (.string (strB nm)) ∧ w'.cell? ⟨bq, oq, none⟩ = some (.string (strB q.name))) (go_keep)
      (first
      | (go_at_call 37; refine (rsamel_at HZ.out hl hqn _).mono ?_; rintro e w5 ⟨rfl, hb5⟩; have XX : w5.cell? ⟨w.heap.size, 2, none⟩ = some (.slice (some ⟨bq, oq, none⟩) n1 c1) := (X4.belowH hb5).at 2 rfl; have YY : w5.cell? ⟨w.heap.size + 1, 0, none⟩ = some (.string (strB nm)) := (Y4.belowH hb5).at 0 rfl; have QQ : w5.cell? ⟨bq, oq, none⟩ = some (.string (strB q.name)) := cell_of_below hb5 q0' hbq))
    have Y5 := Y4.belowH hb5
    have G5 := G4.belowH hb5
    have b5 := b4.trans (hb5.mono (by omega))
    have sz5 := hb5.size
    have z5 : w.heap.size + 3 ≤ w5.heap.size := by omega
    clear X4 Y4 G4 b4 z4 X Y b G z3 x2 y0 q0' XX YY QQ hb5 q0
    cases z
    · have Y4 : Box w5.drew (w.heap.size + 1) _ _ := Y5
      have G4 : Wr w5.drew (w.heap.size + 2) _ _ _ _ := G5
      have z4 : w.heap.size + 3 ≤ w5.drew.heap.size := z5
      have b4 : Below w.heap.size w w5.drew := ⟨b5.os, b5.tape, b5.output, b5.size, b5.block⟩
      clear Y5 G5 b5
      obtain ⟨k1, k2, k3, k4⟩ := rec4 Y4
      try go_wp2_with fail
      go_region_held3 (fun w' => w'.cell? ⟨w.heap.size + 1, 1, none⟩ = some (.int .i64 typ) ∧ w'.cell? ⟨w.heap.size + 1, 2, none⟩ = some (.int .i64 cls) ∧ w'.cell? ⟨w.heap.size + 1, 3, none⟩ = some (.int .i64 ttl) ∧ w'.cell? ⟨w.heap.size + 1, 4, none⟩ = some (.string (strB data))) (go_keep)
        (first
        | (go_at_call 24; refine (rlay2_any Ac _ cc (w.heap.size + 2) _ _ _ (by exact hcc.1) (by omega) (by omega) (by omega)).mono ?_; rintro e wd ⟨Ad, cd, rfl, hd⟩; have Yd := hd.box Yc gc (by omega); have gd := hd.1.base; obtain ⟨kd1, kd2, kd3, kd4⟩ := rec4 Yd; have sd := hd.2.1.size)
        | (go_at_call 24; refine (rlay4_any Ab _ cb (w.heap.size + 2) _ ttl _ (by exact hb.1) (by omega) (by omega) (by omega)).mono ?_; rintro e wc ⟨Ac, cc, rfl, hcc⟩; have Yc := hcc.box Yb gb (by omega); have gc := hcc.1.base; obtain ⟨kc1, kc2, kc3, kc4⟩ := rec4 Yc; have sc := hcc.2.1.size)
        | (go_at_call 24; refine (rlay2_any Aa _ ca (w.heap.size + 2) _ cls _ (by exact ha.1) (by omega) (by omega) (by omega)).mono ?_; rintro e wb ⟨Ab, cb, rfl, hb⟩; have Yb := hb.box Ya ga (by omega); have gb := hb.1.base; obtain ⟨kb1, kb2, kb3, kb4⟩ := rec4 Yb; have sb := hb.2.1.size)
        | (go_at_call 24; refine (rlay2_any _ nm.length cz (w.heap.size + 2) nm typ _ (by exact G4) (by omega) (by omega) (by omega)).mono ?_; rintro e wa ⟨Aa, ca, rfl, ha⟩; have Ya := ha.box Y4 G4.base (by omega); have ga := ha.1.base; obtain ⟨ka1, ka2, ka3, ka4⟩ := rec4 Ya; have sa := ha.2.1.size))
      have ZR : Hid (Pk.rb (q :: qs) (⟨nm, typ, cls, ttl, data⟩ : Rrc) = nm ++ Pk.b2 typ.toNat ++ Pk.b2 cls.toNat ++ Pk.b4 ttl.toNat ++ Pk.b2 ((data.length : Int)).toNat ++ data) := Lib.hid (by simp [Pk.rb, Pk.nmb, Pk.asked, HZ.out])
      go_wp2_with (at_builtin; refine wr_str_law rfl (.tmp 38) (.tmp 40) rfl rfl hd.1 (by omega) rfl (by omega) ?_; rintro Az cz2 wz hz)
      go_ret
      have hw := (((ha.trans hb).trans hcc).trans hd).trans hz
      have hwl := hw.1.1
      have hrd := hw.1.rd
      rw [← ZR.out] at hwl hrd
      rw [← hwl] at hrd
      exact ⟨Az, cz2, by rw [hwl]; rfl, hrd, b4.trans (hw.below G4.base (by omega) (by omega))⟩

    · have G6 : Wr (w5.alloc (.cells #[.int .u8 192, .int .u8 12] 5)) w5.heap.size (some ⟨w5.heap.size, 0, none⟩) 2 2 [192, 12] := Wr.lit w5 [192, 12] (by simp)
      have Y6 := Y5.alloc (.cells #[.int .u8 192, .int .u8 12] 5)
      have b6 := b5.alloc (by omega) (.cells #[.int .u8 192, .int .u8 12] 5)
      have z6 : (w5.alloc (.cells #[.int .u8 192, .int .u8 12] 5)).heap.size = w5.heap.size + 1 := by simp
      go_wp2
      generalize w5.alloc (.cells #[.int .u8 192, .int .u8 12] 5) = w6 at *
      have Y4 : Box w6.drew (w.heap.size + 1) _ _ := Y6
      have G4 : Wr w6.drew (w.heap.size + 2) _ _ _ _ := G6.mono (by omega)
      have z4 : w.heap.size + 3 ≤ w6.drew.heap.size := by show _ ≤ w6.heap.size; omega
      have b4 : Below w.heap.size w w6.drew := ⟨b6.os, b6.tape, b6.output, b6.size, b6.block⟩
      clear Y5 G5 b5 Y6 G6 b6
      obtain ⟨k1, k2, k3, k4⟩ := rec4 Y4
      try go_wp2_with fail
      go_region_held3 (fun w' => w'.cell? ⟨w.heap.size + 1, 1, none⟩ = some (.int .i64 typ) ∧ w'.cell? ⟨w.heap.size + 1, 2, none⟩ = some (.int .i64 cls) ∧ w'.cell? ⟨w.heap.size + 1, 3, none⟩ = some (.int .i64 ttl) ∧ w'.cell? ⟨w.heap.size + 1, 4, none⟩ = some (.string (strB data))) (go_keep)
        (first
        | (go_at_call 24; refine (rlay2_any Ac _ cc (w.heap.size + 2) _ _ _ (by exact hcc.1) (by omega) (by omega) (by omega)).mono ?_; rintro e wd ⟨Ad, cd, rfl, hd⟩; have Yd := hd.box Yc gc (by omega); have gd := hd.1.base; obtain ⟨kd1, kd2, kd3, kd4⟩ := rec4 Yd; have sd := hd.2.1.size)
        | (go_at_call 24; refine (rlay4_any Ab _ cb (w.heap.size + 2) _ ttl _ (by exact hb.1) (by omega) (by omega) (by omega)).mono ?_; rintro e wc ⟨Ac, cc, rfl, hcc⟩; have Yc := hcc.box Yb gb (by omega); have gc := hcc.1.base; obtain ⟨kc1, kc2, kc3, kc4⟩ := rec4 Yc; have sc := hcc.2.1.size)
        | (go_at_call 24; refine (rlay2_any Aa _ ca (w.heap.size + 2) _ cls _ (by exact ha.1) (by omega) (by omega) (by omega)).mono ?_; rintro e wb ⟨Ab, cb, rfl, hb⟩; have Yb := hb.box Ya ga (by omega); have gb := hb.1.base; obtain ⟨kb1, kb2, kb3, kb4⟩ := rec4 Yb; have sb := hb.2.1.size)
        | (go_at_call 24; refine (rlay2_any _ 2 2 (w.heap.size + 2) [192, 12] typ _ (by exact G4) (by omega) (by omega) (by omega)).mono ?_; rintro e wa ⟨Aa, ca, rfl, ha⟩; have Ya := ha.box Y4 G4.base (by omega); have ga := ha.1.base; obtain ⟨ka1, ka2, ka3, ka4⟩ := rec4 Ya; have sa := ha.2.1.size))
      have ZR : Hid (Pk.rb (q :: qs) (⟨nm, typ, cls, ttl, data⟩ : Rrc) = [192, 12] ++ Pk.b2 typ.toNat ++ Pk.b2 cls.toNat ++ Pk.b4 ttl.toNat ++ Pk.b2 ((data.length : Int)).toNat ++ data) := Lib.hid (by simp [Pk.rb, Pk.nmb, Pk.asked, HZ.out])
      go_wp2_with (at_builtin; refine wr_str_law rfl (.tmp 38) (.tmp 40) rfl rfl hd.1 (by omega) rfl (by omega) ?_; rintro Az cz2 wz hz)
      go_ret
      have hw := (((ha.trans hb).trans hcc).trans hd).trans hz
      have hwl := hw.1.1
      have hrd := hw.1.rd
      rw [← ZR.out] at hwl hrd
      rw [← hwl] at hrd
      exact ⟨Az, cz2, by rw [hwl]; rfl, hrd, b4.trans (hw.below G4.base (by omega) (by omega))⟩
end Go.Proofs.Ytbioblknhfmelaa

