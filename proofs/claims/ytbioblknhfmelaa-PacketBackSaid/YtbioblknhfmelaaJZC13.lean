/- ZC13 (merged). -/
import Derived.Test.YtbioblknhfmelaaJZC2
import Derived.Test.YtbioblknhfmelaaJZC12
import Derived.Test.YtbioblknhfmelaaJZPke
namespace Go.Proofs.Ytbioblknhfmelaa
set_option linter.unusedVariables false
set_option linter.unusedSimpArgs false
open Go.RowKit
theorem pk_failC {w w' : World} {z : Int} (h : Below w.heap.size w w') : PkE Pk.none z w (.returned (.tuple #[.agg #[.int .i64 0, .int .i64 0, .slice none 0 0, .slice none 0 0, .slice none 0 0, .slice none 0 0], .int .i64 z])) w' :=
  ⟨⟨⟨Pk.none, none, 0, 0, none, 0, 0, none, 0, 0, none, 0, 0⟩, rfl, rfl, ⟨Rd.zero _ _ _ _, Rd.zero _ _ _ _, Rd.zero _ _ _ _, Rd.zero _ _ _ _⟩, ⟨by simp, (fun _ h => by cases h), (fun _ h => by cases h), (fun _ h => by cases h), (fun _ h => by cases h)⟩⟩, h⟩
set_option maxHeartbeats 8000000 in
set_option maxRecDepth 20000 in
theorem pparse_any (b : List UInt8) (A : Option Addr) (n c : Nat) (w : World) (h : Rd w w.heap.size 1 A n (U b)) (hn : n ≤ 1000000) (hc : n ≤ c ∧ c ≤ 9223372036854775807) : Calls Try.prog 16 #[.slice A n c] w (PkE (Pk.parse b).1 (Pk.parse b).2 w) := by
  rw [← Pk.read_parse]
  have hl : b.length = n := by have := h.len1; rwa [U_length] at this
  have HL := Lib.hid hl
  have HN := Lib.hid hn
  have HC := Lib.hid hc
  have X := Box.new w #[.int .i64 0, .int .i64 0, .slice none 0 0, .slice none 0 0, .slice none 0 0, .slice none 0 0] 25
  have bx : Below w.heap.size w (w.alloc (.cells #[.int .i64 0, .int .i64 0, .slice none 0 0, .slice none 0 0, .slice none 0 0, .slice none 0 0] 25)) := (Below.refl _ _).alloc (Nat.le_refl _) _
  have h1 := h.belowH bx
  have hs1 : w.heap.size < (w.alloc (.cells #[.int .i64 0, .int .i64 0, .slice none 0 0, .slice none 0 0, .slice none 0 0, .slice none 0 0] 25)).heap.size := by simp
  have MD := Lib.hid (Pk.pack_mod b (0, 0))
  obtain ⟨⟨y, k, er⟩, hz⟩ : ∃ z, Pk.packS b (0, 0) = z := ⟨_, rfl⟩
  have HZ := Lib.hid hz
  clear hl hn hc h hz
  go_enter Try.func16, Try.ntmps16
  by_cases hlong : 65535 < n
  · have t1 : decide ((65535 : Int) < (n : Int)) = true := decide_eq_true (by omega)
    have t1' : decide (65535 < n) = true := decide_eq_true hlong
    have EE : Hid (Pk.readS b = (Pk.none, 4)) := Lib.hid (if_pos (by have := HL.out; omega))
    clear hlong
    go_upto_region 2 with fail
    generalize w.alloc (.cells #[.int .i64 0, .int .i64 0, .slice none 0 0, .slice none 0 0, .slice none 0 0, .slice none 0 0] 25) = w1 at *
    have x0 := X.at 0 rfl
    have x1 := X.at 1 rfl
    have x2 := X.at 2 rfl
    have x3 := X.at 3 rfl
    have x4 := X.at 4 rfl
    have x5 := X.at 5 rfl
    have xf := X.cold
    have xz := X.lt
    have X6 := ((((((X.set 0 (.int .i64 0)).set 1 (.int .i64 0)).set 2 (.slice none 0 0)).set 3 (.slice none 0 0)).set 4 (.slice none 0 0)).set 5 (.slice none 0 0))
    have B6 := (below_set (o := 5) (below_set (o := 4) (below_set (o := 3) (below_set (o := 2) (below_set (o := 1) (below_set (o := 0) bx (Nat.le_refl _) (.int .i64 0)) (Nat.le_refl _) (.int .i64 0)) (Nat.le_refl _) (.slice none 0 0)) (Nat.le_refl _) (.slice none 0 0)) (Nat.le_refl _) (.slice none 0 0)) (Nat.le_refl _) (.slice none 0 0))
    have r0 := X6.at 0 rfl
    have r1 := X6.at 1 rfl
    have r2 := X6.at 2 rfl
    have r3 := X6.at 3 rfl
    have r4 := X6.at 4 rfl
    have r5 := X6.at 5 rfl
    go_wp2
    rw [EE.out]
    refine bodyPost_ret (v := .tuple #[.agg #[.int .i64 0, .int .i64 0, .slice none 0 0, .slice none 0 0, .slice none 0 0, .slice none 0 0], .int .i64 4]) (by simp [results, Try.results16, go_sem, r0, r1, r2, r3, r4, r5]; try rfl) rfl (pk_failC B6)
  have t1 : decide ((65535 : Int) < (n : Int)) = false := decide_eq_false (by omega)
  have t1' : decide (65535 < n) = false := decide_eq_false hlong
  have RS : Hid (Pk.readS b = if er ≠ 0 then (Pk.none, er) else if k < b.length then (Pk.none, 3) else if ¬ Pk.right y then (Pk.none, 1) else (y, 0)) := Lib.hid (by unfold Pk.readS; rw [if_neg (by have := HL.out; omega), HZ.out])
  clear hlong
  go_upto_region 3 with fail
  generalize w.alloc (.cells #[.int .i64 0, .int .i64 0, .slice none 0 0, .slice none 0 0, .slice none 0 0, .slice none 0 0] 25) = w1 at *
  have K := Box.new w1 #[.slice A n c, .int .i64 0, .int .i64 0] 65
  have b2 := (Below.refl w1.heap.size w1).alloc (Nat.le_refl _) (.cells #[.slice A n c, .int .i64 0, .int .i64 0] 65)
  have hR : Rdr (w1.alloc (.cells #[.slice A n c, .int .i64 0, .int .i64 0] 65)) w1.heap.size b A n c (0, 0) := ⟨K, h1.below b2, Nat.zero_le _⟩
  replace X := X.alloc (.cells #[.slice A n c, .int .i64 0, .int .i64 0] 65)
  replace bx := bx.alloc bx.size (.cells #[.slice A n c, .int .i64 0, .int .i64 0] 65)
  have bs := bx.size
  have b12 : w1.heap.size < (w1.alloc (.cells #[.slice A n c, .int .i64 0, .int .i64 0] 65)).heap.size := by simp
  clear K b2 h1 t1 t1'
  go_wp2_with fail
  generalize w1.alloc (.cells #[.slice A n c, .int .i64 0, .int .i64 0] 65) = w2 at *
  generalize w1.heap.size = rb at *
  have CP := ppacket_any b (0, 0) rb A n c w2 hR HN.out HC.out
  simp only [HZ.out] at CP
  have MD2 := MD.out
  rw [HZ.out] at MD2
  have HMD := Lib.hid MD2
  clear MD MD2
  refine CP.mono ?_
  clear CP hR
  rintro e w3 ⟨⟨⟨x, A1, n1, c1, A2, n2, c2, A3, n3, c3, A4, n4, c4⟩, hu, rfl, PR, v1, v2, v3, v4, z1, z2, z3, z4⟩, gg, h3⟩
  obtain rfl : x = y := hu
  have bw : Below w.heap.size w2 w3 := ⟨gg.os, gg.tape, gg.output, gg.size, fun kk hk => gg.block kk (by omega) (fun ee => by injection ee with ee; omega)⟩
  replace bx := bx.trans bw
  replace X := X.grownR gg (by omega)
  have PM : Hid (PMod ⟨x, A1, n1, c1, A2, n2, c2, A3, n3, c3, A4, n4, c4⟩) := Lib.hid ⟨⟨Nat.le_trans v1 (by decide), Nat.le_trans v2 (by decide), Nat.le_trans v3 (by decide), Nat.le_trans v4 (by decide)⟩, fun q hq => Nat.le_trans (HMD.out.1 q hq) (by decide), fun r hr => ⟨Nat.le_trans (HMD.out.2.1 r hr).1 (by decide), by have := (HMD.out.2.1 r hr).2; have := HL.out; have := HN.out; omega⟩, fun r hr => ⟨Nat.le_trans (HMD.out.2.2.1 r hr).1 (by decide), by have := (HMD.out.2.2.1 r hr).2; have := HL.out; have := HN.out; omega⟩, fun r hr => ⟨Nat.le_trans (HMD.out.2.2.2 r hr).1 (by decide), by have := (HMD.out.2.2.2 r hr).2; have := HL.out; have := HN.out; omega⟩⟩
  have AP1 : Hid (Apart A1 w.heap.size) := Lib.hid fun ee => by have := z1 _ ee; omega
  have AP2 : Hid (Apart A2 w.heap.size) := Lib.hid fun ee => by have := z2 _ ee; omega
  have AP3 : Hid (Apart A3 w.heap.size) := Lib.hid fun ee => by have := z3 _ ee; omega
  have AP4 : Hid (Apart A4 w.heap.size) := Lib.hid fun ee => by have := z4 _ ee; omega
  clear z1 z2 z3 z4
  have CRT := fun W hW => pright_any (⟨x, A1, n1, c1, A2, n2, c2, A3, n3, c3, A4, n4, c4⟩ : Pv) W hW PM.out
  simp only [pval] at CRT
  have bs3 := bx.size
  have PC := Box.new w3 #[.int .i64 x.id, .int .i64 x.flags, .slice A1 n1 c1, .slice A2 n2 c2, .slice A3 n3 c3, .slice A4 n4 c4] 25
  have hp : w3.heap.size ≠ rb := by have := h3.box.lt; omega
  have h4 := h3.alloc (.cells #[.int .i64 x.id, .int .i64 x.flags, .slice A1 n1 c1, .slice A2 n2 c2, .slice A3 n3 c3, .slice A4 n4 c4] 25)
  replace X := X.alloc (.cells #[.int .i64 x.id, .int .i64 x.flags, .slice A1 n1 c1, .slice A2 n2 c2, .slice A3 n3 c3, .slice A4 n4 c4] 25)
  replace bx := bx.alloc bs3 (.cells #[.int .i64 x.id, .int .i64 x.flags, .slice A1 n1 c1, .slice A2 n2 c2, .slice A3 n3 c3, .slice A4 n4 c4] 25)
  have PR4 : PRd (w3.alloc (.cells #[.int .i64 x.id, .int .i64 x.flags, .slice A1 n1 c1, .slice A2 n2 c2, .slice A3 n3 c3, .slice A4 n4 c4] 25)) ⟨x, A1, n1, c1, A2, n2, c2, A3, n3, c3, A4, n4, c4⟩ := PR.belowH ((Below.refl _ _).alloc (Nat.le_refl _) _)
  have HCR := Lib.hid CRT
  clear gg h3 v1 v2 v3 v4 bw PR CRT
  simp only [pval]
  go_upto_region 5 with fail
  generalize w3.alloc (.cells #[.int .i64 x.id, .int .i64 x.flags, .slice A1 n1 c1, .slice A2 n2 c2, .slice A3 n3 c3, .slice A4 n4 c4] 25) = w4 at *
  generalize w3.heap.size = p0 at *
  have e1 := h4.box.at 1 rfl
  have e2 := h4.box.at 2 rfl
  simp only at e1 e2
  by_cases he : er = 0
  rotate_left
  · have t2 : (er != 0) = true := bne_iff_ne.2 he
    have EE : Hid (Pk.readS b = (Pk.none, er)) := Lib.hid (by rw [RS.out, if_pos he])
    clear he
    go_wp2
    replace X : Box w4.drew _ _ _ := X
    replace bx : Below w.heap.size w w4.drew := bx.drew
    replace e2 : w4.drew.cell? ⟨rb, 2, none⟩ = _ := e2
    have hB : Box w4.drew rb _ _ := h4.box
    refine wp_region_held_drew (S := (fun w' => w'.cell? ⟨rb, 2, none⟩ = some (.int .i64 er))) (by kernel_rfl) (by exact e2) (fun hHeld0 => ?_)
    generalize w4.drew = wd at *
    refine tk 0 17 rfl hHeld0 ?_
    refine tk 1 18 rfl hHeld0 ?_
    refine tk 2 19 rfl hHeld0 ?_
    refine wpAnyH_ready (rs := [3]) (by kernel_rfl) (by simp) (AllReadyH.cons (o := ⟨none, _, _, _, _, _⟩) rfl (fun K hK => ?_) AllReadyH.nil)
    have x0 := X.at 0 rfl
    have x1 := X.at 1 rfl
    have x2 := X.at 2 rfl
    have x3 := X.at 3 rfl
    have x4 := X.at 4 rfl
    have x5 := X.at 5 rfl
    have xf := X.cold
    have xz := X.lt
    go_simp
    have X6 := ((((((X.set 0 (.int .i64 0)).set 1 (.int .i64 0)).set 2 (.slice none 0 0)).set 3 (.slice none 0 0)).set 4 (.slice none 0 0)).set 5 (.slice none 0 0))
    have B6 := (below_set (o := 5) (below_set (o := 4) (below_set (o := 3) (below_set (o := 2) (below_set (o := 1) (below_set (o := 0) bx (Nat.le_refl _) (.int .i64 0)) (Nat.le_refl _) (.int .i64 0)) (Nat.le_refl _) (.slice none 0 0)) (Nat.le_refl _) (.slice none 0 0)) (Nat.le_refl _) (.slice none 0 0)) (Nat.le_refl _) (.slice none 0 0))
    have hB6 := ((((((hB.other (b' := w.heap.size) (o := 0) (by omega) (.int .i64 0)).other (b' := w.heap.size) (o := 1) (by omega) (.int .i64 0)).other (b' := w.heap.size) (o := 2) (by omega) (.slice none 0 0)).other (b' := w.heap.size) (o := 3) (by omega) (.slice none 0 0)).other (b' := w.heap.size) (o := 4) (by omega) (.slice none 0 0)).other (b' := w.heap.size) (o := 5) (by omega) (.slice none 0 0))
    clear x0 x1 x2 x3 x4 x5 xf e2
    have e2 := hB6.at 2 rfl
    simp only at e2
    go_simp
    refine hK.out _ _ (by exact e2) (fun hHeld1 => ?_)
    clear hK hHeld0 K
    try simp only [Act.put, sA, sB, sC]
    refine tk 4 3 rfl hHeld1 ?_
    refine wpAnyH_done (by kernel_rfl) ?_ _
    have r0 := X6.at 0 rfl
    have r1 := X6.at 1 rfl
    have r2 := X6.at 2 rfl
    have r3 := X6.at 3 rfl
    have r4 := X6.at 4 rfl
    have r5 := X6.at 5 rfl
    go_wp2
    rw [EE.out]
    refine bodyPost_ret (v := .tuple #[.agg #[.int .i64 0, .int .i64 0, .slice none 0 0, .slice none 0 0, .slice none 0 0, .slice none 0 0], .int .i64 er]) (by simp [results, Try.results16, go_sem, r0, r1, r2, r3, r4, r5]; try rfl) rfl (pk_failC B6)
  have t2 : (er != 0) = false := by rw [he]; rfl
  by_cases hk : k < n
  · have t3 : decide ((k : Int) < (n : Int)) = true := decide_eq_true (by omega)
    have t3' : decide (k < n) = true := decide_eq_true hk
    have EE : Hid (Pk.readS b = (Pk.none, 3)) := Lib.hid (by rw [RS.out, if_neg (by simp [he]), if_pos (by have := HL.out; omega)])
    clear he hk
    have x0 := X.at 0 rfl
    have x1 := X.at 1 rfl
    have x2 := X.at 2 rfl
    have x3 := X.at 3 rfl
    have x4 := X.at 4 rfl
    have x5 := X.at 5 rfl
    have xf := X.cold
    have xz := X.lt
    have X6 := ((((((X.set 0 (.int .i64 0)).set 1 (.int .i64 0)).set 2 (.slice none 0 0)).set 3 (.slice none 0 0)).set 4 (.slice none 0 0)).set 5 (.slice none 0 0))
    have B6 := (below_set (o := 5) (below_set (o := 4) (below_set (o := 3) (below_set (o := 2) (below_set (o := 1) (below_set (o := 0) bx (Nat.le_refl _) (.int .i64 0)) (Nat.le_refl _) (.int .i64 0)) (Nat.le_refl _) (.slice none 0 0)) (Nat.le_refl _) (.slice none 0 0)) (Nat.le_refl _) (.slice none 0 0)) (Nat.le_refl _) (.slice none 0 0))
    have r0 := X6.at 0 rfl
    have r1 := X6.at 1 rfl
    have r2 := X6.at 2 rfl
    have r3 := X6.at 3 rfl
    have r4 := X6.at 4 rfl
    have r5 := X6.at 5 rfl
    go_wp2
    rw [EE.out]
    refine bodyPost_ret (v := .tuple #[.agg #[.int .i64 0, .int .i64 0, .slice none 0 0, .slice none 0 0, .slice none 0 0, .slice none 0 0], .int .i64 3]) (by simp [results, Try.results16, go_sem, r0, r1, r2, r3, r4, r5]; try rfl) rfl (pk_failC B6)
  have t3 : decide ((k : Int) < (n : Int)) = false := decide_eq_false (by omega)
  have t3' : decide (k < n) = false := decide_eq_false hk
  have p0' := PC.at 0 rfl
  have p1' := PC.at 1 rfl
  have p2' := PC.at 2 rfl
  have p3' := PC.at 3 rfl
  have p4' := PC.at 4 rfl
  have p5' := PC.at 5 rfl
  have HHK := Lib.hid (And.intro he hk)
  obtain ⟨zr_, hzr⟩ : ∃ z, decide (Pk.right x) = z := ⟨_, rfl⟩
  have HZR := Lib.hid hzr
  clear he hk
  go_wp2_with fail
  refine (HCR.out w4 PR4).mono ?_
  clear hzr HCR
  rintro e w5 ⟨rfl, b5⟩
  rw [HZR.out]
  have hs5 := bx.size
  replace X := X.belowH b5
  replace PC := PC.belowH b5
  have PR5 := PR4.belowH b5
  replace bx := bx.trans (b5.mono hs5)
  clear p0' p1' p2' p3' p4' p5' e1 e2 h4 PR4 b5 t2 t3 t3'
  cases zr_
  · have EE : Hid (Pk.readS b = (Pk.none, 1)) := Lib.hid (by rw [RS.out, if_neg (by simp [HHK.out.1]), if_neg (by have := HL.out; have := HHK.out.2; omega), if_pos (of_decide_eq_false HZR.out)])
    have x0 := X.at 0 rfl
    have x1 := X.at 1 rfl
    have x2 := X.at 2 rfl
    have x3 := X.at 3 rfl
    have x4 := X.at 4 rfl
    have x5 := X.at 5 rfl
    have xf := X.cold
    have xz := X.lt
    have X6 := ((((((X.set 0 (.int .i64 0)).set 1 (.int .i64 0)).set 2 (.slice none 0 0)).set 3 (.slice none 0 0)).set 4 (.slice none 0 0)).set 5 (.slice none 0 0))
    have B6 := (below_set (o := 5) (below_set (o := 4) (below_set (o := 3) (below_set (o := 2) (below_set (o := 1) (below_set (o := 0) bx (Nat.le_refl _) (.int .i64 0)) (Nat.le_refl _) (.int .i64 0)) (Nat.le_refl _) (.slice none 0 0)) (Nat.le_refl _) (.slice none 0 0)) (Nat.le_refl _) (.slice none 0 0)) (Nat.le_refl _) (.slice none 0 0))
    have r0 := X6.at 0 rfl
    have r1 := X6.at 1 rfl
    have r2 := X6.at 2 rfl
    have r3 := X6.at 3 rfl
    have r4 := X6.at 4 rfl
    have r5 := X6.at 5 rfl
    go_wp2
    rw [EE.out]
    refine bodyPost_ret (v := .tuple #[.agg #[.int .i64 0, .int .i64 0, .slice none 0 0, .slice none 0 0, .slice none 0 0, .slice none 0 0], .int .i64 1]) (by simp [results, Try.results16, go_sem, r0, r1, r2, r3, r4, r5]; try rfl) rfl (pk_failC B6)
  have EE : Hid (Pk.readS b = (x, 0)) := Lib.hid (by rw [RS.out, if_neg (by simp [HHK.out.1]), if_neg (by have := HL.out; have := HHK.out.2; omega), if_neg (Classical.not_not.2 (of_decide_eq_true HZR.out))])
  have p0' := PC.at 0 rfl
  have x0 := X.at 0 rfl
  have p1' := PC.at 1 rfl
  have x1 := X.at 1 rfl
  have p2' := PC.at 2 rfl
  have x2 := X.at 2 rfl
  have p3' := PC.at 3 rfl
  have x3 := X.at 3 rfl
  have p4' := PC.at 4 rfl
  have x4 := X.at 4 rfl
  have p5' := PC.at 5 rfl
  have x5 := X.at 5 rfl
  have xf := X.cold
  have xz := X.lt
  have X6 := ((((((X.set 0 (.int .i64 x.id)).set 1 (.int .i64 x.flags)).set 2 (.slice A1 n1 c1)).set 3 (.slice A2 n2 c2)).set 4 (.slice A3 n3 c3)).set 5 (.slice A4 n4 c4))
  have B6 := (below_set (o := 5) (below_set (o := 4) (below_set (o := 3) (below_set (o := 2) (below_set (o := 1) (below_set (o := 0) bx (Nat.le_refl _) (.int .i64 x.id)) (Nat.le_refl _) (.int .i64 x.flags)) (Nat.le_refl _) (.slice A1 n1 c1)) (Nat.le_refl _) (.slice A2 n2 c2)) (Nat.le_refl _) (.slice A3 n3 c3)) (Nat.le_refl _) (.slice A4 n4 c4))
  have S1 := ((((((PR5.1.apartS (o := 0) AP1.out (.int .i64 x.id)).apartS (o := 1) AP1.out (.int .i64 x.flags)).apartS (o := 2) AP1.out (.slice A1 n1 c1)).apartS (o := 3) AP1.out (.slice A2 n2 c2)).apartS (o := 4) AP1.out (.slice A3 n3 c3)).apartS (o := 5) AP1.out (.slice A4 n4 c4))
  have S2 := ((((((PR5.2.1.apartS (o := 0) AP2.out (.int .i64 x.id)).apartS (o := 1) AP2.out (.int .i64 x.flags)).apartS (o := 2) AP2.out (.slice A1 n1 c1)).apartS (o := 3) AP2.out (.slice A2 n2 c2)).apartS (o := 4) AP2.out (.slice A3 n3 c3)).apartS (o := 5) AP2.out (.slice A4 n4 c4))
  have S3 := ((((((PR5.2.2.1.apartS (o := 0) AP3.out (.int .i64 x.id)).apartS (o := 1) AP3.out (.int .i64 x.flags)).apartS (o := 2) AP3.out (.slice A1 n1 c1)).apartS (o := 3) AP3.out (.slice A2 n2 c2)).apartS (o := 4) AP3.out (.slice A3 n3 c3)).apartS (o := 5) AP3.out (.slice A4 n4 c4))
  have S4 := ((((((PR5.2.2.2.apartS (o := 0) AP4.out (.int .i64 x.id)).apartS (o := 1) AP4.out (.int .i64 x.flags)).apartS (o := 2) AP4.out (.slice A1 n1 c1)).apartS (o := 3) AP4.out (.slice A2 n2 c2)).apartS (o := 4) AP4.out (.slice A3 n3 c3)).apartS (o := 5) AP4.out (.slice A4 n4 c4))
  have r0 := X6.at 0 rfl
  have r1 := X6.at 1 rfl
  have r2 := X6.at 2 rfl
  have r3 := X6.at 3 rfl
  have r4 := X6.at 4 rfl
  have r5 := X6.at 5 rfl
  go_wp2
  rw [EE.out]
  refine bodyPost_ret (v := .tuple #[.agg #[.int .i64 x.id, .int .i64 x.flags, .slice A1 n1 c1, .slice A2 n2 c2, .slice A3 n3 c3, .slice A4 n4 c4], .int .i64 0]) (by simp [results, Try.results16, go_sem, r0, r1, r2, r3, r4, r5]; try rfl) rfl ⟨⟨⟨x, A1, n1, c1, A2, n2, c2, A3, n3, c3, A4, n4, c4⟩, rfl, rfl, ⟨S1, S2, S3, S4⟩, PM.out⟩, B6⟩
end Go.Proofs.Ytbioblknhfmelaa

