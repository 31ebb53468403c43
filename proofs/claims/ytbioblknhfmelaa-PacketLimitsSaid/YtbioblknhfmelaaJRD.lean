/- ZC8 ZC9 ZC10 ZC11 (merged). -/
import Derived.Deep.DeepCutAuto
import Derived.Test.YtbioblknhfmelaaJZC1
import Derived.Test.YtbioblknhfmelaaJZRow5
import Derived.Test.YtbioblknhfmelaaJNM
import Derived.Test.YtbioblknhfmelaaJZC7
import Derived.Test.YtbioblknhfmelaaJGen2
import Derived.Test.YtbioblknhfmelaaJHeld
namespace Go.Proofs.Ytbioblknhfmelaa
set_option linter.unusedVariables false
set_option linter.unusedSimpArgs false
open Go.RowKit
/-- a reader of bytes that lie ahead of it -/
structure Rdr (w : World) (rb : Nat) (b : List UInt8) (A : Option Addr) (n c : Nat) (σ : Nat × Int) : Prop where
  box : Box w rb 65 #[.slice A n c, .int .i64 (σ.1 : Int), .int .i64 σ.2]
  rd : Rd w rb 1 A n (U b)
  le : σ.1 ≤ n
theorem grown_dn {w w' : World} {r : Option Nat} (h : w.grownBy w' r) (q : Nat) : w.grownBy (w'.drewN q) r := ⟨h.os, h.tape, h.output, h.size, h.block⟩
theorem grown_set1 (w : World) (rb o : Nat) (v : Value) : w.grownBy (w.setCell ⟨rb, o, none⟩ v) (some rb) := ⟨rfl, rfl, rfl, by simp, fun k hk hne => heap_setCell_other w ⟨rb, o, none⟩ k v (fun e => hne (by rw [e]))⟩
theorem Rdr.grow {w w' : World} {rb n c : Nat} {b : List UInt8} {A : Option Addr} {σ τ : Nat × Int} (h : Rdr w rb b A n c σ) (hg : w.grownBy w' (some rb)) (hb : Box w' rb 65 #[.slice A n c, .int .i64 (τ.1 : Int), .int .i64 τ.2]) (hl : τ.1 ≤ n) : Rdr w' rb b A n c τ :=
  ⟨hb, h.rd.grown hg (Nat.le_of_lt h.box.lt) (fun k hk => by injection hk with hk; omega), hl⟩
theorem Rdr.alloc {w : World} {rb n c : Nat} {b : List UInt8} {A : Option Addr} {σ : Nat × Int} (h : Rdr w rb b A n c σ) (o : Obj) : Rdr (w.alloc o) rb b A n c σ := ⟨h.box.alloc o, h.rd.alloc (Nat.le_of_lt h.box.lt) o, h.le⟩
theorem Rdr.below {w w' : World} {rb n c : Nat} {b : List UInt8} {A : Option Addr} {σ : Nat × Int} (h : Rdr w rb b A n c σ) (hb : Below w.heap.size w w') : Rdr w' rb b A n c σ := ⟨h.box.below hb h.box.lt, h.rd.below (hb.mono (Nat.le_of_lt h.box.lt)), h.le⟩
theorem take_fit {k s t : Nat} (h : k + s = t) (ht : t ≤ 2000000) : wrap64 ((k : Int) + (s : Int)) = (t : Int) ∧ IntKind.i64.wrap ((k : Int) + (s : Int)) = (t : Int) := by
  have e : (k : Int) + (s : Int) = (t : Int) := by omega
  rw [e]
  exact ⟨by unfold wrap64; omega, IntWalk.i64_in _ (by omega)⟩
theorem left_fit {n k d : Nat} (h : n - k = d) (hk : k ≤ n) (hn : n ≤ 1000000) : wrap64 ((n : Int) - (k : Int)) = (d : Int) ∧ IntKind.i64.wrap ((n : Int) - (k : Int)) = (d : Int) := by
  have e : (n : Int) - (k : Int) = (d : Int) := by omega
  rw [e]
  exact ⟨by unfold wrap64; omega, IntWalk.i64_in _ (by omega)⟩
set_option maxHeartbeats 4000000 in
set_option maxRecDepth 20000 in
theorem ptake_any (b : List UInt8) (s : Nat) (σ : Nat × Int) (rb : Nat) (A : Option Addr) (n c : Nat) (w : World) (h : Rdr w rb b A n c σ) (hn : n ≤ 1000000) (hc : n ≤ c ∧ c ≤ 9223372036854775807) (hs : s ≤ 100000) :
    Calls Try.prog 49 #[.pointer (some ⟨rb, 0, none⟩), .int .i64 (s : Int)] w fun e w' => (∃ A' n' c', e = .returned (.slice A' n' c') ∧ Rd w' rb 1 A' n' (U (Pk.takeS b s σ).1)) ∧ w.grownBy w' (some rb) ∧ Rdr w' rb b A n c (Pk.takeS b s σ).2 := by
  have hl : b.length = n := by have := h.rd.len1; rwa [U_length] at this
  have HL := Lib.hid hl
  obtain ⟨k, ee⟩ := σ
  have hkn : k ≤ n := h.le
  have X := h.box
  have c0 := X.at 0 rfl
  have c1 := X.at 1 rfl
  have c2 := X.at 2 rfl
  have xf := X.cold
  have xl := X.lt
  simp only at c1 c2
  clear hl
  by_cases he : ee = 0
  rotate_left
  · have t1 : (ee == 0) = false := beq_eq_false_iff_ne.2 he
    have t2 : (ee != 0) = true := bne_iff_ne.2 he
    have Z : Hid (Pk.takeS b s (k, ee) = ([], (k, ee))) := Lib.hid (Pk.take_dead he)
    clear he hkn
    go_enter Try.func49, Try.ntmps49
    go_wp2
    go_quiet (fail)
    go_wp2
    go_ret
    rw [Z.out]
    exact ⟨⟨none, 0, 0, rfl, Rd.zero _ _ _ _⟩, grown_dn (World.grownBy.refl _ _) _, h.grow (grown_dn (World.grownBy.refl _ _) _) (X.drewN _) h.le⟩
  subst he
  obtain ⟨d, hd⟩ : ∃ d, n - k = d := ⟨_, rfl⟩
  obtain ⟨f1, f2⟩ := left_fit hd hkn hn
  have HF := Lib.hid (And.intro f1 f2)
  clear f1 f2
  by_cases hsh : d < s
  · have t3 : decide ((d : Int) < (s : Int)) = true := decide_eq_true (by omega)
    have t3' : decide (d < s) = true := decide_eq_true hsh
    have Z : Hid (Pk.takeS b s (k, 0) = ([], (k, 2))) := Lib.hid (Pk.take_short (by have := HL.out; omega))
    clear hd hsh hkn
    obtain ⟨f1, f2⟩ := HF.out
    go_enter Try.func49, Try.ntmps49
    go_wp2
    go_quiet (fail)
    go_wp2
    go_ret
    rw [Z.out]
    have G := (grown_dn (World.grownBy.refl w (some rb)) nq).trans (grown_set1 (w.drewN nq) rb 2 (.int .i64 2))
    exact ⟨⟨none, 0, 0, rfl, Rd.zero _ _ _ _⟩, G, h.grow G ((X.drewN nq).set 2 (.int .i64 2)) h.le⟩
  have t3 : decide ((d : Int) < (s : Int)) = false := decide_eq_false (by omega)
  have t3' : decide (d < s) = false := decide_eq_false hsh
  obtain ⟨t, ht⟩ : ∃ t, k + s = t := ⟨_, rfl⟩
  have htn : t ≤ n := by omega
  have Z : Hid (Pk.takeS b s (k, 0) = ((b.drop k).take s, (t, 0))) := Lib.hid (by rw [Pk.take_live (by have := HL.out; omega), ht])
  have CUT := fun W => run_cut_lh u8T W A n c k t (k : Int) (t : Int) rfl rfl (by omega) (by omega)
  obtain ⟨g1, g2⟩ := take_fit ht (by omega)
  have HG := Lib.hid (And.intro g1 g2)
  have HTK := Lib.hid (And.intro ht hkn)
  have HTN := Lib.hid htn
  have HCUT := Lib.hid CUT
  clear hd hsh g1 g2 hkn ht CUT htn
  obtain ⟨f1, f2⟩ := HF.out
  go_enter Try.func49, Try.ntmps49
  go_wp2
  go_quiet (fail)
  obtain ⟨g1, g2⟩ := HG.out
  go_upto_region 7 with fail
  have G := (grown_dn (World.grownBy.refl w (some rb)) nq).trans (grown_set1 (w.drewN nq) rb 1 (.int .i64 (t : Int)))
  have X2 := (X.drewN nq).set 1 (.int .i64 (t : Int))
  have H2 : Rdr ((w.drewN nq).setCell ⟨rb, 1, none⟩ (.int .i64 (t : Int))) rb b A n c (t, 0) := h.grow G X2 HTN.out
  clear c0 c1 c2 X X2
  generalize (w.drewN nq).setCell ⟨rb, 1, none⟩ (.int .i64 (t : Int)) = w2 at *
  have c0 := H2.box.at 0 rfl
  have c1 := H2.box.at 1 rfl
  simp only at c1
  clear f1 f2 g1 g2
  have CUT := HCUT.out
  go_quiet (fail)
  go_wp2
  go_ret
  rw [Z.out]
  refine ⟨⟨_, _, ⟨_, rfl⟩, ?_⟩, grown_dn G _, ⟨H2.box.drewN _, H2.rd.drewN _, H2.le⟩⟩
  obtain ⟨e1, e2⟩ := HTK.out
  have R := (H2.rd.cut1 (cap := c) e2 (by omega)).take1 (k := t - k) (by have := HTN.out; omega)
  rw [U_drop, U_take, show t - k = s by omega] at R
  rw [show t - k = s by omega]
  exact R
theorem takeS_le {b : List UInt8} {s : Nat} {σ : Nat × Int} : (Pk.takeS b s σ).1.length ≤ s := by
  unfold Pk.takeS
  split
  · exact Nat.zero_le _
  · split
    · exact Nat.zero_le _
    · rw [List.length_take]; omega
theorem or_byte {a d : Nat} (ha : a ≤ 16777215) (hd : d < 256) : bits .or .i64 ((a * 256 : Nat) : Int) (d : Int) = ((a * 256 + d : Nat) : Int) := by
  rw [i64_or _ _ (by omega) (by omega)]
  have h1 := Nat.two_pow_add_eq_or_of_lt (i := 8) (b := d) (by omega) a
  rw [show a * 256 = 2 ^ 8 * a by omega, ← h1]
theorem shl_fit {a : Nat} {m : Int} (ha : a ≤ 16777215) (hm : ((a * 256 : Nat) : Int) = m) : wrap64 ((a : Int) * 2 ^ 8) = m ∧ wrap64 ((a : Int) * 256) = m ∧ IntKind.i64.wrap ((a : Int) * 256) = m := by
  have e : (a : Int) * 256 = m := by omega
  refine ⟨?_, ?_, ?_⟩
  · rw [show (a : Int) * 2 ^ 8 = m by omega]; unfold wrap64; omega
  · rw [e]; unfold wrap64; omega
  · rw [e]; exact IntWalk.i64_in _ (by omega)
set_option maxHeartbeats 4000000 in
set_option maxRecDepth 20000 in
theorem pnumber_any (b : List UInt8) (s : Nat) (σ : Nat × Int) (rb : Nat) (A : Option Addr) (n c : Nat) (w : World) (h : Rdr w rb b A n c σ) (hn : n ≤ 1000000) (hc : n ≤ c ∧ c ≤ 9223372036854775807) (hs : s ≤ 4) :
    Calls Try.prog 42 #[.pointer (some ⟨rb, 0, none⟩), .int .i64 (s : Int)] w fun e w' => e = .returned (.int .i64 ((Pk.numS b s σ).1 : Nat)) ∧ w.grownBy w' (some rb) ∧ Rdr w' rb b A n c (Pk.numS b s σ).2 := by
  have hle := takeS_le (b := b) (s := s) (σ := σ)
  have TA := ptake_any b s σ rb A n c w h hn hc (by omega)
  unfold Pk.numS
  obtain ⟨l, hl⟩ : ∃ l, (Pk.takeS b s σ).1 = l := ⟨_, rfl⟩
  obtain ⟨τ, hτ⟩ : ∃ l, (Pk.takeS b s σ).2 = l := ⟨_, rfl⟩
  rw [hl] at hle
  rw [hl, hτ] at TA ⊢
  have HLE : Hid (l.length ≤ 4) := Lib.hid (by omega)
  clear hl hτ hle h hn hc
  go_enter Try.func42, Try.ntmps42
  go_wp2_with fail
  refine TA.mono ?_
  clear TA
  rintro e w2 ⟨⟨A', n', c', rfl, R⟩, G, H2⟩
  have hln : Hid (l.length = n') := Lib.hid (by have := R.len1; rwa [U_length] at this)
  have hn4 : n' ≤ 4 := by have := hln.out; have := HLE.out; omega
  go_wp2
  go_loop [5, 12] (fun v i => ∃ k : Nat, k ≤ n' ∧ v = .int .i64 ((Pk.be (l.take k) : Nat) : Int) ∧ i = .int .i64 (k : Int)) (fun _ i => n' - (intOf i).toNat)
  case atStart => exact ⟨0, by omega, rfl, rfl⟩
  case round =>
    obtain ⟨k, hk, rfl, rfl⟩ := hrel
    have hk0 : (0 : Int) ≤ (k : Int) := by omega
    by_cases hlt : k < n'
    rotate_left
    · have g1 : decide ((k : Int) < (n' : Int)) = false := decide_eq_false (by omega)
      have g2 : decide (k < n') = false := decide_eq_false hlt
      have Z : Hid (Pk.be (l.take k) = Pk.be l) := Lib.hid (by rw [List.take_of_length_le (by have := hln.out; omega)])
      go_wp2
      go_ret
      exact ⟨by rw [Z.out]; rfl, G, H2⟩
    have g1 : decide ((k : Int) < (n' : Int)) = true := decide_eq_true (by omega)
    have g2 : decide (k < n') = true := decide_eq_true hlt
    obtain ⟨bq, oq, x, rfl, hbq, hx, cx⟩ := R.atU hlt
    have hbe : Pk.be (l.take (k + 1)) = Pk.be (l.take k) * 256 + x.toNat := Pk.be_more hx
    have hsm : Pk.be (l.take k) ≤ 16777215 := Pk.be_small (by have := hln.out; omega) (by have := hln.out; have := HLE.out; omega)
    obtain ⟨a, ha⟩ : ∃ a, Pk.be (l.take k) = a := ⟨_, rfl⟩
    rw [ha] at hbe hsm ⊢
    obtain ⟨ci, hci⟩ : ∃ z : Int, (x.toNat : Int) = z := ⟨_, rfl⟩
    rw [hci] at cx
    have hx256 := x.toNat_lt
    have cv : IntKind.i64.wrap ci = ci := IntWalk.i64_in _ (by omega)
    obtain ⟨m2, hm2⟩ : ∃ z : Int, ((a * 256 : Nat) : Int) = z := ⟨_, rfl⟩
    obtain ⟨s1, s2, s3⟩ := shl_fit hsm hm2
    have hor := or_byte hsm (d := x.toNat) (by omega)
    rw [hm2, hci] at hor
    obtain ⟨a2, ha2⟩ : ∃ z : Nat, a * 256 + x.toNat = z := ⟨_, rfl⟩
    rw [ha2] at hor hbe
    have HBE := Lib.hid hbe
    clear hx ha hbe hsm hci hx256 hm2 ha2
    go_wp2
    go_round
    case rel => exact ⟨k + 1, by omega, by rw [HBE.out], by go_num⟩
    case measure => simp [intOf]; omega
end Go.Proofs.Ytbioblknhfmelaa

namespace Go.Proofs.Ytbioblknhfmelaa
set_option linter.unusedVariables false
set_option linter.unusedSimpArgs false
open Go.RowKit
theorem grown_of_below {w w' : World} (h : Below w.heap.size w w') (r : Option Nat) : w.grownBy w' r := ⟨h.os, h.tape, h.output, h.size, fun k hk _ => h.block k hk⟩
set_option maxHeartbeats 4000000 in
set_option maxRecDepth 20000 in
theorem prname_any (b : List UInt8) (σ : Nat × Int) (rb : Nat) (A : Option Addr) (n c : Nat) (w : World) (h : Rdr w rb b A n c σ) (hn : n ≤ 1000000) (hc : n ≤ c ∧ c ≤ 9223372036854775807) :
    Calls Try.prog 50 #[.pointer (some ⟨rb, 0, none⟩)] w fun e w' => e = .returned (.string (strB (Pk.nameS b σ).1)) ∧ w.grownBy w' (some rb) ∧ Rdr w' rb b A n c (Pk.nameS b σ).2 := by
  have hl : b.length = n := by have := h.rd.len1; rwa [U_length] at this
  obtain ⟨k, ee⟩ := σ
  have X := h.box
  have c0 := X.at 0 rfl
  have c1 := X.at 1 rfl
  have c2 := X.at 2 rfl
  simp only at c1 c2
  by_cases he : ee = 0
  rotate_left
  · have t2 : (ee != 0) = true := bne_iff_ne.2 he
    have Z : Hid (Pk.nameS b (k, ee) = ([], (k, ee))) := Lib.hid (Pk.name_dead he)
    clear he hl hn hc
    go_enter Try.func50, Try.ntmps50
    go_wp2
    go_ret
    rw [Z.out]
    exact ⟨rfl, World.grownBy.refl _ _, h⟩
  subst he
  have ZZ : Hid (Pk.nameS b (k, 0) = Pk.nameAt b (k : Int)) := Lib.hid Pk.name_live
  have hle := Pk.nameAt_le b (k : Int)
  have CN := fun W (hW : Rd W W.heap.size 1 A n (U b)) => pname_any b (k : Int) A n c W hW hn hc
  unfold NmR at CN
  obtain ⟨⟨nm, nx, er⟩, hz⟩ : ∃ z, Pk.nameAt b (k : Int) = z := ⟨_, rfl⟩
  rw [hz] at hle
  rw [hz] at ZZ
  simp only [hz] at CN
  have NX : Hid (nx ≤ n) := Lib.hid (by rw [← hl]; exact hle)
  have HC := Lib.hid CN
  clear hz hle hl hn hc CN
  go_enter Try.func50, Try.ntmps50
  go_wp2
  replace X : Box w.drew rb _ _ := X
  have hD : Rdr w.drew rb b A n c (k, 0) := h.grow (grown_dn (World.grownBy.refl w _) 1) X h.le
  have gD : w.grownBy w.drew (some rb) := grown_dn (World.grownBy.refl w _) 1
  replace c0 : w.drew.cell? ⟨rb, 0, none⟩ = _ := c0
  replace c1 : w.drew.cell? ⟨rb, 1, none⟩ = _ := c1
  refine wp_region_late (S := (fun w' => w'.cell? ⟨rb, 0, none⟩ = some (.slice A n c) ∧ w'.cell? ⟨rb, 1, none⟩ = some (.int .i64 (k : Int)))) (lates := [18, 21]) (by kernel_rfl) (by exact ⟨c0, c1⟩) (fun hHeld0 => ?_)
  generalize w.drew = wd at *
  refine tw 0 10 rfl (fun _ => hHeld0) ?_
  refine tw 1 11 rfl (fun _ => hHeld0) ?_
  refine tw 2 12 rfl (fun _ => hHeld0) ?_
  refine tw 3 13 rfl (fun _ => hHeld0) ?_
  refine tw 4 14 rfl (fun _ => hHeld0) ?_
  refine tl 5 15 rfl hHeld0 ?_
  refine tw 6 16 rfl (fun _ => hHeld0) ?_
  refine tw 7 17 rfl (fun _ => hHeld0) ?_
  refine tw 8 18 rfl (fun _ => hHeld0) ?_
  refine tl 9 19 rfl hHeld0 ?_
  refine wpAnyL_ready (rs := [10]) (by kernel_rfl) (by simp) (AllReadyL.cons (o := ⟨some 20, _, _, _, _, _⟩) rfl (fun K hK => ?_) AllReadyL.nil)
  go_simp
  refine (HC.out _ (hD.rd.more (Nat.le_of_lt hD.box.lt))).mono ?_
  rintro e w2 ⟨rfl, hb⟩
  have h2 := hD.below hb
  have g2 := gD.trans (grown_of_below hb (some rb))
  clear c0 c1
  have c0 := h2.box.at 0 rfl
  have c1 := h2.box.at 1 rfl
  have c2 := h2.box.at 2 rfl
  simp only at c0 c1 c2
  have xf := h2.box.cold
  go_simp
  refine hK.out _ _ (by exact ⟨c0, c1⟩) (fun hHeld1 => ?_)
  clear hK hHeld0 K
  try simp only [Act.put, sA, sB, sC]
  refine tw 11 9 rfl (fun _ => hHeld1) ?_
  refine tw 12 21 rfl (fun _ => hHeld1) ?_
  refine tw 13 22 rfl (fun _ => hHeld1) ?_
  refine tw 14 23 rfl (fun _ => hHeld1) ?_
  refine tw 15 3 rfl (fun _ => hHeld1) ?_
  refine tw 16 24 rfl (fun _ => hHeld1) ?_
  refine tw 17 25 rfl (fun _ => hHeld1) ?_
  refine wpAnyL_ready (rs := [18]) (by kernel_rfl) (by simp) (AllReadyL.late (o := ⟨none, _, _, _, _, _⟩) rfl (by kernel_rfl) (fun K hK => ?_) AllReadyL.nil)
  go_simp
  refine hK.out _ _ ?_
  clear hK K
  try simp only [Act.put, sA, sB, sC]
  clear hHeld1
  refine tw 19 26 rfl (fun h0 => (by cases h0)) ?_
  refine tw 20 27 rfl (fun h0 => (by cases h0)) ?_
  refine wpAnyL_ready (rs := [21]) (by kernel_rfl) (by simp) (AllReadyL.late (o := ⟨none, _, _, _, _, _⟩) rfl (by kernel_rfl) (fun K hK => ?_) AllReadyL.nil)
  go_simp
  refine hK.out _ _ ?_
  clear hK K
  try simp only [Act.put, sA, sB, sC]
  refine wpAnyL_done (by kernel_rfl) ?_ _
  have G := (g2.trans (grown_set1 w2 rb 1 (.int .i64 (nx : Int)))).trans (grown_set1 (w2.setCell ⟨rb, 1, none⟩ (.int .i64 (nx : Int))) rb 2 (.int .i64 er))
  have X3 := (h2.box.set 1 (.int .i64 (nx : Int))).set 2 (.int .i64 er)
  clear c0 c1 c2 xf
  go_wp2
  go_ret
  rw [ZZ.out]
  exact ⟨rfl, G, h.grow G X3 NX.out⟩
end Go.Proofs.Ytbioblknhfmelaa

namespace Go.Proofs.Ytbioblknhfmelaa
set_option linter.unusedVariables false
set_option linter.unusedSimpArgs false
open Go.RowKit
theorem pnum2_any (b : List UInt8) (σ : Nat × Int) (rb : Nat) (A : Option Addr) (n c : Nat) (w : World) (h : Rdr w rb b A n c σ) (hn : n ≤ 1000000) (hc : n ≤ c ∧ c ≤ 9223372036854775807) :
    Calls Try.prog 42 #[.pointer (some ⟨rb, 0, none⟩), .int .i64 2] w fun e w' => e = .returned (.int .i64 ((Pk.numS b 2 σ).1 : Nat)) ∧ w.grownBy w' (some rb) ∧ Rdr w' rb b A n c (Pk.numS b 2 σ).2 := pnumber_any b 2 σ rb A n c w h hn hc (by decide)
theorem pnum4_any (b : List UInt8) (σ : Nat × Int) (rb : Nat) (A : Option Addr) (n c : Nat) (w : World) (h : Rdr w rb b A n c σ) (hn : n ≤ 1000000) (hc : n ≤ c ∧ c ≤ 9223372036854775807) :
    Calls Try.prog 42 #[.pointer (some ⟨rb, 0, none⟩), .int .i64 4] w fun e w' => e = .returned (.int .i64 ((Pk.numS b 4 σ).1 : Nat)) ∧ w.grownBy w' (some rb) ∧ Rdr w' rb b A n c (Pk.numS b 4 σ).2 := pnumber_any b 4 σ rb A n c w h hn hc (by decide)
theorem grown_setN {w w' : World} {r : Option Nat} {b o : Nat} (h : w.grownBy w' r) (hb : w.heap.size ≤ b) (v : Value) : w.grownBy (w'.setCell ⟨b, o, none⟩ v) r :=
  ⟨h.os, h.tape, h.output, by have := h.size; simpa using this, fun k hk hne => (heap_setCell_other w' ⟨b, o, none⟩ k v (fun e => by have e2 : k = b := e; omega)).trans (h.block k hk hne)⟩
theorem Box.grownR {w w' : World} {b rb : Nat} {T : TypeId} {cs : Array Value} (h : Box w b T cs) (hg : w.grownBy w' (some rb)) (hne : b ≠ rb) : Box w' b T cs := (hg.block b h.lt (fun e => hne (by injection e))).trans h
theorem numS_lt2 {b : List UInt8} {σ : Nat × Int} : (Pk.numS b 2 σ).1 ≤ 65535 := by
  unfold Pk.numS
  have h1 := takeS_le (b := b) (s := 2) (σ := σ)
  generalize (Pk.takeS b 2 σ).1 = l at *
  show Pk.be l ≤ 65535
  have h2 := Pk.be_lt l l.length (Nat.le_refl _)
  rw [List.take_length] at h2
  have h3 : l.length = 0 ∨ l.length = 1 ∨ l.length = 2 := by omega
  rcases h3 with h3 | h3 | h3 <;> rw [h3] at h2 <;> omega
set_option maxHeartbeats 4000000 in
set_option maxRecDepth 20000 in
theorem pquestion_any (b : List UInt8) (σ : Nat × Int) (rb : Nat) (A : Option Addr) (n c : Nat) (w : World) (h : Rdr w rb b A n c σ) (hn : n ≤ 1000000) (hc : n ≤ c ∧ c ≤ 9223372036854775807) :
    Calls Try.prog 44 #[.pointer (some ⟨rb, 0, none⟩)] w fun e w' => e = .returned (zq (Pk.qstS b σ).1) ∧ w.grownBy w' (some rb) ∧ Rdr w' rb b A n c (Pk.qstS b σ).2 := by
  have HN := Lib.hid hn
  have HC := Lib.hid hc
  have Y := Box.new w #[.string ⟨#[]⟩, .int .i64 0, .int .i64 0] 48
  have h1 := h.alloc (.cells #[.string ⟨#[]⟩, .int .i64 0, .int .i64 0] 48)
  have g1 : w.grownBy (w.alloc (.cells #[.string ⟨#[]⟩, .int .i64 0, .int .i64 0] 48)) (some rb) := World.grownBy_alloc w _ _
  have hrb := h.box.lt
  have hne : w.heap.size ≠ rb := by omega
  clear hn hc h
  obtain ⟨⟨nm, τ1⟩, e1⟩ : ∃ z, Pk.nameS b σ = z := ⟨_, rfl⟩
  obtain ⟨⟨t, τ2⟩, e2⟩ : ∃ z, Pk.numS b 2 τ1 = z := ⟨_, rfl⟩
  obtain ⟨⟨cl, τ3⟩, e3⟩ : ∃ z, Pk.numS b 2 τ2 = z := ⟨_, rfl⟩
  have ES : Hid (Pk.qstS b σ = ((⟨nm, (t : Nat), (cl : Nat)⟩ : Qst), τ3)) := Lib.hid (by unfold Pk.qstS Pk.qst2; simp only [e1, e2, e3])
  have E1 := Lib.hid e1
  clear e1
  have E2 := Lib.hid e2
  clear e2
  have E3 := Lib.hid e3
  clear e3
  go_enter Try.func44, Try.ntmps44
  go_wp2_with fail
  generalize (w.alloc (.cells #[.string ⟨#[]⟩, .int .i64 0, .int .i64 0] 48)) = w1 at *
  have C := prname_any b σ rb A n c w1 h1 HN.out HC.out
  simp only [E1.out] at C
  refine C.mono ?_
  clear C
  rintro e w2 ⟨rfl, gg, h2⟩
  replace Y := Y.grownR gg hne
  have g2 := g1.trans gg
  clear gg h1 g1
  go_wp2_with fail
  have C := pnum2_any b τ1 rb A n c w2 h2 HN.out HC.out
  simp only [E2.out] at C
  refine C.mono ?_
  clear C
  rintro e w3 ⟨rfl, gg, h3⟩
  replace Y := Y.grownR gg hne
  have g3 := g2.trans gg
  clear gg h2 g2
  go_wp2_with fail
  have C := pnum2_any b τ2 rb A n c w3 h3 HN.out HC.out
  simp only [E3.out] at C
  refine C.mono ?_
  clear C
  rintro e w4 ⟨rfl, gg, h4⟩
  replace Y := Y.grownR gg hne
  have g4 := g3.trans gg
  clear gg h3 g3
  have y0 := Y.at 0 rfl
  have y1 := Y.at 1 rfl
  have y2 := Y.at 2 rfl
  have yf := Y.cold
  have z := Y.lt
  have Y2 := (((Y).set 0 (.string (strB nm))).set 1 (.int .i64 ((t : Nat) : Int))).set 2 (.int .i64 ((cl : Nat) : Int))
  have G := (grown_setN (b := w.heap.size) (o := 2) (grown_setN (b := w.heap.size) (o := 1) (grown_setN (b := w.heap.size) (o := 0) g4 (Nat.le_refl _) (.string (strB nm))) (Nat.le_refl _) (.int .i64 ((t : Nat) : Int))) (Nat.le_refl _) (.int .i64 ((cl : Nat) : Int)))
  have B := (((h4.box.other (b' := w.heap.size) (o := 0) (fun e => hne e.symm) (.string (strB nm))).other (b' := w.heap.size) (o := 1) (fun e => hne e.symm) (.int .i64 ((t : Nat) : Int))).other (b' := w.heap.size) (o := 2) (fun e => hne e.symm) (.int .i64 ((cl : Nat) : Int)))
  have RD := h4.rd.grown ((((World.grownBy.refl w4 (some w.heap.size)).trans (grown_set1 (w4) w.heap.size 0 (.string (strB nm)))).trans (grown_set1 ((w4).setCell ⟨w.heap.size, 0, none⟩ (.string (strB nm))) w.heap.size 1 (.int .i64 ((t : Nat) : Int)))).trans (grown_set1 (((w4).setCell ⟨w.heap.size, 0, none⟩ (.string (strB nm))).setCell ⟨w.heap.size, 1, none⟩ (.int .i64 ((t : Nat) : Int))) w.heap.size 2 (.int .i64 ((cl : Nat) : Int)))) (Nat.le_of_lt h4.box.lt) (fun k hk => by injection hk with hk; omega)
  have HL := h4.le
  have r0 := Y2.at 0 rfl
  have r1 := Y2.at 1 rfl
  have r2 := Y2.at 2 rfl
  go_wp2
  rw [ES.out]
  refine bodyPost_ret (v := zq ((⟨nm, (t : Nat), (cl : Nat)⟩ : Qst))) (by simp [results, Try.results44, go_sem, y0, y1, y2, yf, z, zq]; try rfl) rfl ⟨rfl, G, ⟨B, RD, HL⟩⟩
set_option maxHeartbeats 4000000 in
set_option maxRecDepth 20000 in
theorem precord_any (b : List UInt8) (σ : Nat × Int) (rb : Nat) (A : Option Addr) (n c : Nat) (w : World) (h : Rdr w rb b A n c σ) (hn : n ≤ 1000000) (hc : n ≤ c ∧ c ≤ 9223372036854775807) :
    Calls Try.prog 46 #[.pointer (some ⟨rb, 0, none⟩)] w fun e w' => e = .returned (zr (Pk.recS b σ).1) ∧ w.grownBy w' (some rb) ∧ Rdr w' rb b A n c (Pk.recS b σ).2 := by
  have HN := Lib.hid hn
  have HC := Lib.hid hc
  have Y := Box.new w #[.string ⟨#[]⟩, .int .i64 0, .int .i64 0, .int .i64 0, .string ⟨#[]⟩] 50
  have h1 := h.alloc (.cells #[.string ⟨#[]⟩, .int .i64 0, .int .i64 0, .int .i64 0, .string ⟨#[]⟩] 50)
  have g1 : w.grownBy (w.alloc (.cells #[.string ⟨#[]⟩, .int .i64 0, .int .i64 0, .int .i64 0, .string ⟨#[]⟩] 50)) (some rb) := World.grownBy_alloc w _ _
  have hrb := h.box.lt
  have hne : w.heap.size ≠ rb := by omega
  clear hn hc h
  obtain ⟨⟨nm, τ1⟩, e1⟩ : ∃ z, Pk.nameS b σ = z := ⟨_, rfl⟩
  obtain ⟨⟨t, τ2⟩, e2⟩ : ∃ z, Pk.numS b 2 τ1 = z := ⟨_, rfl⟩
  obtain ⟨⟨cl, τ3⟩, e3⟩ : ∃ z, Pk.numS b 2 τ2 = z := ⟨_, rfl⟩
  obtain ⟨⟨tt, τ4⟩, e4⟩ : ∃ z, Pk.numS b 4 τ3 = z := ⟨_, rfl⟩
  obtain ⟨⟨m, τ5⟩, e5⟩ : ∃ z, Pk.numS b 2 τ4 = z := ⟨_, rfl⟩
  obtain ⟨⟨dt, τ6⟩, e6⟩ : ∃ z, Pk.takeS b m τ5 = z := ⟨_, rfl⟩
  have ES : Hid (Pk.recS b σ = ((⟨nm, (t : Nat), (cl : Nat), (tt : Nat), dt⟩ : Rrc), τ6)) := Lib.hid (by unfold Pk.recS Pk.rec2 Pk.rec5; simp only [e1, e2, e3, e4, e5, e6])
  have hm : m ≤ 100000 := by have := numS_lt2 (b := b) (σ := τ4); rw [e5] at this; exact Nat.le_trans this (by decide)
  have E1 := Lib.hid e1
  clear e1
  have E2 := Lib.hid e2
  clear e2
  have E3 := Lib.hid e3
  clear e3
  have E4 := Lib.hid e4
  clear e4
  have E5 := Lib.hid e5
  clear e5
  have E6 := Lib.hid e6
  clear e6
  go_enter Try.func46, Try.ntmps46
  go_wp2_with fail
  generalize (w.alloc (.cells #[.string ⟨#[]⟩, .int .i64 0, .int .i64 0, .int .i64 0, .string ⟨#[]⟩] 50)) = w1 at *
  have C := prname_any b σ rb A n c w1 h1 HN.out HC.out
  simp only [E1.out] at C
  refine C.mono ?_
  clear C
  rintro e w2 ⟨rfl, gg, h2⟩
  replace Y := Y.grownR gg hne
  have g2 := g1.trans gg
  clear gg h1 g1
  go_wp2_with fail
  have C := pnum2_any b τ1 rb A n c w2 h2 HN.out HC.out
  simp only [E2.out] at C
  refine C.mono ?_
  clear C
  rintro e w3 ⟨rfl, gg, h3⟩
  replace Y := Y.grownR gg hne
  have g3 := g2.trans gg
  clear gg h2 g2
  go_wp2_with fail
  have C := pnum2_any b τ2 rb A n c w3 h3 HN.out HC.out
  simp only [E3.out] at C
  refine C.mono ?_
  clear C
  rintro e w4 ⟨rfl, gg, h4⟩
  replace Y := Y.grownR gg hne
  have g4 := g3.trans gg
  clear gg h3 g3
  go_wp2_with fail
  have C := pnum4_any b τ3 rb A n c w4 h4 HN.out HC.out
  simp only [E4.out] at C
  refine C.mono ?_
  clear C
  rintro e w5 ⟨rfl, gg, h5⟩
  replace Y := Y.grownR gg hne
  have g5 := g4.trans gg
  clear gg h4 g4
  go_wp2_with fail
  have C := pnum2_any b τ4 rb A n c w5 h5 HN.out HC.out
  simp only [E5.out] at C
  refine C.mono ?_
  clear C
  rintro e w6 ⟨rfl, gg, h6⟩
  replace Y := Y.grownR gg hne
  have g6 := g5.trans gg
  clear gg h5 g5
  go_wp2_with fail
  have C := ptake_any b m τ5 rb A n c w6 h6 HN.out HC.out hm
  simp only [E6.out] at C
  refine C.mono ?_
  clear C
  rintro e w7 ⟨⟨A7, n7, c7, rfl, R7⟩, gg, h7⟩
  have CV := run_str (P := Try.prog) 28 9 5 Try.underlying28 Try.underlying5 Try.underlying9 (c := c7) R7
  replace Y := Y.grownR gg hne
  have g7 := g6.trans gg
  clear gg h6 g6
  have y0 := Y.at 0 rfl
  have y1 := Y.at 1 rfl
  have y2 := Y.at 2 rfl
  have y3 := Y.at 3 rfl
  have y4 := Y.at 4 rfl
  have yf := Y.cold
  have z := Y.lt
  have Y2 := (((((Y).set 0 (.string (strB nm))).set 1 (.int .i64 ((t : Nat) : Int))).set 2 (.int .i64 ((cl : Nat) : Int))).set 3 (.int .i64 ((tt : Nat) : Int))).set 4 (.string (strB dt))
  have G := (grown_setN (b := w.heap.size) (o := 4) (grown_setN (b := w.heap.size) (o := 3) (grown_setN (b := w.heap.size) (o := 2) (grown_setN (b := w.heap.size) (o := 1) (grown_setN (b := w.heap.size) (o := 0) g7 (Nat.le_refl _) (.string (strB nm))) (Nat.le_refl _) (.int .i64 ((t : Nat) : Int))) (Nat.le_refl _) (.int .i64 ((cl : Nat) : Int))) (Nat.le_refl _) (.int .i64 ((tt : Nat) : Int))) (Nat.le_refl _) (.string (strB dt)))
  have B := (((((h7.box.other (b' := w.heap.size) (o := 0) (fun e => hne e.symm) (.string (strB nm))).other (b' := w.heap.size) (o := 1) (fun e => hne e.symm) (.int .i64 ((t : Nat) : Int))).other (b' := w.heap.size) (o := 2) (fun e => hne e.symm) (.int .i64 ((cl : Nat) : Int))).other (b' := w.heap.size) (o := 3) (fun e => hne e.symm) (.int .i64 ((tt : Nat) : Int))).other (b' := w.heap.size) (o := 4) (fun e => hne e.symm) (.string (strB dt)))
  have RD := h7.rd.grown ((((((World.grownBy.refl w7 (some w.heap.size)).trans (grown_set1 (w7) w.heap.size 0 (.string (strB nm)))).trans (grown_set1 ((w7).setCell ⟨w.heap.size, 0, none⟩ (.string (strB nm))) w.heap.size 1 (.int .i64 ((t : Nat) : Int)))).trans (grown_set1 (((w7).setCell ⟨w.heap.size, 0, none⟩ (.string (strB nm))).setCell ⟨w.heap.size, 1, none⟩ (.int .i64 ((t : Nat) : Int))) w.heap.size 2 (.int .i64 ((cl : Nat) : Int)))).trans (grown_set1 ((((w7).setCell ⟨w.heap.size, 0, none⟩ (.string (strB nm))).setCell ⟨w.heap.size, 1, none⟩ (.int .i64 ((t : Nat) : Int))).setCell ⟨w.heap.size, 2, none⟩ (.int .i64 ((cl : Nat) : Int))) w.heap.size 3 (.int .i64 ((tt : Nat) : Int)))).trans (grown_set1 (((((w7).setCell ⟨w.heap.size, 0, none⟩ (.string (strB nm))).setCell ⟨w.heap.size, 1, none⟩ (.int .i64 ((t : Nat) : Int))).setCell ⟨w.heap.size, 2, none⟩ (.int .i64 ((cl : Nat) : Int))).setCell ⟨w.heap.size, 3, none⟩ (.int .i64 ((tt : Nat) : Int))) w.heap.size 4 (.string (strB dt)))) (Nat.le_of_lt h7.box.lt) (fun k hk => by injection hk with hk; omega)
  have HL := h7.le
  have r0 := Y2.at 0 rfl
  have r1 := Y2.at 1 rfl
  have r2 := Y2.at 2 rfl
  have r3 := Y2.at 3 rfl
  have r4 := Y2.at 4 rfl
  go_wp2
  rw [ES.out]
  refine bodyPost_ret (v := zr ((⟨nm, (t : Nat), (cl : Nat), (tt : Nat), dt⟩ : Rrc))) (by simp [results, Try.results46, go_sem, y0, y1, y2, y3, y4, yf, z, zr]; try rfl) rfl ⟨rfl, G, ⟨B, RD, HL⟩⟩
end Go.Proofs.Ytbioblknhfmelaa

namespace Go.Proofs.Ytbioblknhfmelaa
set_option linter.unusedVariables false
set_option linter.unusedSimpArgs false
open Go.RowKit
theorem qc_oneC (q : Qst) : ∀ u ∈ qc q, u.oneCell' = true := by
  intro u hu
  simp only [qc, List.mem_cons, List.not_mem_nil, or_false] at hu
  rcases hu with rfl | rfl | rfl <;> rfl
theorem rc_oneC (r : Rrc) : ∀ u ∈ rc r, u.oneCell' = true := by
  intro u hu
  simp only [rc, List.mem_cons, List.not_mem_nil, or_false] at hu
  rcases hu with rfl | rfl | rfl | rfl | rfl <;> rfl
theorem qTLc : SlT Try.prog 22 48 (.agg #[.string ⟨#[]⟩, .int .i64 0, .int .i64 0]) 3 32 := ⟨Try.underlying22, by kernel_rfl, rfl, by omega⟩
theorem rTLc : SlT Try.prog 23 50 (.agg #[.string ⟨#[]⟩, .int .i64 0, .int .i64 0, .int .i64 0, .string ⟨#[]⟩]) 5 56 := ⟨Try.underlying23, by kernel_rfl, rfl, by omega⟩
theorem egQst : ∀ args w, (callFunc 44 args).run Try.prog w = .ok (.enter 44 args) w := enters_of Try.func44 (by kernel_rfl) rfl
theorem egRec : ∀ args w, (callFunc 46 args).run Try.prog w = .ok (.enter 46 args) w := enters_of Try.func46 (by kernel_rfl) rfl
theorem own_grownR {w w' : World} {base e size n rb : Nat} {v : Value} {xs : List Value} (h : w.ownsRow base e size v n xs) (hg : w.grownBy w' (some rb)) (hb : rb < base) : w'.ownsRow base e size v n xs := by
  refine ⟨h.1, ?_⟩
  rcases h.2 with h0 | ⟨g, cap, cur, hv, hbg, hgb, rest⟩
  · exact .inl h0
  · exact .inr ⟨g, cap, cur, hv, hbg, (hg.block g (lt_of_block hgb) (fun e => by injection e with e; omega)).trans hgb, rest⟩
theorem grown_below {a w w' : World} {r : Option Nat} (h : a.grownBy w r) (hb : Below a.heap.size w w') : a.grownBy w' r :=
  ⟨hb.os.trans h.os, hb.tape.trans h.tape, hb.output.trans h.output, Nat.le_trans h.size hb.size, fun k hk hne => (hb.block k hk).trans (h.block k hk hne)⟩
theorem Rdr.belowB {w w' : World} {rb n c B : Nat} {b : List UInt8} {A : Option Addr} {σ : Nat × Int} (h : Rdr w rb b A n c σ) (hb : Below B w w') (hB : rb < B) : Rdr w' rb b A n c σ := ⟨h.box.below hb hB, h.rd.below (hb.mono (Nat.le_of_lt hB)), h.le⟩
theorem own_rng {w : World} {base e size n c : Nat} {A : Option Addr} {xs : List Value} (h : w.ownsRow base e size (.slice A n c) n xs) : ∀ g, blk A = some g → base ≤ g ∧ g < w.heap.size := fun g hg => by
  cases A with
  | none => cases hg
  | some a =>
    have h1 := h.lt a.block rfl
    have e3 : a.block = g := by injection hg
    subst e3
    exact h1
set_option maxHeartbeats 4000000 in
set_option maxRecDepth 20000 in
theorem psevQ_any (b : List UInt8) (m : Nat) (σ : Nat × Int) (rb : Nat) (A : Option Addr) (n c : Nat) (w : World) (h : Rdr w rb b A n c σ) (hn : n ≤ 1000000) (hc : n ≤ c ∧ c ≤ 9223372036854775807) (hm : m ≤ 65535) :
    Calls Try.prog 43 #[.pointer (some ⟨rb, 0, none⟩), .int .i64 (m : Int), .func (.func 44) #[] #[]] w fun e w' => (∃ A' n' c', e = .returned (.slice A' n' c') ∧ Rd w' w'.heap.size 3 A' n' (QC (Pk.sevS (Pk.qstS b) m σ).1) ∧ (∀ g, blk A' = some g → w.heap.size ≤ g ∧ g < w'.heap.size) ∧ n' ≤ m) ∧ w.grownBy w' (some rb) ∧ Rdr w' rb b A n c (Pk.sevS (Pk.qstS b) m σ).2 := by
  have HN := Lib.hid hn
  have HC := Lib.hid hc
  have HM := Lib.hid hm
  have eg := egQst
  have hrb := h.box.lt
  obtain ⟨⟨l, ρ⟩, hlr⟩ : ∃ z, Pk.sevS (Pk.qstS b) m σ = z := ⟨_, rfl⟩
  have HLR := Lib.hid hlr
  rw [hlr]
  clear hlr hn hc hm
  go_enter Try.func43, Try.ntmps43
  go_wp2
  go_loopw [7, 10] (fun v i wr => ∃ (j k : Nat) (O : List Qst) (A' : Option Addr) (c' : Nat) (τ : Nat × Int), j + k = m ∧ v = .slice A' k c' ∧ i = .int .i64 (k : Int) ∧ Hid (l = O ++ (Pk.sevS (Pk.qstS b) j τ).1 ∧ ρ = (Pk.sevS (Pk.qstS b) j τ).2) ∧ wr.ownsRow w.heap.size 48 3 (.slice A' k c') k (FC qc O) ∧ w.grownBy wr (some rb) ∧ Rdr wr rb b A n c τ) (fun _ i _ => m - (intOf i).toNat)
  case atStart => exact ⟨m, 0, [], none, 0, σ, by omega, rfl, rfl, Lib.hid ⟨by rw [HLR.out]; rfl, by rw [HLR.out]⟩, World.ownsRow_nil _ _ _ _, World.grownBy.refl _ _, h⟩
  case round =>
    clear h
    obtain ⟨j, k, O, A', c', τ, hjk, rfl, rfl, HH, own, gw, hr⟩ := hrel
    have hk0 : (0 : Int) ≤ (k : Int) := by omega
    by_cases hlt : k < m
    rotate_left
    · have g1 : decide ((k : Int) < (m : Int)) = false := decide_eq_false (by omega)
      have g2 : decide (k < m) = false := decide_eq_false hlt
      obtain rfl : j = 0 := by omega
      have Z : Hid (l = O ∧ ρ = τ) := Lib.hid ⟨by rw [HH.out.1]; simp [Pk.sevS], HH.out.2⟩
      have hkm : k ≤ m := by omega
      clear hjk
      go_wp2
      go_ret
      rw [Z.out.1, Z.out.2]
      exact ⟨⟨A', k, c', rfl, Rd.of_own own, own_rng own, hkm⟩, gw, hr⟩
    have g1 : decide ((k : Int) < (m : Int)) = true := decide_eq_true (by omega)
    have g2 : decide (k < m) = true := decide_eq_true hlt
    obtain ⟨j', rfl⟩ : ∃ j', j = j' + 1 := ⟨j - 1, by omega⟩
    have CO := pquestion_any b τ rb A n c wr hr HN.out HC.out
    obtain ⟨⟨x, υ⟩, hx⟩ : ∃ z, Pk.qstS b τ = z := ⟨_, rfl⟩
    rw [hx] at CO
    simp only [zq] at CO
    have HX := Lib.hid hx
    have HJK := Lib.hid hjk
    clear hx hjk
    go_wp2_with fail
    refine CO.mono ?_
    clear CO
    rintro e w2 ⟨rfl, gg, h2⟩
    have own2 := (own_grownR own gg hrb).alloc (.cells #[.string (strB x.name), .int .i64 x.typ, .int .i64 x.cls] 48)
    have gw2 := gw.trans gg
    have hs2 := gw2.size
    have gw3 : w.grownBy (w2.alloc (.cells #[.string (strB x.name), .int .i64 x.typ, .int .i64 x.cls] 48)) (some rb) := gw2.trans (World.grownBy_alloc w2 _ _)
    have h3 := h2.alloc (.cells #[.string (strB x.name), .int .i64 x.typ, .int .i64 x.cls] 48)
    have Y := Box.new w2 #[.string (strB x.name), .int .i64 x.typ, .int .i64 x.cls] 48
    have c2 := h3.box.at 2 rfl

    by_cases he : υ.2 = 0
    rotate_left
    · have t1 : (υ.2 != 0) = true := bne_iff_ne.2 he
      have Z : Hid (l = O ∧ ρ = υ) := Lib.hid (by
        have h1 := HH.out
        rw [Pk.sev_err (by rw [HX.out]; exact he), HX.out] at h1
        exact ⟨by rw [h1.1]; simp, h1.2⟩)
      have hkm : k ≤ m := by omega
      clear he
      go_wp2
      go_ret
      rw [Z.out.1, Z.out.2]
      exact ⟨⟨A', k, c', rfl, Rd.of_own own2, own_rng own2, hkm⟩, gw3, h3⟩
    have t1 : (υ.2 != 0) = false := by rw [he]; rfl
    have NXT : Hid (l = (O ++ [x]) ++ (Pk.sevS (Pk.qstS b) j' υ).1 ∧ ρ = (Pk.sevS (Pk.qstS b) j' υ).2) := Lib.hid (by
      have h1 := HH.out
      rw [Pk.sev_more (by rw [HX.out]; exact he), HX.out] at h1
      exact ⟨by rw [h1.1]; simp, h1.2⟩)
    have hsz : w.heap.size ≤ (w2.alloc (.cells #[.string (strB x.name), .int .i64 x.typ, .int .i64 x.cls] 48)).heap.size := gw3.size
    clear he HH own gw gg gw2 hs2 hr h2
    go_upto_region 6 with fail
    generalize w2.alloc (.cells #[.string (strB x.name), .int .i64 x.typ, .int .i64 x.cls] 48) = w3 at *
    have y0 := Y.at 0 rfl
    have y1 := Y.at 1 rfl
    have y2 := Y.at 2 rfl
    have hb9' := HM.out
    have hkm : k < 65535 := by omega
    clear hb9'
    go_wp2_with (at_builtin; refine pushF_law (f := qc) (y := x) qTLc qc_len qc_oneC rfl (.tmp 20) (.tmp 22) rfl w.heap.size rfl rfl rfl own2 (by omega) (by omega) hsz ?_; rintro A9 c9 w9 own9 hb9 _)
    have g9 := grown_below gw3 hb9
    have r9 := h3.belowB hb9 hrb
    clear own2 gw3 h3 hb9 Y c2
    go_roundw
    case rel => exact ⟨j', k + 1, O ++ [x], A9, c9, υ, by have := HJK.out; omega, rfl, by go_num, NXT, own9, g9, r9⟩
    case measure => simp [intOf]; omega
set_option maxHeartbeats 4000000 in
set_option maxRecDepth 20000 in
theorem psevR_any (b : List UInt8) (m : Nat) (σ : Nat × Int) (rb : Nat) (A : Option Addr) (n c : Nat) (w : World) (h : Rdr w rb b A n c σ) (hn : n ≤ 1000000) (hc : n ≤ c ∧ c ≤ 9223372036854775807) (hm : m ≤ 65535) :
    Calls Try.prog 45 #[.pointer (some ⟨rb, 0, none⟩), .int .i64 (m : Int), .func (.func 46) #[] #[]] w fun e w' => (∃ A' n' c', e = .returned (.slice A' n' c') ∧ Rd w' w'.heap.size 5 A' n' (RC (Pk.sevS (Pk.recS b) m σ).1) ∧ (∀ g, blk A' = some g → w.heap.size ≤ g ∧ g < w'.heap.size) ∧ n' ≤ m) ∧ w.grownBy w' (some rb) ∧ Rdr w' rb b A n c (Pk.sevS (Pk.recS b) m σ).2 := by
  have HN := Lib.hid hn
  have HC := Lib.hid hc
  have HM := Lib.hid hm
  have eg := egRec
  have hrb := h.box.lt
  obtain ⟨⟨l, ρ⟩, hlr⟩ : ∃ z, Pk.sevS (Pk.recS b) m σ = z := ⟨_, rfl⟩
  have HLR := Lib.hid hlr
  rw [hlr]
  clear hlr hn hc hm
  go_enter Try.func45, Try.ntmps45
  go_wp2
  go_loopw [7, 10] (fun v i wr => ∃ (j k : Nat) (O : List Rrc) (A' : Option Addr) (c' : Nat) (τ : Nat × Int), j + k = m ∧ v = .slice A' k c' ∧ i = .int .i64 (k : Int) ∧ Hid (l = O ++ (Pk.sevS (Pk.recS b) j τ).1 ∧ ρ = (Pk.sevS (Pk.recS b) j τ).2) ∧ wr.ownsRow w.heap.size 50 5 (.slice A' k c') k (FC rc O) ∧ w.grownBy wr (some rb) ∧ Rdr wr rb b A n c τ) (fun _ i _ => m - (intOf i).toNat)
  case atStart => exact ⟨m, 0, [], none, 0, σ, by omega, rfl, rfl, Lib.hid ⟨by rw [HLR.out]; rfl, by rw [HLR.out]⟩, World.ownsRow_nil _ _ _ _, World.grownBy.refl _ _, h⟩
  case round =>
    clear h
    obtain ⟨j, k, O, A', c', τ, hjk, rfl, rfl, HH, own, gw, hr⟩ := hrel
    have hk0 : (0 : Int) ≤ (k : Int) := by omega
    by_cases hlt : k < m
    rotate_left
    · have g1 : decide ((k : Int) < (m : Int)) = false := decide_eq_false (by omega)
      have g2 : decide (k < m) = false := decide_eq_false hlt
      obtain rfl : j = 0 := by omega
      have Z : Hid (l = O ∧ ρ = τ) := Lib.hid ⟨by rw [HH.out.1]; simp [Pk.sevS], HH.out.2⟩
      have hkm : k ≤ m := by omega
      clear hjk
      go_wp2
      go_ret
      rw [Z.out.1, Z.out.2]
      exact ⟨⟨A', k, c', rfl, Rd.of_own own, own_rng own, hkm⟩, gw, hr⟩
    have g1 : decide ((k : Int) < (m : Int)) = true := decide_eq_true (by omega)
    have g2 : decide (k < m) = true := decide_eq_true hlt
    obtain ⟨j', rfl⟩ : ∃ j', j = j' + 1 := ⟨j - 1, by omega⟩
    have CO := precord_any b τ rb A n c wr hr HN.out HC.out
    obtain ⟨⟨x, υ⟩, hx⟩ : ∃ z, Pk.recS b τ = z := ⟨_, rfl⟩
    rw [hx] at CO
    simp only [zr] at CO
    have HX := Lib.hid hx
    have HJK := Lib.hid hjk
    clear hx hjk
    go_wp2_with fail
    refine CO.mono ?_
    clear CO
    rintro e w2 ⟨rfl, gg, h2⟩
    have own2 := (own_grownR own gg hrb).alloc (.cells #[.string (strB x.name), .int .i64 x.typ, .int .i64 x.cls, .int .i64 x.ttl, .string (strB x.data)] 50)
    have gw2 := gw.trans gg
    have hs2 := gw2.size
    have gw3 : w.grownBy (w2.alloc (.cells #[.string (strB x.name), .int .i64 x.typ, .int .i64 x.cls, .int .i64 x.ttl, .string (strB x.data)] 50)) (some rb) := gw2.trans (World.grownBy_alloc w2 _ _)
    have h3 := h2.alloc (.cells #[.string (strB x.name), .int .i64 x.typ, .int .i64 x.cls, .int .i64 x.ttl, .string (strB x.data)] 50)
    have Y := Box.new w2 #[.string (strB x.name), .int .i64 x.typ, .int .i64 x.cls, .int .i64 x.ttl, .string (strB x.data)] 50
    have c2 := h3.box.at 2 rfl

    by_cases he : υ.2 = 0
    rotate_left
    · have t1 : (υ.2 != 0) = true := bne_iff_ne.2 he
      have Z : Hid (l = O ∧ ρ = υ) := Lib.hid (by
        have h1 := HH.out
        rw [Pk.sev_err (by rw [HX.out]; exact he), HX.out] at h1
        exact ⟨by rw [h1.1]; simp, h1.2⟩)
      have hkm : k ≤ m := by omega
      clear he
      go_wp2
      go_ret
      rw [Z.out.1, Z.out.2]
      exact ⟨⟨A', k, c', rfl, Rd.of_own own2, own_rng own2, hkm⟩, gw3, h3⟩
    have t1 : (υ.2 != 0) = false := by rw [he]; rfl
    have NXT : Hid (l = (O ++ [x]) ++ (Pk.sevS (Pk.recS b) j' υ).1 ∧ ρ = (Pk.sevS (Pk.recS b) j' υ).2) := Lib.hid (by
      have h1 := HH.out
      rw [Pk.sev_more (by rw [HX.out]; exact he), HX.out] at h1
      exact ⟨by rw [h1.1]; simp, h1.2⟩)
    have hsz : w.heap.size ≤ (w2.alloc (.cells #[.string (strB x.name), .int .i64 x.typ, .int .i64 x.cls, .int .i64 x.ttl, .string (strB x.data)] 50)).heap.size := gw3.size
    clear he HH own gw gg gw2 hs2 hr h2
    go_upto_region 6 with fail
    generalize w2.alloc (.cells #[.string (strB x.name), .int .i64 x.typ, .int .i64 x.cls, .int .i64 x.ttl, .string (strB x.data)] 50) = w3 at *
    have y0 := Y.at 0 rfl
    have y1 := Y.at 1 rfl
    have y2 := Y.at 2 rfl
    have y3 := Y.at 3 rfl
    have y4 := Y.at 4 rfl
    have hb9' := HM.out
    have hkm : k < 65535 := by omega
    clear hb9'
    go_wp2_with (at_builtin; refine pushF_law (f := rc) (y := x) rTLc rc_len rc_oneC rfl (.tmp 20) (.tmp 22) rfl w.heap.size rfl rfl rfl own2 (by omega) (by omega) hsz ?_; rintro A9 c9 w9 own9 hb9 _)
    have g9 := grown_below gw3 hb9
    have r9 := h3.belowB hb9 hrb
    clear own2 gw3 h3 hb9 Y c2
    go_roundw
    case rel => exact ⟨j', k + 1, O ++ [x], A9, c9, υ, by have := HJK.out; omega, rfl, by go_num, NXT, own9, g9, r9⟩
    case measure => simp [intOf]; omega
end Go.Proofs.Ytbioblknhfmelaa

