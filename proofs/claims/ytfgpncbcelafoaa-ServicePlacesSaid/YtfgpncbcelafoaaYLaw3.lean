/- The walk of service's law on places. -/
import Derived.Test.YtfgpncbcelafoaaYAlive
import Derived.Test.YtfgpncbcelafoaaYRows
import Derived.Test.YtfgpncbcelafoaaERows
import Derived.Test.YtfgpncbcelafoaaERef5
namespace Go.Proofs.Ytfgpncbcelafoaa
set_option linter.unusedVariables false
set_option linter.unusedSimpArgs false
open Go.RowKit
set_option maxHeartbeats 8000000 in
set_option maxRecDepth 100000 in
theorem law_ServicePlaces (A : Option Addr) (n c : Nat) (l : List Ent) (x : Svc) (W : World) (w0 : TableIn W A n c l) (w1 : SvIn x) :
    Calls Try.prog 5 #[.slice A n c, .agg #[.string (strB x.name), .string (strB x.proto), .int .i64 x.port, .int .i64 x.prio, .int .i64 x.wt, .bool x.well]] W fun e w' => e = .returned (.bool true) ∧ Below W.heap.size W w' := by
  obtain ⟨R, hc1, hc2, hn32, hin⟩ := w0
  obtain ⟨hy1, hp1, hp2, hp3⟩ := w1
  have hvl : Hid (∀ e ∈ l, e.val.length ≤ 140737488351232) := Lib.hid (fun e he => (hin e he).1)
  have hll : Hid (l.length = n) := Lib.hid (by have := R.lenE; omega)
  clear hin hp1 hp2 hp3
  have hgd := guard_svc
  have qx := fun w => (eq_svc x x w).trans (by rw [svB_self])
  have P := Box.new (W) #[.string (strB x.name), .string (strB x.proto), .int .i64 x.port, .int .i64 x.prio, .int .i64 x.wt, .bool x.well] 23
  have b := (Below.refl W.heap.size W).alloc (Nat.le_refl _) (.cells #[.string (strB x.name), .string (strB x.proto), .int .i64 x.port, .int .i64 x.prio, .int .i64 x.wt, .bool x.well] 23)
  replace R := R.belowH b
  go_enter Try.func5, Try.ntmps5
  go_wp2_with fail
  generalize (W).alloc (.cells #[.string (strB x.name), .string (strB x.proto), .int .i64 x.port, .int .i64 x.prio, .int .i64 x.wt, .bool x.well] 23) = w1' at *
  refine (yalive_any _).mono ?_
  rintro e v1 ⟨rfl, hb⟩
  replace P := P.belowH hb
  replace R := R.belowH hb
  replace b := b.trans (hb.mono b.size)
  clear hb
  (try dsimp only)
  have p0 := P.at 0 rfl
  have p1 := P.at 1 rfl
  have p2 := P.at 2 rfl
  have p3 := P.at 3 rfl
  have p4 := P.at 4 rfl
  have p5 := P.at 5 rfl
  by_cases hg : E.great l = true
  · have GR := Lib.hid hg
    clear hg
    go_wp2_with (go_at_call 15; refine (rgreat_any l A n c _ _ R (by omega) hvl.out).mono ?_; rintro e u1 ⟨rfl, rfl⟩; rw [GR.out])
    go_ret
    exact ⟨rfl, b⟩
  have GR : Hid (E.great l = false) := Lib.hid (by simpa using hg)
  have hn4 : n ≤ 4000 := by have h1 := hll.out; have h2 := GR.out; unfold E.great at h2; have h3 := of_decide_eq_false h2; omega
  clear hg
  by_cases hr : rightB l = true
  rotate_left
  · have RR : Hid (rightB l = false) := Lib.hid (by simpa using hr)
    clear hr
    go_wp2_with (first | (go_at_call 15; refine (rgreat_any l A n c _ _ R (by omega) hvl.out).mono ?_; rintro e u1 ⟨rfl, rfl⟩; rw [GR.out]) | (go_at_call 16; refine (rright_any l A n c _ _ R (Nat.le_refl _) hn32).mono ?_; rintro e u2 ⟨rfl, hb⟩; rw [RR.out]; replace R := R.belowH hb; replace P := P.belowH hb; replace b := b.trans (hb.mono b.size); clear hb p0 p1 p2 p3 p4 p5; have p0 := P.at 0 rfl; have p1 := P.at 1 rfl; have p2 := P.at 2 rfl; have p3 := P.at 3 rfl; have p4 := P.at 4 rfl; have p5 := P.at 5 rfl))
    go_ret
    exact ⟨rfl, b⟩
  have RR := Lib.hid hr
  have HRI : Hid (E.right l) := Lib.hid (rightB_out hr)
  clear hr
  by_cases hs : Y.right x
  rotate_left
  · have SR : Hid (decide (Y.right x) = false) := Lib.hid (decide_eq_false hs)
    clear hs
    go_wp2_with (first | (go_at_call 15; refine (rgreat_any l A n c _ _ R (by omega) hvl.out).mono ?_; rintro e u1 ⟨rfl, rfl⟩; rw [GR.out]) | (go_at_call 16; refine (rright_any l A n c _ _ R (Nat.le_refl _) hn32).mono ?_; rintro e u2 ⟨rfl, hb⟩; rw [RR.out]; replace R := R.belowH hb; replace P := P.belowH hb; replace b := b.trans (hb.mono b.size); clear hb p0 p1 p2 p3 p4 p5; have p0 := P.at 0 rfl; have p1 := P.at 1 rfl; have p2 := P.at 2 rfl; have p3 := P.at 3 rfl; have p4 := P.at 4 rfl; have p5 := P.at 5 rfl) | (go_at_call 12; refine (ryright_at SR.out hy1 _).mono ?_; rintro e u3 ⟨rfl, hb⟩; replace R := R.belowH hb; replace P := P.belowH hb; replace b := b.trans (hb.mono b.size); clear hb p0 p1 p2 p3 p4 p5; have p0 := P.at 0 rfl; have p1 := P.at 1 rfl; have p2 := P.at 2 rfl; have p3 := P.at 3 rfl; have p4 := P.at 4 rfl; have p5 := P.at 5 rfl))
    go_ret
    exact ⟨rfl, b⟩
  have SR : Hid (decide (Y.right x) = true) := Lib.hid (decide_eq_true hs)
  have HS := Lib.hid hs
  clear hs
  obtain ⟨⟨k0, z0⟩, hk0⟩ : ∃ z, Y.key x.name x.proto l = z := ⟨_, rfl⟩
  obtain ⟨⟨kp, zp⟩, hkp⟩ : ∃ z, Y.place l = z := ⟨_, rfl⟩
  have K0 := Lib.hid hk0
  have KP := Lib.hid hkp
  clear hk0 hkp
  go_wp2_with (first | (go_at_call 15; refine (rgreat_any l A n c _ _ R (by omega) hvl.out).mono ?_; rintro e u1 ⟨rfl, rfl⟩; rw [GR.out]) | (go_at_call 16; refine (rright_any l A n c _ _ R (Nat.le_refl _) hn32).mono ?_; rintro e u2 ⟨rfl, hb⟩; rw [RR.out]; replace R := R.belowH hb; replace P := P.belowH hb; replace b := b.trans (hb.mono b.size); clear hb p0 p1 p2 p3 p4 p5; have p0 := P.at 0 rfl; have p1 := P.at 1 rfl; have p2 := P.at 2 rfl; have p3 := P.at 3 rfl; have p4 := P.at 4 rfl; have p5 := P.at 5 rfl) | (go_at_call 12; refine (ryright_at SR.out hy1 _).mono ?_; rintro e u3 ⟨rfl, hb⟩; replace R := R.belowH hb; replace P := P.belowH hb; replace b := b.trans (hb.mono b.size); clear hb p0 p1 p2 p3 p4 p5; have p0 := P.at 0 rfl; have p1 := P.at 1 rfl; have p2 := P.at 2 rfl; have p3 := P.at 3 rfl; have p4 := P.at 4 rfl; have p5 := P.at 5 rfl))
  refine (ykey_at K0.out A n c _ R (by omega) hvl.out hy1).mono ?_
  rintro e u4 ⟨rfl, hb⟩
  clear p0 p1 p2 p3 p4 p5
  replace R := R.belowH hb
  replace P := P.belowH hb
  replace b := b.trans (hb.mono b.size)
  clear hb
  (try dsimp only)
  have p0 := P.at 0 rfl
  have p1 := P.at 1 rfl
  have p2 := P.at 2 rfl
  have p3 := P.at 3 rfl
  have p4 := P.at 4 rfl
  have p5 := P.at 5 rfl
  go_wp2_with fail
  refine (yplace_at KP.out A n c _ R (by omega)).mono ?_
  rintro e u5 ⟨rfl, hb⟩
  clear p0 p1 p2 p3 p4 p5
  replace R := R.belowH hb
  replace P := P.belowH hb
  replace b := b.trans (hb.mono b.size)
  clear hb
  (try dsimp only)
  have p0 := P.at 0 rfl
  have p1 := P.at 1 rfl
  have p2 := P.at 2 rfl
  have p3 := P.at 3 rfl
  have p4 := P.at 4 rfl
  have p5 := P.at 5 rfl
  by_cases hzp : zp = true
  rotate_left
  · have e : zp = false := by simpa using hzp
    have h9 := Y.place_no HRI.out.2 (by rw [KP.out]; exact e)
    have h9n : 9 ≤ n := by have := hll.out; omega
    have t9 : decide (9 ≤ (n : Int)) = true := decide_eq_true (by omega)
    clear h9 hzp
    subst e
    cases z0
    · go_wp2
      go_ret
      exact ⟨rfl, b⟩
    · go_wp2
      go_ret
      exact ⟨rfl, b⟩
  subst hzp
  cases z0
  rotate_left
  · go_wp2
    go_ret
    exact ⟨rfl, b⟩
  have hpl := Y.place_yes (l := l) (by rw [KP.out])
  rw [KP.out] at hpl
  obtain ⟨hp3, hp12, hpv⟩ := hpl
  simp only at hp3 hp12 hpv
  have hput := Y.put_it HS.out hp3 HRI.out.2 hpv (by rw [K0.out]) (v := 1)
  obtain ⟨hk1, hl1, hm1⟩ := hput
  have EA := Lib.hid (Y.dec_enc HS.out)
  have hal := Y.val_len HS.out
  obtain ⟨va, hva⟩ : ∃ z, Y.val x = z := ⟨_, rfl⟩
  rw [hva] at EA hk1 hl1 hm1 hal
  clear hva hpv
  obtain ⟨m, hm⟩ : ∃ z, E.put l ⟨kp, 1, va⟩ = z := ⟨_, rfl⟩
  have hmv : Hid (∀ e ∈ m, e.val.length ≤ 140737488351232) := Lib.hid (fun e he => by
    rw [← hm] at he
    rcases E.put_mem he with rfl | he
    · show va.length ≤ _; omega
    · exact hvl.out e he)
  have hml := E.put_length l ⟨kp, 1, va⟩
  rw [hm] at hk1 hl1 hm1 hml
  have HPM := Lib.hid hm
  obtain ⟨am, ham⟩ : ∃ z, Y.all m = z := ⟨_, rfl⟩
  obtain ⟨al, hal2⟩ : ∃ z, Y.all l = z := ⟨_, rfl⟩
  rw [ham] at hl1 hm1
  rw [hal2] at hl1
  have AM := Lib.hid ham
  have AL := Lib.hid hal2
  have K1 := Lib.hid hk1
  have HL1 := Lib.hid hl1
  have HM1 := Lib.hid hm1
  have hml2 : m.length ≤ 4001 := by have := hll.out; omega
  have HML := Lib.hid hml2
  clear hm hk1 hl1 hm1 hml hal ham hal2 hml2
  go_wp2_with fail
  refine (yencode_at EA.out hy1 _).mono ?_
  rintro e u6 ⟨rfl, hb⟩
  clear p0 p1 p2 p3 p4 p5
  replace R := R.belowH hb
  replace P := P.belowH hb
  replace b := b.trans (hb.mono b.size)
  clear hb
  (try dsimp only)
  have p0 := P.at 0 rfl
  have p1 := P.at 1 rfl
  have p2 := P.at 2 rfl
  have p3 := P.at 3 rfl
  have p4 := P.at 4 rfl
  have p5 := P.at 5 rfl
  go_wp2_with fail
  have ct := rput_any l ⟨kp, 1, va⟩ A n c _ u6 R (Nat.le_refl _) (by omega) HRI.out.2
  rw [HPM.out] at ct
  refine ct.mono ?_
  clear ct
  rintro e u7 ⟨A1, n1, c1, rfl, hn1, own, hb⟩
  have R1 := Rd.of_own own
  have hn1b : n1 ≤ 4001 := by have := HML.out; omega
  clear own hn1
  clear p0 p1 p2 p3 p4 p5
  replace R := R.belowH hb
  replace P := P.belowH hb
  replace b := b.trans (hb.mono b.size)
  clear hb
  (try dsimp only)
  have p0 := P.at 0 rfl
  have p1 := P.at 1 rfl
  have p2 := P.at 2 rfl
  have p3 := P.at 3 rfl
  have p4 := P.at 4 rfl
  have p5 := P.at 5 rfl
  go_wp2_with fail
  refine (ykey_at K1.out A1 n1 c1 _ R1 (by omega) hmv.out hy1).mono ?_
  rintro e u8 ⟨rfl, hb⟩
  replace R1 := R1.belowH hb
  clear p0 p1 p2 p3 p4 p5
  replace R := R.belowH hb
  replace P := P.belowH hb
  replace b := b.trans (hb.mono b.size)
  clear hb
  (try dsimp only)
  have p0 := P.at 0 rfl
  have p1 := P.at 1 rfl
  have p2 := P.at 2 rfl
  have p3 := P.at 3 rfl
  have p4 := P.at 4 rfl
  have p5 := P.at 5 rfl
  go_wp2_with fail
  refine (yall_at AM.out A1 n1 c1 _ R1 (by omega) hmv.out).mono ?_
  rintro e u9 ⟨⟨A2, n2, c2, rfl, hn2, R2, hc2⟩, hb⟩
  clear R1
  clear p0 p1 p2 p3 p4 p5
  replace R := R.belowH hb
  replace P := P.belowH hb
  replace b := b.trans (hb.mono b.size)
  clear hb
  (try dsimp only)
  have p0 := P.at 0 rfl
  have p1 := P.at 1 rfl
  have p2 := P.at 2 rfl
  have p3 := P.at 3 rfl
  have p4 := P.at 4 rfl
  have p5 := P.at 5 rfl
  have HN2 := Lib.hid hn2
  have hn2b : n2 ≤ 9223372036854775807 := by omega
  clear hn2 p0 p1 p2 p3 p4 p5
  obtain ⟨tv, htv⟩ : ∃ tv : Nat → Bool, tv = fun k => (am.take k).any fun y => svB y x := ⟨_, rfl⟩
  have HTV := Lib.hid htv
  clear htv
  go_wp2
  go_loopw [16, 15] (fun i z wr => ∃ k : Nat, k ≤ n2 ∧ i = .int .i64 (k : Int) ∧ z = .bool (tv k) ∧ Rd wr wr.heap.size 6 A2 n2 (YC am) ∧ Rd wr wr.heap.size 3 A n (EC l) ∧ Box wr W.heap.size 23 #[.string (strB x.name), .string (strB x.proto), .int .i64 x.port, .int .i64 x.prio, .int .i64 x.wt, .bool x.well] ∧ Below W.heap.size W wr) (fun i _ _ => n2 - (intOf i).toNat)
  case atStart => exact ⟨0, by omega, rfl, by rw [HTV.out]; rfl, R2, R, P, b⟩
  case round =>
    clear R2 R P b
    obtain ⟨k, hk, rfl, rfl, R2, R, P, b⟩ := hrel
    have p0 := P.at 0 rfl
    have p1 := P.at 1 rfl
    have p2 := P.at 2 rfl
    have p3 := P.at 3 rfl
    have p4 := P.at 4 rfl
    have p5 := P.at 5 rfl
    by_cases hlt : k < n2
    · obtain ⟨bk, ok, y, rfl, hbk, hy, c0, c1', c2', c3, c4, c5⟩ := R2.atY hlt
      have hk0 : (0 : Int) ≤ (k : Int) := by omega
      have step : tv (k + 1) = (tv k || svB y x) := by rw [HTV.out]; show (am.take (k + 1)).any _ = _; rw [take_more hy, List.any_append]; simp
      have qy := eq_svc y x
      obtain ⟨sb, hsb⟩ : ∃ sb, svB y x = sb := ⟨_, rfl⟩
      rw [hsb] at qy step
      obtain ⟨t0, ht0⟩ : ∃ t0, tv k = t0 := ⟨_, rfl⟩
      rw [ht0] at step ⊢
      have ST := Lib.hid step
      clear step hsb ht0 hy
      cases t0
      · go_wp2_with fail
        go_quiet (fail)
        go_wp2
        go_roundw
        case rel => exact ⟨k + 1, by omega, by go_num, by rw [ST.out]; simp, R2.drewN _, R.drewN _, P.drewN _, kdrewY b _⟩
        case measure => simp [intOf]; omega
      · go_wp2_with fail
        go_quiet (fail)
        go_wp2
        go_roundw
        case rel => exact ⟨k + 1, by omega, by go_num, by rw [ST.out]; simp, R2.drewN _, R.drewN _, P.drewN _, kdrewY b _⟩
        case measure => simp [intOf]; omega
    · have hkk : ¬ (k : Int) < (n2 : Int) := by omega
      have e : k = n2 := by omega
      have htold : tv k = true := by
        rw [HTV.out]
        show (am.take k).any _ = true
        rw [e, HN2.out, List.take_length]
        exact List.any_eq_true.2 ⟨x, HM1.out, svB_self x⟩
      rw [htold]
      clear htold
      have hl3 : Hid (n2 = al.length + 1) := Lib.hid (by rw [HN2.out, HL1.out])
      have hall : al.length ≤ 9223372036854775806 := by have := hl3.out; omega
      have t3 : decide (3 ≤ kp) = true := decide_eq_true hp3
      have t12 : decide (kp < 12) = true := decide_eq_true hp12
      go_wp2_with fail
      refine (yall_at AL.out A n c _ R (by omega) hvl.out).mono ?_
      rintro e u10 ⟨⟨A4, n4, c4', rfl, hn4', R4, hc4⟩, hb⟩
      replace b := b.trans (hb.mono b.size)
      have e4 : n2 = n4 + 1 := by have := hl3.out; omega
      have e5 := more_fit n4 n2 e4 hn2b
      have e6 := more_in n4 n2 e4 hn2b
      clear hb e4 hl3 hall hn4'
      go_wp2
      go_ret
      exact ⟨rfl, b⟩
end Go.Proofs.Ytfgpncbcelafoaa
