/- Service's contracts with the answer at hand; the fixed fact. -/
import Derived.Test.YtfgpncbcelafoaaYCode
import Derived.Test.YtfgpncbcelafoaaYKal
namespace Go.Proofs.Ytfgpncbcelafoaa
set_option linter.unusedVariables false
set_option linter.unusedSimpArgs false
open Go.RowKit
theorem sum_fit (a b : Nat) (ha : a ≤ 140737488351232) (hb : b ≤ 140737488351232) : wrap64 ((a : Int) + (b : Int)) = ((a + b : Nat) : Int) := by unfold wrap64; omega
theorem sum_in (a b : Nat) (ha : a ≤ 140737488351232) (hb : b ≤ 140737488351232) : IntKind.i64.wrap ((a : Int) + (b : Int)) = ((a + b : Nat) : Int) := (IntWalk.i64_in _ (by omega)).trans (by omega)
theorem more_fit (a b : Nat) (h : b = a + 1) (hb : b ≤ 9223372036854775807) : wrap64 ((a : Int) + 1) = (b : Int) := by unfold wrap64; omega
theorem more_in (a b : Nat) (h : b = a + 1) (hb : b ≤ 9223372036854775807) : IntKind.i64.wrap ((a : Int) + 1) = (b : Int) := (IntWalk.i64_in _ (by omega)).trans (by omega)
theorem yencode_at {x : Svc} {t : List UInt8} {er : Int} (e : Y.enc x = (t, er)) (hx : YIn x) (w : World) : Calls Try.prog 7 #[.agg #[.string (strB x.name), .string (strB x.proto), .int .i64 x.port, .int .i64 x.prio, .int .i64 x.wt, .bool x.well]] w (TxtR t er w) := by have h := yencode_any x hx w; rw [e] at h; exact h
theorem ryencode_at {x : Svc} {t : List UInt8} {er : Int} (e : Y.enc x = (t, er)) (hx : YIn x) (w : World) : Calls Try.prog 8 #[.agg #[.string (strB x.name), .string (strB x.proto), .int .i64 x.port, .int .i64 x.prio, .int .i64 x.wt, .bool x.well]] w (TxtR t er w) := by have h := ryencode_any x hx w; rw [e] at h; exact h
theorem ydecode_at {v : List UInt8} {x : Svc} {er : Int} (e : Y.dec v = (x, er)) (hv : v.length ≤ 140737488351232) (w : World) : Calls Try.prog 9 #[.string (strB v)] w (SvR x er w) := by have h := ydecode_any v hv w; rw [e] at h; exact h
theorem rydecode_at {v : List UInt8} {x : Svc} {er : Int} (e : Y.dec v = (x, er)) (hv : v.length ≤ 140737488351232) (w : World) : Calls Try.prog 10 #[.string (strB v)] w (SvR x er w) := by have h := rydecode_any v hv w; rw [e] at h; exact h
theorem yright_at {x : Svc} {z : Bool} (e : decide (Y.right x) = z) (hx : YIn x) (w : World) : Calls Try.prog 11 #[.agg #[.string (strB x.name), .string (strB x.proto), .int .i64 x.port, .int .i64 x.prio, .int .i64 x.wt, .bool x.well]] w (BoolB z w) := by have h := yright_any x hx w; rw [e] at h; exact h
theorem ryright_at {x : Svc} {z : Bool} (e : decide (Y.right x) = z) (hx : YIn x) (w : World) : Calls Try.prog 12 #[.agg #[.string (strB x.name), .string (strB x.proto), .int .i64 x.port, .int .i64 x.prio, .int .i64 x.wt, .bool x.well]] w (BoolB z w) := by have h := ryright_any x hx w; rw [e] at h; exact h
theorem yword_at {l : List UInt8} {z : Bool} (e : decide (Y.word l) = z) (hm : l.length ≤ 140737488351232) (w : World) : Calls Try.prog 13 #[.string (strB l)] w (BoolB z w) := by have h := yword_any l hm w; rw [e] at h; exact h
theorem ykey_at {l : List Ent} {nm pr : List UInt8} {k : Int} {z : Bool} (e : Y.key nm pr l = (k, z)) (A : Option Addr) (n c : Nat) (w : World) (h : Rd w w.heap.size 3 A n (EC l)) (hn : n ≤ 1000000) (hv : ∀ x ∈ l, x.val.length ≤ 140737488351232) (hw : nm.length ≤ 140737488351232 ∧ pr.length ≤ 140737488351232) :
    Calls Try.prog 17 #[.slice A n c, .string (strB nm), .string (strB pr)] w (KeyR (k, z) w) := by have h := ykey_any l nm pr A n c w h hn hv hw; rw [e] at h; exact h
theorem yplace_at {l : List Ent} {k : Int} {z : Bool} (e : Y.place l = (k, z)) (A : Option Addr) (n c : Nat) (w : World) (h : Rd w w.heap.size 3 A n (EC l)) (hn : n ≤ 1000000) : Calls Try.prog 18 #[.slice A n c] w (KeyR (k, z) w) := by have h := yplace_any l A n c w h hn; rw [e] at h; exact h
theorem yup_at {l : List Ent} {z : Bool} (e : Y.up l = z) (A : Option Addr) (n c : Nat) (w : World) (h : Rd w w.heap.size 3 A n (EC l)) (hn : n ≤ 1000000) : Calls Try.prog 21 #[.slice A n c] w (BoolB z w) := by have h := yup_any l A n c w h hn; rw [e] at h; exact h
theorem yall_at {l : List Ent} {m : List Svc} (e : Y.all l = m) (A : Option Addr) (n c : Nat) (w : World) (h : Rd w w.heap.size 3 A n (EC l)) (hn : n ≤ 1000000) (hv : ∀ x ∈ l, x.val.length ≤ 140737488351232) : Calls Try.prog 20 #[.slice A n c] w (MadeY m w) := by have h := yall_any l A n c w h hn hv; rw [e] at h; exact h
set_option maxHeartbeats 2000000 in
set_option maxRecDepth 20000 in
theorem yalive_any (w : World) : Calls Try.prog 6 #[] w fun e w' => e = .returned (.bool true) ∧ Below w.heap.size w w' := by
  have E1 := Lib.hid Y.kal1
  have E2 := Lib.hid Y.kal2
  have E3 := Lib.hid Y.kal3
  have E4 := Lib.hid Y.kal4
  have E5 := Lib.hid Y.kal5
  have E6 := Lib.hid Y.kal6
  have HV : Hid (∀ x ∈ Y.tab, x.val.length ≤ 140737488351232) := Lib.hid (by decide)
  have hs : (strB Y.httpv == (⟨#[4, 104, 116, 116, 112, 3, 116, 99, 112, 80, 0, 0, 1]⟩ : ByteArray)) = true := by decide
  go_enter Try.func6, Try.ntmps6
  go_wp2_with fail
  refine (yencode_at E1.out ⟨by decide, by decide⟩ _).mono ?_
  rintro e w1 ⟨rfl, b⟩
  go_wp2_with fail
  refine (ydecode_at E2.out (by decide) w1).mono ?_
  rintro e w2 ⟨rfl, hb⟩
  replace b := b.trans (hb.mono b.size)
  clear hb
  simp only [ysv]
  have X := (Box.new w2 #[.string (strB [104, 116, 116, 112]), .string (strB [116, 99, 112]), .int .i64 80, .int .i64 0, .int .i64 0, .bool true] 23).alloc (.cells #[.int .i64 0, .int .i64 0, .string ⟨#[117, 112]⟩, .int .i64 3, .int .i64 0, .string (strB Y.httpv)] 40)
  have R := (Rd.lit (w2.alloc (.cells #[.string (strB [104, 116, 116, 112]), .string (strB [116, 99, 112]), .int .i64 80, .int .i64 0, .int .i64 0, .bool true] 23)) #[.int .i64 0, .int .i64 0, .string ⟨#[117, 112]⟩, .int .i64 3, .int .i64 0, .string (strB Y.httpv)] 40 3 2 rfl).more (show (w2.alloc (.cells #[.string (strB [104, 116, 116, 112]), .string (strB [116, 99, 112]), .int .i64 80, .int .i64 0, .int .i64 0, .bool true] 23)).heap.size + 1 ≤ ((w2.alloc (.cells #[.string (strB [104, 116, 116, 112]), .string (strB [116, 99, 112]), .int .i64 80, .int .i64 0, .int .i64 0, .bool true] 23)).alloc (.cells #[.int .i64 0, .int .i64 0, .string ⟨#[117, 112]⟩, .int .i64 3, .int .i64 0, .string (strB Y.httpv)] 40)).heap.size by simp)
  replace b := (b.alloc b.size (.cells #[.string (strB [104, 116, 116, 112]), .string (strB [116, 99, 112]), .int .i64 80, .int .i64 0, .int .i64 0, .bool true] 23)).alloc (by have := b.size; simp; omega) (.cells #[.int .i64 0, .int .i64 0, .string ⟨#[117, 112]⟩, .int .i64 3, .int .i64 0, .string (strB Y.httpv)] 40)
  rw [show (w2.alloc (.cells #[.string (strB [104, 116, 116, 112]), .string (strB [116, 99, 112]), .int .i64 80, .int .i64 0, .int .i64 0, .bool true] 23)).heap.size = w2.heap.size + 1 by simp] at R
  replace R : Rd ((w2.alloc (.cells #[.string (strB [104, 116, 116, 112]), .string (strB [116, 99, 112]), .int .i64 80, .int .i64 0, .int .i64 0, .bool true] 23)).alloc (.cells #[.int .i64 0, .int .i64 0, .string ⟨#[117, 112]⟩, .int .i64 3, .int .i64 0, .string (strB Y.httpv)] 40)) ((w2.alloc (.cells #[.string (strB [104, 116, 116, 112]), .string (strB [116, 99, 112]), .int .i64 80, .int .i64 0, .int .i64 0, .bool true] 23)).alloc (.cells #[.int .i64 0, .int .i64 0, .string ⟨#[117, 112]⟩, .int .i64 3, .int .i64 0, .string (strB Y.httpv)] 40)).heap.size 3 (some ⟨w2.heap.size + 1, 0, none⟩) 2 (EC Y.tab) := R
  go_wp2_with fail
  generalize (w2.alloc (.cells #[.string (strB [104, 116, 116, 112]), .string (strB [116, 99, 112]), .int .i64 80, .int .i64 0, .int .i64 0, .bool true] 23)).alloc (.cells #[.int .i64 0, .int .i64 0, .string ⟨#[117, 112]⟩, .int .i64 3, .int .i64 0, .string (strB Y.httpv)] 40) = w3 at *
  refine (ykey_at E3.out (some ⟨w2.heap.size + 1, 0, none⟩) 2 2 w3 R (by omega) HV.out ⟨by decide, by decide⟩).mono ?_
  rintro e w4 ⟨rfl, hb⟩
  replace X := X.belowH hb
  replace R := R.belowH hb
  replace b := b.trans (hb.mono b.size)
  clear hb
  go_wp2_with fail
  refine (yplace_at E4.out (some ⟨w2.heap.size + 1, 0, none⟩) 2 2 w4 R (by omega)).mono ?_
  rintro e w5 ⟨rfl, hb⟩
  replace X := X.belowH hb
  replace R := R.belowH hb
  replace b := b.trans (hb.mono b.size)
  clear hb
  have x2 := X.at 2 rfl
  have x5 := X.at 5 rfl
  go_wp2_with (first
    | (go_at_call 21; refine (yup_at E5.out (some ⟨w2.heap.size + 1, 0, none⟩) 2 2 _ R (by omega)).mono ?_; rintro e w6 ⟨rfl, hb⟩; replace R := R.belowH hb; replace b := b.trans (hb.mono b.size); clear hb)
    | (go_at_call 20; refine (yall_at E6.out (some ⟨w2.heap.size + 1, 0, none⟩) 2 2 _ R (by omega) HV.out).mono ?_; rintro e w7 ⟨⟨A1, n1, c1, rfl, rfl, R1, hc1⟩, hb⟩; replace b := b.trans (hb.mono b.size); clear hb))
  go_ret
  exact ⟨rfl, b⟩
end Go.Proofs.Ytfgpncbcelafoaa
