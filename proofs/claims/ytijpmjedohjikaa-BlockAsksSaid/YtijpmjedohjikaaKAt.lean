/- Package block and the document's: contracts with the answer at hand; a disk's row and a box of three cells. -/
import Derived.Test.YtijpmjedohjikaaKCode
import Derived.Test.YtijpmjedohjikaaKWalk
import Derived.Test.YtijpmjedohjikaaKBox
namespace Go.Proofs.Ytijpmjedohjikaa
set_option linter.unusedVariables false
set_option linter.unusedSimpArgs false
open Go.RowKit

theorem kright_at {x : Dk} (A : Option Addr) (n c : Nat) {z : Bool} (e : decide (K.right x) = z) (w : World) (h : KRd w ⟨x, A, n, c⟩) :
    Calls Try.prog 22 #[.agg #[.slice A n c, .int .i64 x.fuse, .bool x.down]] w (BoolK z w) := by subst e; exact kright_any ⟨x, A, n, c⟩ w h
theorem kput_at {x : Dk} (A : Option Addr) (n c : Nat) (i : Int) (s : List UInt8) (hs : s.length = 64) {z : Dk × Int} (e : K.put x i s = z) (w : World) (h : KRd w ⟨x, A, n, c⟩) (hn : n ≤ 1000) (hf : x.fuse ≤ 9223372036854775807) :
    Calls Try.prog 10 #[.agg #[.slice A n c, .int .i64 x.fuse, .bool x.down], .int .i64 i, .agg (U s).toArray] w (DiskN z.1 z.2 (K.asked x i = 0) w) := by subst e; exact kput_any ⟨x, A, n, c⟩ i s hs w h hn hf
theorem kget_at {x : Dk} (A : Option Addr) (n c : Nat) (i : Int) {t : List UInt8} {er : Int} (e : K.asked x i = er) (e' : K.get x i = t) (w : World) (h : KRd w ⟨x, A, n, c⟩) :
    Calls Try.prog 12 #[.agg #[.slice A n c, .int .i64 x.fuse, .bool x.down], .int .i64 i] w (SecR t er w) := by subst e; subst e'; exact kget_any ⟨x, A, n, c⟩ i w h
theorem karm_at {x : Dk} (A : Option Addr) (n c : Nat) (m : Int) {z : Dk × Int} (e : K.arm x m = z) (w : World) (h : KRd w ⟨x, A, n, c⟩) (hn : n ≤ 1000) :
    Calls Try.prog 14 #[.agg #[.slice A n c, .int .i64 x.fuse, .bool x.down], .int .i64 m] w (DiskR z.1 z.2 w) := by subst e; exact karm_any ⟨x, A, n, c⟩ m w h hn
theorem kwake_at {x : Dk} (A : Option Addr) (n c : Nat) {z : Dk × Int} (e : K.wake x = z) (w : World) (h : KRd w ⟨x, A, n, c⟩) (hb : n * 64 ≤ 140737488355328 := by omega) :
    Calls Try.prog 19 #[.agg #[.slice A n c, .int .i64 x.fuse, .bool x.down]] w (DiskR z.1 z.2 w) := by subst e; exact kwake_any ⟨x, A, n, c⟩ w h hb
theorem ksame_at {x y : Dk} {z : Bool} (A A' : Option Addr) (n c n' c' : Nat) (e : decide (x = y) = z) (w : World) (h : KRd w ⟨x, A, n, c⟩) (h' : KRd w ⟨y, A', n', c'⟩) (hn : n ≤ 1000) :
    Calls Try.prog 21 #[.agg #[.slice A n c, .int .i64 x.fuse, .bool x.down], .agg #[.slice A' n' c', .int .i64 y.fuse, .bool y.down]] w (BoolK z w) := by subst e; exact ksame_any ⟨x, A, n, c⟩ ⟨y, A', n', c'⟩ w h h' hn
theorem knew_at {m : Int} {z : Dk × Int} (e : K.new m = z) (w : World) : Calls Try.prog 17 #[.int .i64 m] w (DiskR z.1 z.2 w) := by subst e; exact knew_any m w
theorem rkright_at {x : Dk} (A : Option Addr) (n c : Nat) {z : Bool} (e : decide (K.right x) = z) (w : World) (h : KRd w ⟨x, A, n, c⟩) :
    Calls Try.prog 23 #[.agg #[.slice A n c, .int .i64 x.fuse, .bool x.down]] w (BoolK z w) := by subst e; exact rkright_any ⟨x, A, n, c⟩ w h
theorem rkput_at {x : Dk} (A : Option Addr) (n c : Nat) (i : Int) (s : List UInt8) (hs : s.length = 64) {z : Dk × Int} (e : K.put x i s = z) (w : World) (h : KRd w ⟨x, A, n, c⟩) (hn : n ≤ 1000) (hf : x.fuse ≤ 9223372036854775807) :
    Calls Try.prog 11 #[.agg #[.slice A n c, .int .i64 x.fuse, .bool x.down], .int .i64 i, .agg (U s).toArray] w (DiskN z.1 z.2 (K.asked x i = 0) w) := by subst e; exact rkput_any ⟨x, A, n, c⟩ i s hs w h hn hf
theorem rkget_at {x : Dk} (A : Option Addr) (n c : Nat) (i : Int) {t : List UInt8} {er : Int} (e : K.asked x i = er) (e' : K.get x i = t) (w : World) (h : KRd w ⟨x, A, n, c⟩) :
    Calls Try.prog 13 #[.agg #[.slice A n c, .int .i64 x.fuse, .bool x.down], .int .i64 i] w (SecR t er w) := by subst e; subst e'; exact rkget_any ⟨x, A, n, c⟩ i w h
theorem rkarm_at {x : Dk} (A : Option Addr) (n c : Nat) (m : Int) {z : Dk × Int} (e : K.arm x m = z) (w : World) (h : KRd w ⟨x, A, n, c⟩) (hn : n ≤ 1000) :
    Calls Try.prog 15 #[.agg #[.slice A n c, .int .i64 x.fuse, .bool x.down], .int .i64 m] w (DiskR z.1 z.2 w) := by subst e; exact rkarm_any ⟨x, A, n, c⟩ m w h hn
theorem rkwake_at {x : Dk} (A : Option Addr) (n c : Nat) {z : Dk × Int} (e : K.wake x = z) (w : World) (h : KRd w ⟨x, A, n, c⟩) :
    Calls Try.prog 20 #[.agg #[.slice A n c, .int .i64 x.fuse, .bool x.down]] w (DiskR z.1 z.2 w) := by subst e; exact rkwake_any ⟨x, A, n, c⟩ w h
theorem rksame_at {x y : Dk} {z : Bool} (A A' : Option Addr) (n c n' c' : Nat) (e : decide (x = y) = z) (w : World) (h : KRd w ⟨x, A, n, c⟩) (h' : KRd w ⟨y, A', n', c'⟩) (hn : n ≤ 1000) :
    Calls Try.prog 16 #[.agg #[.slice A n c, .int .i64 x.fuse, .bool x.down], .agg #[.slice A' n' c', .int .i64 y.fuse, .bool y.down]] w (BoolK z w) := by subst e; exact rksame_any ⟨x, A, n, c⟩ ⟨y, A', n', c'⟩ w h h' hn
theorem rknew_at {m : Int} {z : Dk × Int} (e : K.new m = z) (w : World) : Calls Try.prog 18 #[.int .i64 m] w (DiskR z.1 z.2 w) := by subst e; exact rknew_any m w
theorem rkcopy_at {x : Dk} (A : Option Addr) (n c : Nat) (w : World) (h : KRd w ⟨x, A, n, c⟩) (hn : n ≤ 1000) : Calls Try.prog 9 #[.agg #[.slice A n c, .int .i64 x.fuse, .bool x.down]] w (CopyR ⟨x, A, n, c⟩ w) := rkcopy_any ⟨x, A, n, c⟩ w h hn
end Go.Proofs.Ytijpmjedohjikaa
