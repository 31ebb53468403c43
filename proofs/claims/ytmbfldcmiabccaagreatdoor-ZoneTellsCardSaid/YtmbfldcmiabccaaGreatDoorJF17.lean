/- TCode1 TCode2 TCode3 VC1 VC2 VC3 (merged). -/
import Derived.Shelf.Abstract
import Derived.Test.YtmbfldcmiabccaaGreatDoorJF02
import Derived.Test.YtmbfldcmiabccaaGreatDoorJF04
import Derived.Test.YtmbfldcmiabccaaGreatDoorJF11
namespace Go.Proofs.YtmbfldcmiabccaaGreatDoor
set_option linter.unusedVariables false
set_option linter.unusedSimpArgs false
open Go.RowKit

end Go.Proofs.YtmbfldcmiabccaaGreatDoor

namespace Go.Proofs.YtmbfldcmiabccaaGreatDoor
set_option linter.unusedVariables false
set_option linter.unusedSimpArgs false
open Go.RowKit

end Go.Proofs.YtmbfldcmiabccaaGreatDoor

namespace Go.Proofs.YtmbfldcmiabccaaGreatDoor
set_option linter.unusedVariables false
set_option linter.unusedSimpArgs false
open Go.RowKit

end Go.Proofs.YtmbfldcmiabccaaGreatDoor

namespace Go.Proofs.YtmbfldcmiabccaaGreatDoor
set_option linter.unusedVariables false
set_option linter.unusedSimpArgs false
open Go.RowKit

/-- an endpoint's state as a value -/
def nv (x : Nv) : Value := .agg #[.int .i64 x.node, .int .i64 x.v.s.gen, .int .i64 x.v.s.beat, .slice x.v.A x.v.n x.v.c]
end Go.Proofs.YtmbfldcmiabccaaGreatDoor

namespace Go.Proofs.YtmbfldcmiabccaaGreatDoor
set_option linter.unusedVariables false
set_option linter.unusedSimpArgs false
open Go.RowKit

theorem VOwn.len {base : Nat} {w : World} {U : Vw} (h : VOwn base w U) : U.l.length = U.n := h.vrd.len
theorem VOwn.alloc {base : Nat} {w : World} {U : Vw} (h : VOwn base w U) (o : Obj) : VOwn base (w.alloc o) U := h.below ((Below.refl _ _).alloc (Nat.le_refl _) _)
theorem VOwn.nil (base : Nat) (w : World) : VOwn base w ⟨[], none, 0, 0⟩ := ⟨World.ownsRow_nil _ _ _ _, by simp⟩
end Go.Proofs.YtmbfldcmiabccaaGreatDoor

namespace Go.Proofs.YtmbfldcmiabccaaGreatDoor
set_option linter.unusedVariables false
set_option linter.unusedSimpArgs false
open Go.RowKit

end Go.Proofs.YtmbfldcmiabccaaGreatDoor

