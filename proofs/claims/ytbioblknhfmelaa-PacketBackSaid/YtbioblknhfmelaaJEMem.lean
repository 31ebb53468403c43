/- EMem (merged). -/
import Derived.Deep.Slices
import Derived.Deep.Strs
import Derived.Deep.Fields
import Derived.ChangeArms
import Derived.DataReads
import Derived.Lib.SmallJoins
import Derived.Test.YtbioblknhfmelaaJWords
import Derived.Test.YtbioblknhfmelaaJEMath
namespace Go.Proofs.Ytbioblknhfmelaa
open Go.RowKit Go.ChangeShapes Go.WideShapes Go.Joins Go.Deep

/-- an entry's cells -/
def ec (x : Ent) : List Value := [.int .i64 x.key, .int .i64 x.ver, .string (strB x.val)]
/-- a table's cells -/
def EC (l : List Ent) : List Value := l.flatMap ec
section
variable {H : Type} {enc : TypeId × Value → H} {P : Program} {W : World} {base fuel : Nat} {spare : Nat → Bool} {held : Bool}
end
end Go.Proofs.Ytbioblknhfmelaa

