/-
  No cell of these rows narrows 'for every input' (looked for: loops, veiled, ifaces, maps, wideKeys, modest, calm, conditions, laid).
  DERIVED. THE GIVEN ROWS OF THIS SEAT. 3 by the template 'for every input the law returns true; each argument reads behind the call as it read before'; 0 by the template 'total and deterministic' (their statements: YtfgpncbcelafoaaTotals.lean).
  GIVEN WITH THE SEED: the statements are not yours to turn. If you find one false, say at which input.
  Laid BY PROGRAM, IN A SANDBOX (cutbox-rows.mjs): the forced cells as the released guide's own fill.sh prints them over the translation 2e39b64fe63e1655… (all of the seat's roots in one cut). By AI agents, Wed Nov 11 2026. No macro, syntax, notation, axiom, sorry.
-/
import Derived.Test.YtfgpncbcelafoaaChecked
import GoSem.Claim
import GoSem.ClaimJoined
import GoSem.ClaimMapViews
import Derived.JoinedTies
import Derived.KernelRfl
namespace Go.Proofs.Ytfgpncbcelafoaa
/- THE CELL 'sum', in the pinned program and in every row, IS THE sha256 OF THE DUMP (.gsa) THAT YtfgpncbcelafoaaProg.lean LOADS. Nothing in Lean hashes anything: it is a label: what it is worth is what the hold of that sum in a sandbox is worth. -/
noncomputable def Try.pinned : Pinned := { name := "ytfgpncbcelafoaa", sum := "2e39b64fe63e1655b93c888c66cad47b5c3ac83cc9da132842b486a9d5f72e77", checked := Try.checked }
namespace Rows
def none {H : Type} : Left H := { results := [], args := [] }

/-- 'bellwetherlaw15.ServiceValues': WHATEVER THE INPUT: true; the input reads as it did. -/
def serviceValuesSpec : ChangeSpec := { name := "serviceValues", fn := fun _ => fun
  | [d1, d2] => { results := [.lit (.bool true)], args := [d1, d2] }
  | _ => none }
def serviceValuesRow : OpenClaim := { program := "ytfgpncbcelafoaa", sum := "2e39b64fe63e1655b93c888c66cad47b5c3ac83cc9da132842b486a9d5f72e77", func := "bellwether/bellwetherlaw15.ServiceValues", spec := "serviceValues", unfollowed := true, recurses := true, apart := false }
def ServiceValuesSaid : Prop := serviceValuesRow.holds Try.pinned (OpenSpec.ofChange serviceValuesSpec)

/-- ITS FALSE NEIGHBOUR: 'it returns false'. Refute it at one input. -/
def serviceValuesWrong : ChangeSpec := { name := "serviceValues", fn := fun _ => fun
  | [d1, d2] => { results := [.lit (.bool false)], args := [d1, d2] }
  | _ => none }
def ServiceValuesWrongFalsely : Prop := serviceValuesRow.holds Try.pinned (OpenSpec.ofChange serviceValuesWrong)

/-- 'bellwetherlaw15.ServiceBack': WHATEVER THE INPUT: true; the input reads as it did. -/
def serviceBackSpec : ChangeSpec := { name := "serviceBack", fn := fun _ => fun
  | [d1, d2] => { results := [.lit (.bool true)], args := [d1, d2] }
  | _ => none }
def serviceBackRow : OpenClaim := { program := "ytfgpncbcelafoaa", sum := "2e39b64fe63e1655b93c888c66cad47b5c3ac83cc9da132842b486a9d5f72e77", func := "bellwether/bellwetherlaw15.ServiceBack", spec := "serviceBack", unfollowed := true, recurses := true, apart := false }
def ServiceBackSaid : Prop := serviceBackRow.holds Try.pinned (OpenSpec.ofChange serviceBackSpec)

/-- ITS FALSE NEIGHBOUR: 'it returns false'. Refute it at one input. -/
def serviceBackWrong : ChangeSpec := { name := "serviceBack", fn := fun _ => fun
  | [d1, d2] => { results := [.lit (.bool false)], args := [d1, d2] }
  | _ => none }
def ServiceBackWrongFalsely : Prop := serviceBackRow.holds Try.pinned (OpenSpec.ofChange serviceBackWrong)

/-- 'bellwetherlaw15.ServicePlaces': WHATEVER THE INPUT: true; the input reads as it did. -/
def servicePlacesSpec : ChangeSpec := { name := "servicePlaces", fn := fun _ => fun
  | [d1, d2] => { results := [.lit (.bool true)], args := [d1, d2] }
  | _ => none }
def servicePlacesRow : OpenClaim := { program := "ytfgpncbcelafoaa", sum := "2e39b64fe63e1655b93c888c66cad47b5c3ac83cc9da132842b486a9d5f72e77", func := "bellwether/bellwetherlaw15.ServicePlaces", spec := "servicePlaces", unfollowed := true, recurses := true, apart := false }
def ServicePlacesSaid : Prop := servicePlacesRow.holds Try.pinned (OpenSpec.ofChange servicePlacesSpec)

/-- ITS FALSE NEIGHBOUR: 'it returns false'. Refute it at one input. -/
def servicePlacesWrong : ChangeSpec := { name := "servicePlaces", fn := fun _ => fun
  | [d1, d2] => { results := [.lit (.bool false)], args := [d1, d2] }
  | _ => none }
def ServicePlacesWrongFalsely : Prop := servicePlacesRow.holds Try.pinned (OpenSpec.ofChange servicePlacesWrong)

/- THE SECOND FORM. 'bulk': how many values and letters a reading holds, each counted each time it is reached (what is shared counts as often as it is met; a slice's spare places count too). A statement '..UptoSaid' is the law's where the arguments, and the package variables that the reading takes, are together of bulk at most 1048576: NARROWER than '..Said'. Prove '..Said' where nothing that the law and all that it calls make is longer than what came in: it says more and counts as full. Else prove '..UptoSaid'. A law counts once. -/
mutual
def uptoBulk {H : Type} : DataW H → Nat
  | .lit (.string bytes) => bytes.length + 1
  | .lit _ => 1
  | .nil => 1
  | .ptr d => uptoBulk d + 1
  | .slice elems spare => uptoBulkAll elems + uptoBulkAll spare + 1
  | .agg parts => uptoBulkAll parts + 1
  | .iface _ d => uptoBulk d + 1
  | .map entries => uptoBulkEntries entries + 1
  | .held _ => 1
def uptoBulkAll {H : Type} : List (DataW H) → Nat
  | [] => 0
  | d :: r => uptoBulk d + uptoBulkAll r
def uptoBulkEntries {H : Type} : List (Lit × DataW H) → Nat
  | [] => 0
  | x :: r => uptoBulkEntry x + uptoBulkEntries r
def uptoBulkEntry {H : Type} : Lit × DataW H → Nat
  | (.string bytes, d) => bytes.length + uptoBulk d + 1
  | (_, d) => uptoBulk d + 1
 end
def uptoSmall : (H : Type) → List (DataW H) → Bool := fun _ ds => decide (uptoBulkAll ds ≤ 1048576)
def OpenSpec.upto (s : _root_.Go.ChangeSpec) : _root_.Go.OpenSpec := { _root_.Go.OpenSpec.ofChange s with cond := some uptoSmall }

/-- 'bellwetherlaw15.ServiceValues', WHERE WHAT IT READS IS OF BULK AT MOST 1048576: true; the input reads as it did. -/
def serviceValuesUptoRow : OpenClaim := { program := "ytfgpncbcelafoaa", sum := "2e39b64fe63e1655b93c888c66cad47b5c3ac83cc9da132842b486a9d5f72e77", func := "bellwether/bellwetherlaw15.ServiceValues", spec := "serviceValues", unfollowed := true, recurses := true, apart := false, narrowed := true }
def ServiceValuesUptoSaid : Prop := serviceValuesUptoRow.holds Try.pinned (OpenSpec.upto serviceValuesSpec)

/-- 'bellwetherlaw15.ServiceBack', WHERE WHAT IT READS IS OF BULK AT MOST 1048576: true; the input reads as it did. -/
def serviceBackUptoRow : OpenClaim := { program := "ytfgpncbcelafoaa", sum := "2e39b64fe63e1655b93c888c66cad47b5c3ac83cc9da132842b486a9d5f72e77", func := "bellwether/bellwetherlaw15.ServiceBack", spec := "serviceBack", unfollowed := true, recurses := true, apart := false, narrowed := true }
def ServiceBackUptoSaid : Prop := serviceBackUptoRow.holds Try.pinned (OpenSpec.upto serviceBackSpec)

/-- 'bellwetherlaw15.ServicePlaces', WHERE WHAT IT READS IS OF BULK AT MOST 1048576: true; the input reads as it did. -/
def servicePlacesUptoRow : OpenClaim := { program := "ytfgpncbcelafoaa", sum := "2e39b64fe63e1655b93c888c66cad47b5c3ac83cc9da132842b486a9d5f72e77", func := "bellwether/bellwetherlaw15.ServicePlaces", spec := "servicePlaces", unfollowed := true, recurses := true, apart := false, narrowed := true }
def ServicePlacesUptoSaid : Prop := servicePlacesUptoRow.holds Try.pinned (OpenSpec.upto servicePlacesSpec)

end Rows
end Go.Proofs.Ytfgpncbcelafoaa
