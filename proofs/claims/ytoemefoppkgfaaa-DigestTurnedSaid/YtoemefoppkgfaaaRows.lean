/-
  No cell of these rows narrows 'for every input' (looked for: loops, veiled, ifaces, maps, wideKeys, modest, calm, conditions, laid).
  DERIVED. THE GIVEN ROWS OF THIS SEAT. 3 by the template 'for every input the law returns true; each argument reads behind the call as it read before'; 0 by the template 'total and deterministic' (their statements: YtoemefoppkgfaaaTotals.lean).
  GIVEN WITH THE SEED: the statements are not yours to turn. If you find one false, say at which input.
  Laid BY PROGRAM, IN A SANDBOX (cutbox-rows.mjs): the forced cells as the released guide's own fill.sh prints them over the translation 5568a37486b29e6f… (all of the seat's roots in one cut). By AI agents, Wed Nov 11 2026. No macro, syntax, notation, axiom, sorry.
-/
import Derived.Test.YtoemefoppkgfaaaChecked
import GoSem.Claim
import GoSem.ClaimJoined
import GoSem.ClaimMapViews
import Derived.JoinedTies
import Derived.KernelRfl
namespace Go.Proofs.Ytoemefoppkgfaaa
/- THE CELL 'sum', in the pinned program and in every row, IS THE sha256 OF THE DUMP (.gsa) THAT YtoemefoppkgfaaaProg.lean LOADS. Nothing in Lean hashes anything: it is a label: what it is worth is what the hold of that sum in a sandbox is worth. -/
noncomputable def Try.pinned : Pinned := { name := "ytoemefoppkgfaaa", sum := "5568a37486b29e6fed4d01e0d910c6ec16a925f5a25d2882bcbb62f363479b8a", checked := Try.checked }
namespace Rows
def none {H : Type} : Left H := { results := [], args := [] }

/-- 'bellwetherlaw07.DigestCompares': WHATEVER THE INPUT: true; the input reads as it did. -/
def digestComparesSpec : ChangeSpec := { name := "digestCompares", fn := fun _ => fun
  | [d1, d2, d3] => { results := [.lit (.bool true)], args := [d1, d2, d3] }
  | _ => none }
def digestComparesRow : OpenClaim := { program := "ytoemefoppkgfaaa", sum := "5568a37486b29e6fed4d01e0d910c6ec16a925f5a25d2882bcbb62f363479b8a", func := "bellwether/bellwetherlaw07.DigestCompares", spec := "digestCompares", unfollowed := true, recurses := true, apart := false }
def DigestComparesSaid : Prop := digestComparesRow.holds Try.pinned (OpenSpec.ofChange digestComparesSpec)

/-- ITS FALSE NEIGHBOUR: 'it returns false'. Refute it at one input. -/
def digestComparesWrong : ChangeSpec := { name := "digestCompares", fn := fun _ => fun
  | [d1, d2, d3] => { results := [.lit (.bool false)], args := [d1, d2, d3] }
  | _ => none }
def DigestComparesWrongFalsely : Prop := digestComparesRow.holds Try.pinned (OpenSpec.ofChange digestComparesWrong)

/-- 'bellwetherlaw07.DigestTurned': WHATEVER THE INPUT: true; the input reads as it did. -/
def digestTurnedSpec : ChangeSpec := { name := "digestTurned", fn := fun _ => fun
  | [d1, d2] => { results := [.lit (.bool true)], args := [d1, d2] }
  | _ => none }
def digestTurnedRow : OpenClaim := { program := "ytoemefoppkgfaaa", sum := "5568a37486b29e6fed4d01e0d910c6ec16a925f5a25d2882bcbb62f363479b8a", func := "bellwether/bellwetherlaw07.DigestTurned", spec := "digestTurned", unfollowed := true, recurses := true, apart := false }
def DigestTurnedSaid : Prop := digestTurnedRow.holds Try.pinned (OpenSpec.ofChange digestTurnedSpec)

/-- ITS FALSE NEIGHBOUR: 'it returns false'. Refute it at one input. -/
def digestTurnedWrong : ChangeSpec := { name := "digestTurned", fn := fun _ => fun
  | [d1, d2] => { results := [.lit (.bool false)], args := [d1, d2] }
  | _ => none }
def DigestTurnedWrongFalsely : Prop := digestTurnedRow.holds Try.pinned (OpenSpec.ofChange digestTurnedWrong)

/-- 'bellwetherlaw07.DigestEnds': WHATEVER THE INPUT: true; the input reads as it did. -/
def digestEndsSpec : ChangeSpec := { name := "digestEnds", fn := fun _ => fun
  | [d1, d2] => { results := [.lit (.bool true)], args := [d1, d2] }
  | _ => none }
def digestEndsRow : OpenClaim := { program := "ytoemefoppkgfaaa", sum := "5568a37486b29e6fed4d01e0d910c6ec16a925f5a25d2882bcbb62f363479b8a", func := "bellwether/bellwetherlaw07.DigestEnds", spec := "digestEnds", unfollowed := true, recurses := true, apart := false }
def DigestEndsSaid : Prop := digestEndsRow.holds Try.pinned (OpenSpec.ofChange digestEndsSpec)

/-- ITS FALSE NEIGHBOUR: 'it returns false'. Refute it at one input. -/
def digestEndsWrong : ChangeSpec := { name := "digestEnds", fn := fun _ => fun
  | [d1, d2] => { results := [.lit (.bool false)], args := [d1, d2] }
  | _ => none }
def DigestEndsWrongFalsely : Prop := digestEndsRow.holds Try.pinned (OpenSpec.ofChange digestEndsWrong)

/- THE SECOND FORM. 'bulk': how many values and letters a reading holds, each counted each time it is reached (what is shared counts as often as it is met; a slice's spare places count too). A statement '..UptoSaid' is the law's where the arguments, and the package variables that the reading takes, are together of bulk at most 1048576: NARROWER than '..Said'. Prove '..Said' where nothing that the law and all that it calls make is longer than what came in: it says more and counts as full. Else prove '..UptoSaid'. A law counts once. -/
mutual
def uptoBulk {H : Type} : DataW H → Nat
  | .lit (.string bytes) => bytes.length + 1
  | .lit _ => 1
  | .nil => 1
  | .ptr d => uptoBulk d + 1
  | .slice elems spare => uptoBulkAll elems + uptoBulkAll spare + 1
  | .agg parts => uptoBulkAll parts + 1
  | .iface _ d => uptoBulk d + 1
  | .map entries => uptoBulkEntries entries + 1
  | .held _ => 1
def uptoBulkAll {H : Type} : List (DataW H) → Nat
  | [] => 0
  | d :: r => uptoBulk d + uptoBulkAll r
def uptoBulkEntries {H : Type} : List (Lit × DataW H) → Nat
  | [] => 0
  | x :: r => uptoBulkEntry x + uptoBulkEntries r
def uptoBulkEntry {H : Type} : Lit × DataW H → Nat
  | (.string bytes, d) => bytes.length + uptoBulk d + 1
  | (_, d) => uptoBulk d + 1
 end
def uptoSmall : (H : Type) → List (DataW H) → Bool := fun _ ds => decide (uptoBulkAll ds ≤ 1048576)
def OpenSpec.upto (s : _root_.Go.ChangeSpec) : _root_.Go.OpenSpec := { _root_.Go.OpenSpec.ofChange s with cond := some uptoSmall }

/-- 'bellwetherlaw07.DigestCompares', WHERE WHAT IT READS IS OF BULK AT MOST 1048576: true; the input reads as it did. -/
def digestComparesUptoRow : OpenClaim := { program := "ytoemefoppkgfaaa", sum := "5568a37486b29e6fed4d01e0d910c6ec16a925f5a25d2882bcbb62f363479b8a", func := "bellwether/bellwetherlaw07.DigestCompares", spec := "digestCompares", unfollowed := true, recurses := true, apart := false, narrowed := true }
def DigestComparesUptoSaid : Prop := digestComparesUptoRow.holds Try.pinned (OpenSpec.upto digestComparesSpec)

/-- 'bellwetherlaw07.DigestTurned', WHERE WHAT IT READS IS OF BULK AT MOST 1048576: true; the input reads as it did. -/
def digestTurnedUptoRow : OpenClaim := { program := "ytoemefoppkgfaaa", sum := "5568a37486b29e6fed4d01e0d910c6ec16a925f5a25d2882bcbb62f363479b8a", func := "bellwether/bellwetherlaw07.DigestTurned", spec := "digestTurned", unfollowed := true, recurses := true, apart := false, narrowed := true }
def DigestTurnedUptoSaid : Prop := digestTurnedUptoRow.holds Try.pinned (OpenSpec.upto digestTurnedSpec)

/-- 'bellwetherlaw07.DigestEnds', WHERE WHAT IT READS IS OF BULK AT MOST 1048576: true; the input reads as it did. -/
def digestEndsUptoRow : OpenClaim := { program := "ytoemefoppkgfaaa", sum := "5568a37486b29e6fed4d01e0d910c6ec16a925f5a25d2882bcbb62f363479b8a", func := "bellwether/bellwetherlaw07.DigestEnds", spec := "digestEnds", unfollowed := true, recurses := true, apart := false, narrowed := true }
def DigestEndsUptoSaid : Prop := digestEndsUptoRow.holds Try.pinned (OpenSpec.upto digestEndsSpec)

end Rows
end Go.Proofs.Ytoemefoppkgfaaa
