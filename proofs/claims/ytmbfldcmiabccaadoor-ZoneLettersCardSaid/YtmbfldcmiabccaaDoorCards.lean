/-
  DERIVED. GIVEN WITH THE SEED: THE CARDS: each row of YtmbfldcmiabccaaDoorRows.lean that lists a variable, with what it lists TIED to the program's text (the seventh form; the later family's looks); each row that meets fmt, with fmt's text TOLD by the authors' own Lean function (tested against real Go, not proved from fmt's source: count such statements apart). THE CARD IS WHAT COUNTS. Prove the row's statement (the work); the ties are given (YtmbfldcmiabccaaDoorTie.lean); close each card by the builder's one call (the guide's Derived/Test/ToyasCard.lean, 'card_holds'). Laid BY PROGRAM, IN A SANDBOX (cutbox-door.mjs). By AI agents, Wed Nov 11 2026. No macro, syntax, notation, axiom, sorry.
-/
import Derived.Test.YtmbfldcmiabccaaDoorRows
import GoSem.ClaimSeven
namespace Go.Proofs.YtmbfldcmiabccaaDoor
namespace Rows

/-- THE TIED CARD OF 'bellwetherlaw18.ZoneLiving'. -/
def zoneLivingCard : Claim7 := { stood := { row := zoneLivingRow, standIns := [], harness := (true, "0b159e486c3c2184b34bae279ae2e47ea165899cfcfb36637137ff2578186f97"), looks := false }, kinds := [], alts := [], laidByText := true, laidKinds := [.data, .data, .data], laidTests := true, laidLooks := .later }
def ZoneLivingCardSaid : Prop := Claim7.holds Tryd.pinned (.plain (OpenSpec.ofChange zoneLivingSpec)) zoneLivingCard

/-- THE TIED CARD OF 'bellwetherlaw18.ZoneLetters'. -/
def zoneLettersCard : Claim7 := { stood := { row := zoneLettersRow, standIns := [], harness := (true, "0b159e486c3c2184b34bae279ae2e47ea165899cfcfb36637137ff2578186f97"), looks := false }, kinds := [], alts := [], laidByText := true, laidKinds := [.data, .data, .data], laidTests := true, laidLooks := .later }
def ZoneLettersCardSaid : Prop := Claim7.holds Tryd.pinned (.plain (OpenSpec.ofChange zoneLettersSpec)) zoneLettersCard

/-- THE TIED CARD OF 'bellwetherlaw18.ZoneHosts'. -/
def zoneHostsCard : Claim7 := { stood := { row := zoneHostsRow, standIns := [], harness := (true, "0b159e486c3c2184b34bae279ae2e47ea165899cfcfb36637137ff2578186f97"), looks := false }, kinds := [], alts := [], laidByText := true, laidKinds := [.data, .data, .data], laidTests := true, laidLooks := .later }
def ZoneHostsCardSaid : Prop := Claim7.holds Tryd.pinned (.plain (OpenSpec.ofChange zoneHostsSpec)) zoneHostsCard

/-- THE TIED CARD OF 'bellwetherlaw18.ZoneApex'. -/
def zoneApexCard : Claim7 := { stood := { row := zoneApexRow, standIns := [], harness := (true, "0b159e486c3c2184b34bae279ae2e47ea165899cfcfb36637137ff2578186f97"), looks := false }, kinds := [], alts := [], laidByText := true, laidKinds := [.data, .data, .data], laidTests := true, laidLooks := .later }
def ZoneApexCardSaid : Prop := Claim7.holds Tryd.pinned (.plain (OpenSpec.ofChange zoneApexSpec)) zoneApexCard

/-- THE SECOND FORM's CARD OF 'bellwetherlaw18.ZoneLiving'. -/
def zoneLivingUptoCard : Claim7 := { stood := { row := zoneLivingUptoRow, standIns := [], harness := (true, "0b159e486c3c2184b34bae279ae2e47ea165899cfcfb36637137ff2578186f97"), looks := false }, kinds := [], alts := [], laidByText := true, laidKinds := [.data, .data, .data], laidTests := true, laidLooks := .later }
def ZoneLivingUptoCardSaid : Prop := Claim7.holds Tryd.pinned (.plain (OpenSpec.upto zoneLivingSpec)) zoneLivingUptoCard

/-- THE SECOND FORM's CARD OF 'bellwetherlaw18.ZoneLetters'. -/
def zoneLettersUptoCard : Claim7 := { stood := { row := zoneLettersUptoRow, standIns := [], harness := (true, "0b159e486c3c2184b34bae279ae2e47ea165899cfcfb36637137ff2578186f97"), looks := false }, kinds := [], alts := [], laidByText := true, laidKinds := [.data, .data, .data], laidTests := true, laidLooks := .later }
def ZoneLettersUptoCardSaid : Prop := Claim7.holds Tryd.pinned (.plain (OpenSpec.upto zoneLettersSpec)) zoneLettersUptoCard

/-- THE SECOND FORM's CARD OF 'bellwetherlaw18.ZoneHosts'. -/
def zoneHostsUptoCard : Claim7 := { stood := { row := zoneHostsUptoRow, standIns := [], harness := (true, "0b159e486c3c2184b34bae279ae2e47ea165899cfcfb36637137ff2578186f97"), looks := false }, kinds := [], alts := [], laidByText := true, laidKinds := [.data, .data, .data], laidTests := true, laidLooks := .later }
def ZoneHostsUptoCardSaid : Prop := Claim7.holds Tryd.pinned (.plain (OpenSpec.upto zoneHostsSpec)) zoneHostsUptoCard

/-- THE SECOND FORM's CARD OF 'bellwetherlaw18.ZoneApex'. -/
def zoneApexUptoCard : Claim7 := { stood := { row := zoneApexUptoRow, standIns := [], harness := (true, "0b159e486c3c2184b34bae279ae2e47ea165899cfcfb36637137ff2578186f97"), looks := false }, kinds := [], alts := [], laidByText := true, laidKinds := [.data, .data, .data], laidTests := true, laidLooks := .later }
def ZoneApexUptoCardSaid : Prop := Claim7.holds Tryd.pinned (.plain (OpenSpec.upto zoneApexSpec)) zoneApexUptoCard
end Rows
end Go.Proofs.YtmbfldcmiabccaaDoor
