/-
  DERIVED. GIVEN WITH THE SEED: THE CARDS: each row of YtemhpncmhdcheabDoorRows.lean that lists a variable, with what it lists TIED to the program's text (the seventh form; the later family's looks); each row that meets fmt, with fmt's text TOLD by the authors' own Lean function (tested against real Go, not proved from fmt's source: count such statements apart). THE CARD IS WHAT COUNTS. Prove the row's statement (the work); the ties are given (YtemhpncmhdcheabDoorTie.lean); close each card by the builder's one call (the guide's Derived/Test/ToyasCard.lean, 'card_holds'). Laid BY PROGRAM, IN A SANDBOX (cutbox-door.mjs). By AI agents, Wed Nov 11 2026. No macro, syntax, notation, axiom, sorry.
-/
import Derived.Test.YtemhpncmhdcheabDoorRows
import GoSem.ClaimSeven
namespace Go.Proofs.YtemhpncmhdcheabDoor
namespace Rows

/-- THE TIED CARD OF 'laws.FnTraceRoundTrip'. -/
def fnTraceRoundTripCard : Claim7 := { stood := { row := fnTraceRoundTripRow, standIns := [], harness := (true, "cb37557490a45fbf38269aa2e46458cfbc7b8c87a1bc8491749c933b022ab33d"), looks := true }, kinds := [], alts := [], laidByText := true, laidKinds := [.data, .data, .data, .data, .sentinel, .sentinel, .pinned], laidTests := true, laidLooks := .later }
def FnTraceRoundTripCardSaid : Prop := Claim7.holds Tryd.pinned (.plain (OpenSpec.ofChange fnTraceRoundTripSpec)) fnTraceRoundTripCard

/-- THE TIED CARD OF 'laws.FnTraceCanonical'. -/
def fnTraceCanonicalCard : Claim7 := { stood := { row := fnTraceCanonicalRow, standIns := [], harness := (true, "cb37557490a45fbf38269aa2e46458cfbc7b8c87a1bc8491749c933b022ab33d"), looks := true }, kinds := [], alts := [], laidByText := true, laidKinds := [.data, .data, .data, .data, .sentinel, .sentinel, .pinned], laidTests := true, laidLooks := .later }
def FnTraceCanonicalCardSaid : Prop := Claim7.holds Tryd.pinned (.plain (OpenSpec.ofChange fnTraceCanonicalSpec)) fnTraceCanonicalCard

/-- THE TIED CARD OF 'laws.FnTraceShort'. -/
def fnTraceShortCard : Claim7 := { stood := { row := fnTraceShortRow, standIns := [], harness := (true, "cb37557490a45fbf38269aa2e46458cfbc7b8c87a1bc8491749c933b022ab33d"), looks := true }, kinds := [], alts := [], laidByText := true, laidKinds := [.data, .data, .data], laidTests := true, laidLooks := .later }
def FnTraceShortCardSaid : Prop := Claim7.holds Tryd.pinned (.plain (OpenSpec.ofChange fnTraceShortSpec)) fnTraceShortCard

/-- THE TIED CARD OF 'laws.FnExactFormatTrace'. -/
def fnExactFormatTraceCard : Claim7 := { stood := { row := fnExactFormatTraceRow, standIns := [], harness := (true, "cb37557490a45fbf38269aa2e46458cfbc7b8c87a1bc8491749c933b022ab33d"), looks := true }, kinds := [], alts := [], laidByText := true, laidKinds := [.data, .data, .data], laidTests := true, laidLooks := .later }
def FnExactFormatTraceCardSaid : Prop := Claim7.holds Tryd.pinned (.plain (OpenSpec.ofChange fnExactFormatTraceSpec)) fnExactFormatTraceCard

/-- THE TIED CARD OF 'laws.FnExactParseTrace'. -/
def fnExactParseTraceCard : Claim7 := { stood := { row := fnExactParseTraceRow, standIns := [], harness := (true, "cb37557490a45fbf38269aa2e46458cfbc7b8c87a1bc8491749c933b022ab33d"), looks := true }, kinds := [], alts := [], laidByText := true, laidKinds := [.data, .data, .data, .data, .sentinel, .sentinel, .pinned], laidTests := true, laidLooks := .later }
def FnExactParseTraceCardSaid : Prop := Claim7.holds Tryd.pinned (.plain (OpenSpec.ofChange fnExactParseTraceSpec)) fnExactParseTraceCard

/-- THE SECOND FORM's CARD OF 'laws.FnTraceRoundTrip'. -/
def fnTraceRoundTripUptoCard : Claim7 := { stood := { row := fnTraceRoundTripUptoRow, standIns := [], harness := (true, "cb37557490a45fbf38269aa2e46458cfbc7b8c87a1bc8491749c933b022ab33d"), looks := true }, kinds := [], alts := [], laidByText := true, laidKinds := [.data, .data, .data, .data, .sentinel, .sentinel, .pinned], laidTests := true, laidLooks := .later }
def FnTraceRoundTripUptoCardSaid : Prop := Claim7.holds Tryd.pinned (.plain (OpenSpec.upto fnTraceRoundTripSpec)) fnTraceRoundTripUptoCard

/-- THE SECOND FORM's CARD OF 'laws.FnTraceCanonical'. -/
def fnTraceCanonicalUptoCard : Claim7 := { stood := { row := fnTraceCanonicalUptoRow, standIns := [], harness := (true, "cb37557490a45fbf38269aa2e46458cfbc7b8c87a1bc8491749c933b022ab33d"), looks := true }, kinds := [], alts := [], laidByText := true, laidKinds := [.data, .data, .data, .data, .sentinel, .sentinel, .pinned], laidTests := true, laidLooks := .later }
def FnTraceCanonicalUptoCardSaid : Prop := Claim7.holds Tryd.pinned (.plain (OpenSpec.upto fnTraceCanonicalSpec)) fnTraceCanonicalUptoCard

/-- THE SECOND FORM's CARD OF 'laws.FnTraceShort'. -/
def fnTraceShortUptoCard : Claim7 := { stood := { row := fnTraceShortUptoRow, standIns := [], harness := (true, "cb37557490a45fbf38269aa2e46458cfbc7b8c87a1bc8491749c933b022ab33d"), looks := true }, kinds := [], alts := [], laidByText := true, laidKinds := [.data, .data, .data], laidTests := true, laidLooks := .later }
def FnTraceShortUptoCardSaid : Prop := Claim7.holds Tryd.pinned (.plain (OpenSpec.upto fnTraceShortSpec)) fnTraceShortUptoCard

/-- THE SECOND FORM's CARD OF 'laws.FnExactFormatTrace'. -/
def fnExactFormatTraceUptoCard : Claim7 := { stood := { row := fnExactFormatTraceUptoRow, standIns := [], harness := (true, "cb37557490a45fbf38269aa2e46458cfbc7b8c87a1bc8491749c933b022ab33d"), looks := true }, kinds := [], alts := [], laidByText := true, laidKinds := [.data, .data, .data], laidTests := true, laidLooks := .later }
def FnExactFormatTraceUptoCardSaid : Prop := Claim7.holds Tryd.pinned (.plain (OpenSpec.upto fnExactFormatTraceSpec)) fnExactFormatTraceUptoCard

/-- THE SECOND FORM's CARD OF 'laws.FnExactParseTrace'. -/
def fnExactParseTraceUptoCard : Claim7 := { stood := { row := fnExactParseTraceUptoRow, standIns := [], harness := (true, "cb37557490a45fbf38269aa2e46458cfbc7b8c87a1bc8491749c933b022ab33d"), looks := true }, kinds := [], alts := [], laidByText := true, laidKinds := [.data, .data, .data, .data, .sentinel, .sentinel, .pinned], laidTests := true, laidLooks := .later }
def FnExactParseTraceUptoCardSaid : Prop := Claim7.holds Tryd.pinned (.plain (OpenSpec.upto fnExactParseTraceSpec)) fnExactParseTraceUptoCard
end Rows
end Go.Proofs.YtemhpncmhdcheabDoor
