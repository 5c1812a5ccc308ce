/-
  DERIVED. GIVEN WITH THE SEED: THE CARDS: each row of YtijoadkjkbkjgaaDoorRows.lean that lists a variable, with what it lists TIED to the program's text (the seventh form; the later family's looks); each row that meets fmt, with fmt's text TOLD by the authors' own Lean function (tested against real Go, not proved from fmt's source: count such statements apart). THE CARD IS WHAT COUNTS. Prove the row's statement (the work); the ties are given (YtijoadkjkbkjgaaDoorTie.lean); close each card by the builder's one call (the guide's Derived/Test/ToyasCard.lean, 'card_holds'). Laid BY PROGRAM, IN A SANDBOX (cutbox-door.mjs). By AI agents, Wed Nov 11 2026. No macro, syntax, notation, axiom, sorry.
-/
import Derived.Test.YtijoadkjkbkjgaaDoorRows
import GoSem.ClaimSeven
namespace Go.Proofs.YtijoadkjkbkjgaaDoor
namespace Rows

/-- THE TIED CARD OF 'sacristanlaw07.ScopeFree'. -/
def scopeFreeCard : Claim7 := { stood := { row := scopeFreeRow, standIns := [], harness := (true, "a36e8c8f27804b21aeeab19abfaa47d36a599f0c231c51fffc14b1676ba54781"), looks := false }, kinds := [], alts := [], laidByText := true, laidKinds := [.data], laidTests := true, laidLooks := .later }
def ScopeFreeCardSaid : Prop := Claim7.holds Tryd.pinned (.plain (OpenSpec.ofChange scopeFreeSpec)) scopeFreeCard

/-- THE TIED CARD OF 'sacristanlaw07.ScopeBinds'. -/
def scopeBindsCard : Claim7 := { stood := { row := scopeBindsRow, standIns := [], harness := (true, "a36e8c8f27804b21aeeab19abfaa47d36a599f0c231c51fffc14b1676ba54781"), looks := false }, kinds := [], alts := [], laidByText := true, laidKinds := [.data], laidTests := true, laidLooks := .later }
def ScopeBindsCardSaid : Prop := Claim7.holds Tryd.pinned (.plain (OpenSpec.ofChange scopeBindsSpec)) scopeBindsCard

/-- THE TIED CARD OF 'sacristanlaw07.ScopeParts'. -/
def scopePartsCard : Claim7 := { stood := { row := scopePartsRow, standIns := [], harness := (true, "a36e8c8f27804b21aeeab19abfaa47d36a599f0c231c51fffc14b1676ba54781"), looks := false }, kinds := [], alts := [], laidByText := true, laidKinds := [.data], laidTests := true, laidLooks := .later }
def ScopePartsCardSaid : Prop := Claim7.holds Tryd.pinned (.plain (OpenSpec.ofChange scopePartsSpec)) scopePartsCard

/-- THE TIED CARD OF 'sacristanlaw07.ScopeLets'. -/
def scopeLetsCard : Claim7 := { stood := { row := scopeLetsRow, standIns := [], harness := (true, "a36e8c8f27804b21aeeab19abfaa47d36a599f0c231c51fffc14b1676ba54781"), looks := false }, kinds := [], alts := [], laidByText := true, laidKinds := [.data], laidTests := true, laidLooks := .later }
def ScopeLetsCardSaid : Prop := Claim7.holds Tryd.pinned (.plain (OpenSpec.ofChange scopeLetsSpec)) scopeLetsCard

/-- THE SECOND FORM's CARD OF 'sacristanlaw07.ScopeFree'. -/
def scopeFreeUptoCard : Claim7 := { stood := { row := scopeFreeUptoRow, standIns := [], harness := (true, "a36e8c8f27804b21aeeab19abfaa47d36a599f0c231c51fffc14b1676ba54781"), looks := false }, kinds := [], alts := [], laidByText := true, laidKinds := [.data], laidTests := true, laidLooks := .later }
def ScopeFreeUptoCardSaid : Prop := Claim7.holds Tryd.pinned (.plain (OpenSpec.upto scopeFreeSpec)) scopeFreeUptoCard

/-- THE SECOND FORM's CARD OF 'sacristanlaw07.ScopeBinds'. -/
def scopeBindsUptoCard : Claim7 := { stood := { row := scopeBindsUptoRow, standIns := [], harness := (true, "a36e8c8f27804b21aeeab19abfaa47d36a599f0c231c51fffc14b1676ba54781"), looks := false }, kinds := [], alts := [], laidByText := true, laidKinds := [.data], laidTests := true, laidLooks := .later }
def ScopeBindsUptoCardSaid : Prop := Claim7.holds Tryd.pinned (.plain (OpenSpec.upto scopeBindsSpec)) scopeBindsUptoCard

/-- THE SECOND FORM's CARD OF 'sacristanlaw07.ScopeParts'. -/
def scopePartsUptoCard : Claim7 := { stood := { row := scopePartsUptoRow, standIns := [], harness := (true, "a36e8c8f27804b21aeeab19abfaa47d36a599f0c231c51fffc14b1676ba54781"), looks := false }, kinds := [], alts := [], laidByText := true, laidKinds := [.data], laidTests := true, laidLooks := .later }
def ScopePartsUptoCardSaid : Prop := Claim7.holds Tryd.pinned (.plain (OpenSpec.upto scopePartsSpec)) scopePartsUptoCard

/-- THE SECOND FORM's CARD OF 'sacristanlaw07.ScopeLets'. -/
def scopeLetsUptoCard : Claim7 := { stood := { row := scopeLetsUptoRow, standIns := [], harness := (true, "a36e8c8f27804b21aeeab19abfaa47d36a599f0c231c51fffc14b1676ba54781"), looks := false }, kinds := [], alts := [], laidByText := true, laidKinds := [.data], laidTests := true, laidLooks := .later }
def ScopeLetsUptoCardSaid : Prop := Claim7.holds Tryd.pinned (.plain (OpenSpec.upto scopeLetsSpec)) scopeLetsUptoCard
end Rows
end Go.Proofs.YtijoadkjkbkjgaaDoor
