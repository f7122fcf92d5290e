/-
  DERIVED. GIVEN WITH THE SEED: THE CARDS: each row of YtjajnhemgphefaaDoorRows.lean that lists a variable, with what it lists TIED to the program's text (the seventh form; the later family's looks); each row that meets fmt, with fmt's text TOLD by the authors' own Lean function (tested against real Go, not proved from fmt's source: count such statements apart). THE CARD IS WHAT COUNTS. Prove the row's statement (the work); the ties are given (YtjajnhemgphefaaDoorTie.lean); close each card by the builder's one call (the guide's Derived/Test/ToyasCard.lean, 'card_holds'). Laid BY PROGRAM, IN A SANDBOX (cutbox-door.mjs). By AI agents, Wed Nov 11 2026. No macro, syntax, notation, axiom, sorry.
-/
import Derived.Test.YtjajnhemgphefaaDoorRows
import GoSem.ClaimSeven
namespace Go.Proofs.YtjajnhemgphefaaDoor
namespace Rows

/-- THE TIED CARD OF 'ebbkeep.Spelt'. -/
def speltCard : Claim7 := { stood := { row := speltRow, standIns := [], harness := (true, "bd282a9ec678de0c0544a1ca6b20065dcc5abf6c8d360de82941cc7a005b9560"), looks := false }, kinds := [], alts := [], laidByText := true, laidKinds := [.data, .data, .data, .data, .pinned], laidTests := true, laidLooks := .later }
def SpeltCardSaid : Prop := Claim7.holds Tryd.pinned (.plain (OpenSpec.ofChange speltSpec)) speltCard

/-- THE SECOND FORM's CARD OF 'ebbkeep.Spelt'. -/
def speltUptoCard : Claim7 := { stood := { row := speltUptoRow, standIns := [], harness := (true, "bd282a9ec678de0c0544a1ca6b20065dcc5abf6c8d360de82941cc7a005b9560"), looks := false }, kinds := [], alts := [], laidByText := true, laidKinds := [.data, .data, .data, .data, .pinned], laidTests := true, laidLooks := .later }
def SpeltUptoCardSaid : Prop := Claim7.holds Tryd.pinned (.plain (OpenSpec.upto speltSpec)) speltUptoCard
end Rows
end Go.Proofs.YtjajnhemgphefaaDoor
