/-
  DERIVED. GIVEN WITH THE SEED: THE CARDS: each row of YtbioamglnndofaaDoorRows.lean that lists a variable, with what it lists TIED to the program's text (the seventh form; the later family's looks); each row that meets fmt, with fmt's text TOLD by the authors' own Lean function (tested against real Go, not proved from fmt's source: count such statements apart). THE CARD IS WHAT COUNTS. Prove the row's statement (the work); the ties are given (YtbioamglnndofaaDoorTie.lean); close each card by the builder's one call (the guide's Derived/Test/ToyasCard.lean, 'card_holds'). Laid BY PROGRAM, IN A SANDBOX (cutbox-door.mjs). By AI agents, Wed Nov 11 2026. No macro, syntax, notation, axiom, sorry.
-/
import Derived.Test.YtbioamglnndofaaDoorRows
import GoSem.ClaimSeven
namespace Go.Proofs.YtbioamglnndofaaDoor
namespace Rows

/-- THE TIED CARD OF 'geoproverlaw16.AstWraps'. -/
def astWrapsCard : Claim7 := { stood := { row := astWrapsRow, standIns := [], harness := (true, "6e85832c5ed3c8b4baca680d6dc5c2b3e7b3f782ec33f0c55eff54446a39a627"), looks := false }, kinds := [], alts := [], laidByText := true, laidKinds := [.data], laidTests := true, laidLooks := .later }
def AstWrapsCardSaid : Prop := Claim7.holds Tryd.pinned (.plain (OpenSpec.ofChange astWrapsSpec)) astWrapsCard

/-- THE SECOND FORM's CARD OF 'geoproverlaw16.AstWraps'. -/
def astWrapsUptoCard : Claim7 := { stood := { row := astWrapsUptoRow, standIns := [], harness := (true, "6e85832c5ed3c8b4baca680d6dc5c2b3e7b3f782ec33f0c55eff54446a39a627"), looks := false }, kinds := [], alts := [], laidByText := true, laidKinds := [.data], laidTests := true, laidLooks := .later }
def AstWrapsUptoCardSaid : Prop := Claim7.holds Tryd.pinned (.plain (OpenSpec.upto astWrapsSpec)) astWrapsUptoCard
end Rows
end Go.Proofs.YtbioamglnndofaaDoor
