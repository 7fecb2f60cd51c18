/-
  No cell of these rows narrows 'for every input' (looked for: loops, veiled, ifaces, maps, wideKeys, modest, calm, conditions, laid).
  DERIVED. THE GIVEN ROWS OF THIS SEAT. 7 by the template 'for every input the law returns true; each argument reads behind the call as it read before'; 0 by the template 'total and deterministic' (their statements: YtcmbdnkfihanmaaTotals.lean).
  GIVEN WITH THE SEED: the statements are not yours to turn. If you find one false, say at which input.
  Laid BY PROGRAM, IN A SANDBOX (cutbox-rows.mjs): the forced cells as the released guide's own fill.sh prints them over the translation 3b1f389c445aa5ad… (all of the seat's roots in one cut). By AI agents, Wed Nov 11 2026. No macro, syntax, notation, axiom, sorry.
-/
import Derived.Test.YtcmbdnkfihanmaaChecked
import GoSem.Claim
import GoSem.ClaimJoined
import GoSem.ClaimMapViews
import Derived.JoinedTies
import Derived.KernelRfl
namespace Go.Proofs.Ytcmbdnkfihanmaa
/- THE CELL 'sum', in the pinned program and in every row, IS THE sha256 OF THE DUMP (.gsa) THAT YtcmbdnkfihanmaaProg.lean LOADS. Nothing in Lean hashes anything: it is a label: what it is worth is what the hold of that sum in a sandbox is worth. -/
noncomputable def Try.pinned : Pinned := { name := "ytcmbdnkfihanmaa", sum := "3b1f389c445aa5ad6bc96c039918c5eefb9e238cebde7c9100c0dc6c46de3c78", checked := Try.checked }
namespace Rows
def none {H : Type} : Left H := { results := [], args := [] }

/-- 'geoproverlaw02.IntegerRing': WHATEVER THE INPUT: true; the input reads as it did. -/
def integerRingSpec : ChangeSpec := { name := "integerRing", fn := fun _ => fun
  | [d1, d2, d3] => { results := [.lit (.bool true)], args := [d1, d2, d3] }
  | _ => none }
def integerRingRow : OpenClaim := { program := "ytcmbdnkfihanmaa", sum := "3b1f389c445aa5ad6bc96c039918c5eefb9e238cebde7c9100c0dc6c46de3c78", func := "geoprover/geoproverlaw02.IntegerRing", spec := "integerRing", inPlace := ["math/bits.Add64", "math/bits.Sub64"], unfollowed := true, recurses := true, named := ["math/bits.divideError", "math/bits.overflowError"], apart := false }
def IntegerRingSaid : Prop := integerRingRow.holds Try.pinned (OpenSpec.ofChange integerRingSpec)

/-- ITS FALSE NEIGHBOUR: 'it returns false'. Refute it at one input. -/
def integerRingWrong : ChangeSpec := { name := "integerRing", fn := fun _ => fun
  | [d1, d2, d3] => { results := [.lit (.bool false)], args := [d1, d2, d3] }
  | _ => none }
def IntegerRingWrongFalsely : Prop := integerRingRow.holds Try.pinned (OpenSpec.ofChange integerRingWrong)

/-- 'geoproverlaw05.MonomialForms': WHATEVER THE INPUT: true; the input reads as it did. -/
def monomialFormsSpec : ChangeSpec := { name := "monomialForms", fn := fun _ => fun
  | [d] => { results := [.lit (.bool true)], args := [d] }
  | _ => none }
def monomialFormsRow : OpenClaim := { program := "ytcmbdnkfihanmaa", sum := "3b1f389c445aa5ad6bc96c039918c5eefb9e238cebde7c9100c0dc6c46de3c78", func := "geoprover/geoproverlaw05.MonomialForms", spec := "monomialForms", unfollowed := true, recurses := true, apart := false }
def MonomialFormsSaid : Prop := monomialFormsRow.holds Try.pinned (OpenSpec.ofChange monomialFormsSpec)

/-- ITS FALSE NEIGHBOUR: 'it returns false'. Refute it at one input. -/
def monomialFormsWrong : ChangeSpec := { name := "monomialForms", fn := fun _ => fun
  | [d] => { results := [.lit (.bool false)], args := [d] }
  | _ => none }
def MonomialFormsWrongFalsely : Prop := monomialFormsRow.holds Try.pinned (OpenSpec.ofChange monomialFormsWrong)

/-- 'geoproverlaw05.MonomialParts': WHATEVER THE INPUT: true; the input reads as it did. -/
def monomialPartsSpec : ChangeSpec := { name := "monomialParts", fn := fun _ => fun
  | [d1, d2] => { results := [.lit (.bool true)], args := [d1, d2] }
  | _ => none }
def monomialPartsRow : OpenClaim := { program := "ytcmbdnkfihanmaa", sum := "3b1f389c445aa5ad6bc96c039918c5eefb9e238cebde7c9100c0dc6c46de3c78", func := "geoprover/geoproverlaw05.MonomialParts", spec := "monomialParts", unfollowed := true, recurses := true, apart := false }
def MonomialPartsSaid : Prop := monomialPartsRow.holds Try.pinned (OpenSpec.ofChange monomialPartsSpec)

/-- ITS FALSE NEIGHBOUR: 'it returns false'. Refute it at one input. -/
def monomialPartsWrong : ChangeSpec := { name := "monomialParts", fn := fun _ => fun
  | [d1, d2] => { results := [.lit (.bool false)], args := [d1, d2] }
  | _ => none }
def MonomialPartsWrongFalsely : Prop := monomialPartsRow.holds Try.pinned (OpenSpec.ofChange monomialPartsWrong)

/-- 'geoproverlaw05.MonomialProducts': WHATEVER THE INPUT: true; the input reads as it did. -/
def monomialProductsSpec : ChangeSpec := { name := "monomialProducts", fn := fun _ => fun
  | [d1, d2] => { results := [.lit (.bool true)], args := [d1, d2] }
  | _ => none }
def monomialProductsRow : OpenClaim := { program := "ytcmbdnkfihanmaa", sum := "3b1f389c445aa5ad6bc96c039918c5eefb9e238cebde7c9100c0dc6c46de3c78", func := "geoprover/geoproverlaw05.MonomialProducts", spec := "monomialProducts", unfollowed := true, recurses := true, apart := false }
def MonomialProductsSaid : Prop := monomialProductsRow.holds Try.pinned (OpenSpec.ofChange monomialProductsSpec)

/-- ITS FALSE NEIGHBOUR: 'it returns false'. Refute it at one input. -/
def monomialProductsWrong : ChangeSpec := { name := "monomialProducts", fn := fun _ => fun
  | [d1, d2] => { results := [.lit (.bool false)], args := [d1, d2] }
  | _ => none }
def MonomialProductsWrongFalsely : Prop := monomialProductsRow.holds Try.pinned (OpenSpec.ofChange monomialProductsWrong)

/-- 'geoproverlaw05.MonomialCompares': WHATEVER THE INPUT: true; the input reads as it did. -/
def monomialComparesSpec : ChangeSpec := { name := "monomialCompares", fn := fun _ => fun
  | [d1, d2, d3] => { results := [.lit (.bool true)], args := [d1, d2, d3] }
  | _ => none }
def monomialComparesRow : OpenClaim := { program := "ytcmbdnkfihanmaa", sum := "3b1f389c445aa5ad6bc96c039918c5eefb9e238cebde7c9100c0dc6c46de3c78", func := "geoprover/geoproverlaw05.MonomialCompares", spec := "monomialCompares", unfollowed := true, recurses := true, apart := false }
def MonomialComparesSaid : Prop := monomialComparesRow.holds Try.pinned (OpenSpec.ofChange monomialComparesSpec)

/-- ITS FALSE NEIGHBOUR: 'it returns false'. Refute it at one input. -/
def monomialComparesWrong : ChangeSpec := { name := "monomialCompares", fn := fun _ => fun
  | [d1, d2, d3] => { results := [.lit (.bool false)], args := [d1, d2, d3] }
  | _ => none }
def MonomialComparesWrongFalsely : Prop := monomialComparesRow.holds Try.pinned (OpenSpec.ofChange monomialComparesWrong)

/-- 'geoproverlaw05.MonomialBack': WHATEVER THE INPUT: true; the input reads as it did. -/
def monomialBackSpec : ChangeSpec := { name := "monomialBack", fn := fun _ => fun
  | [d1, d2, d3] => { results := [.lit (.bool true)], args := [d1, d2, d3] }
  | _ => none }
def monomialBackRow : OpenClaim := { program := "ytcmbdnkfihanmaa", sum := "3b1f389c445aa5ad6bc96c039918c5eefb9e238cebde7c9100c0dc6c46de3c78", func := "geoprover/geoproverlaw05.MonomialBack", spec := "monomialBack", unfollowed := true, recurses := true, apart := false }
def MonomialBackSaid : Prop := monomialBackRow.holds Try.pinned (OpenSpec.ofChange monomialBackSpec)

/-- ITS FALSE NEIGHBOUR: 'it returns false'. Refute it at one input. -/
def monomialBackWrong : ChangeSpec := { name := "monomialBack", fn := fun _ => fun
  | [d1, d2, d3] => { results := [.lit (.bool false)], args := [d1, d2, d3] }
  | _ => none }
def MonomialBackWrongFalsely : Prop := monomialBackRow.holds Try.pinned (OpenSpec.ofChange monomialBackWrong)

/-- 'geoproverlaw05.MonomialOrders': WHATEVER THE INPUT: true; the input reads as it did. -/
def monomialOrdersSpec : ChangeSpec := { name := "monomialOrders", fn := fun _ => fun
  | [d1, d2, d3] => { results := [.lit (.bool true)], args := [d1, d2, d3] }
  | _ => none }
def monomialOrdersRow : OpenClaim := { program := "ytcmbdnkfihanmaa", sum := "3b1f389c445aa5ad6bc96c039918c5eefb9e238cebde7c9100c0dc6c46de3c78", func := "geoprover/geoproverlaw05.MonomialOrders", spec := "monomialOrders", unfollowed := true, recurses := true, apart := false }
def MonomialOrdersSaid : Prop := monomialOrdersRow.holds Try.pinned (OpenSpec.ofChange monomialOrdersSpec)

/-- ITS FALSE NEIGHBOUR: 'it returns false'. Refute it at one input. -/
def monomialOrdersWrong : ChangeSpec := { name := "monomialOrders", fn := fun _ => fun
  | [d1, d2, d3] => { results := [.lit (.bool false)], args := [d1, d2, d3] }
  | _ => none }
def MonomialOrdersWrongFalsely : Prop := monomialOrdersRow.holds Try.pinned (OpenSpec.ofChange monomialOrdersWrong)

/- THE SECOND FORM. 'bulk': how many values and letters a reading holds, each counted each time it is reached (what is shared counts as often as it is met; a slice's spare places count too). A statement '..UptoSaid' is the law's where the arguments, and the package variables that the reading takes, are together of bulk at most 1048576: NARROWER than '..Said'. Prove '..Said' where nothing that the law and all that it calls make is longer than what came in: it says more and counts as full. Else prove '..UptoSaid'. A law counts once. -/
mutual
def uptoBulk {H : Type} : DataW H → Nat
  | .lit (.string bytes) => bytes.length + 1
  | .lit _ => 1
  | .nil => 1
  | .ptr d => uptoBulk d + 1
  | .slice elems spare => uptoBulkAll elems + uptoBulkAll spare + 1
  | .agg parts => uptoBulkAll parts + 1
  | .iface _ d => uptoBulk d + 1
  | .map entries => uptoBulkEntries entries + 1
  | .held _ => 1
def uptoBulkAll {H : Type} : List (DataW H) → Nat
  | [] => 0
  | d :: r => uptoBulk d + uptoBulkAll r
def uptoBulkEntries {H : Type} : List (Lit × DataW H) → Nat
  | [] => 0
  | x :: r => uptoBulkEntry x + uptoBulkEntries r
def uptoBulkEntry {H : Type} : Lit × DataW H → Nat
  | (.string bytes, d) => bytes.length + uptoBulk d + 1
  | (_, d) => uptoBulk d + 1
 end
def uptoSmall : (H : Type) → List (DataW H) → Bool := fun _ ds => decide (uptoBulkAll ds ≤ 1048576)
def OpenSpec.upto (s : _root_.Go.ChangeSpec) : _root_.Go.OpenSpec := { _root_.Go.OpenSpec.ofChange s with cond := some uptoSmall }

/-- 'geoproverlaw02.IntegerRing', WHERE WHAT IT READS IS OF BULK AT MOST 1048576: true; the input reads as it did. -/
def integerRingUptoRow : OpenClaim := { program := "ytcmbdnkfihanmaa", sum := "3b1f389c445aa5ad6bc96c039918c5eefb9e238cebde7c9100c0dc6c46de3c78", func := "geoprover/geoproverlaw02.IntegerRing", spec := "integerRing", inPlace := ["math/bits.Add64", "math/bits.Sub64"], unfollowed := true, recurses := true, named := ["math/bits.divideError", "math/bits.overflowError"], apart := false, narrowed := true }
def IntegerRingUptoSaid : Prop := integerRingUptoRow.holds Try.pinned (OpenSpec.upto integerRingSpec)

/-- 'geoproverlaw05.MonomialForms', WHERE WHAT IT READS IS OF BULK AT MOST 1048576: true; the input reads as it did. -/
def monomialFormsUptoRow : OpenClaim := { program := "ytcmbdnkfihanmaa", sum := "3b1f389c445aa5ad6bc96c039918c5eefb9e238cebde7c9100c0dc6c46de3c78", func := "geoprover/geoproverlaw05.MonomialForms", spec := "monomialForms", unfollowed := true, recurses := true, apart := false, narrowed := true }
def MonomialFormsUptoSaid : Prop := monomialFormsUptoRow.holds Try.pinned (OpenSpec.upto monomialFormsSpec)

/-- 'geoproverlaw05.MonomialParts', WHERE WHAT IT READS IS OF BULK AT MOST 1048576: true; the input reads as it did. -/
def monomialPartsUptoRow : OpenClaim := { program := "ytcmbdnkfihanmaa", sum := "3b1f389c445aa5ad6bc96c039918c5eefb9e238cebde7c9100c0dc6c46de3c78", func := "geoprover/geoproverlaw05.MonomialParts", spec := "monomialParts", unfollowed := true, recurses := true, apart := false, narrowed := true }
def MonomialPartsUptoSaid : Prop := monomialPartsUptoRow.holds Try.pinned (OpenSpec.upto monomialPartsSpec)

/-- 'geoproverlaw05.MonomialProducts', WHERE WHAT IT READS IS OF BULK AT MOST 1048576: true; the input reads as it did. -/
def monomialProductsUptoRow : OpenClaim := { program := "ytcmbdnkfihanmaa", sum := "3b1f389c445aa5ad6bc96c039918c5eefb9e238cebde7c9100c0dc6c46de3c78", func := "geoprover/geoproverlaw05.MonomialProducts", spec := "monomialProducts", unfollowed := true, recurses := true, apart := false, narrowed := true }
def MonomialProductsUptoSaid : Prop := monomialProductsUptoRow.holds Try.pinned (OpenSpec.upto monomialProductsSpec)

/-- 'geoproverlaw05.MonomialCompares', WHERE WHAT IT READS IS OF BULK AT MOST 1048576: true; the input reads as it did. -/
def monomialComparesUptoRow : OpenClaim := { program := "ytcmbdnkfihanmaa", sum := "3b1f389c445aa5ad6bc96c039918c5eefb9e238cebde7c9100c0dc6c46de3c78", func := "geoprover/geoproverlaw05.MonomialCompares", spec := "monomialCompares", unfollowed := true, recurses := true, apart := false, narrowed := true }
def MonomialComparesUptoSaid : Prop := monomialComparesUptoRow.holds Try.pinned (OpenSpec.upto monomialComparesSpec)

/-- 'geoproverlaw05.MonomialBack', WHERE WHAT IT READS IS OF BULK AT MOST 1048576: true; the input reads as it did. -/
def monomialBackUptoRow : OpenClaim := { program := "ytcmbdnkfihanmaa", sum := "3b1f389c445aa5ad6bc96c039918c5eefb9e238cebde7c9100c0dc6c46de3c78", func := "geoprover/geoproverlaw05.MonomialBack", spec := "monomialBack", unfollowed := true, recurses := true, apart := false, narrowed := true }
def MonomialBackUptoSaid : Prop := monomialBackUptoRow.holds Try.pinned (OpenSpec.upto monomialBackSpec)

/-- 'geoproverlaw05.MonomialOrders', WHERE WHAT IT READS IS OF BULK AT MOST 1048576: true; the input reads as it did. -/
def monomialOrdersUptoRow : OpenClaim := { program := "ytcmbdnkfihanmaa", sum := "3b1f389c445aa5ad6bc96c039918c5eefb9e238cebde7c9100c0dc6c46de3c78", func := "geoprover/geoproverlaw05.MonomialOrders", spec := "monomialOrders", unfollowed := true, recurses := true, apart := false, narrowed := true }
def MonomialOrdersUptoSaid : Prop := monomialOrdersUptoRow.holds Try.pinned (OpenSpec.upto monomialOrdersSpec)

end Rows
end Go.Proofs.Ytcmbdnkfihanmaa
