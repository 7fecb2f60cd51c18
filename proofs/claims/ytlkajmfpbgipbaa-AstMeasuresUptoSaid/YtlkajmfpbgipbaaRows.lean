/-
  NARROWER THAN 'FOR EVERY INPUT', by the rows' own cells (each row's printed sentence says how): AstMeasures: loops · AstEqual: loops.
  DERIVED. THE GIVEN ROWS OF THIS SEAT. 9 by the template 'for every input the law returns true; each argument reads behind the call as it read before'; 0 by the template 'total and deterministic' (their statements: YtlkajmfpbgipbaaTotals.lean).
  GIVEN WITH THE SEED: the statements are not yours to turn. If you find one false, say at which input.
  Laid BY PROGRAM, IN A SANDBOX (cutbox-rows.mjs): the forced cells as the released guide's own fill.sh prints them over the translation be2298216939c62a… (all of the seat's roots in one cut). By AI agents, Wed Nov 11 2026. No macro, syntax, notation, axiom, sorry.
-/
import Derived.Test.YtlkajmfpbgipbaaChecked
import GoSem.Claim
import GoSem.ClaimJoined
import GoSem.ClaimMapViews
import Derived.JoinedTies
import Derived.KernelRfl
namespace Go.Proofs.Ytlkajmfpbgipbaa
/- THE CELL 'sum', in the pinned program and in every row, IS THE sha256 OF THE DUMP (.gsa) THAT YtlkajmfpbgipbaaProg.lean LOADS. Nothing in Lean hashes anything: it is a label: what it is worth is what the hold of that sum in a sandbox is worth. -/
noncomputable def Try.pinned : Pinned := { name := "ytlkajmfpbgipbaa", sum := "be2298216939c62a0e23a3ea1d1ad4d0644e7cf5825a2688e02b6bc9c4c9bdb6", checked := Try.checked }
namespace Rows
def none {H : Type} : Left H := { results := [], args := [] }

/-- 'geoproverlaw15.LexerTokens': WHATEVER THE INPUT: true; the input reads as it did. -/
def lexerTokensSpec : ChangeSpec := { name := "lexerTokens", fn := fun _ => fun
  | [d] => { results := [.lit (.bool true)], args := [d] }
  | _ => none }
def lexerTokensRow : OpenClaim := { program := "ytlkajmfpbgipbaa", sum := "be2298216939c62a0e23a3ea1d1ad4d0644e7cf5825a2688e02b6bc9c4c9bdb6", func := "geoprover/geoproverlaw15.LexerTokens", spec := "lexerTokens", inPlace := ["internal/bytealg.IndexByteString"], apart := false }
def LexerTokensSaid : Prop := lexerTokensRow.holds Try.pinned (OpenSpec.ofChange lexerTokensSpec)

/-- ITS FALSE NEIGHBOUR: 'it returns false'. Refute it at one input. -/
def lexerTokensWrong : ChangeSpec := { name := "lexerTokens", fn := fun _ => fun
  | [d] => { results := [.lit (.bool false)], args := [d] }
  | _ => none }
def LexerTokensWrongFalsely : Prop := lexerTokensRow.holds Try.pinned (OpenSpec.ofChange lexerTokensWrong)

/-- 'geoproverlaw15.LexerNames': WHATEVER THE INPUT: true; the input reads as it did. -/
def lexerNamesSpec : ChangeSpec := { name := "lexerNames", fn := fun _ => fun
  | [d] => { results := [.lit (.bool true)], args := [d] }
  | _ => none }
def lexerNamesRow : OpenClaim := { program := "ytlkajmfpbgipbaa", sum := "be2298216939c62a0e23a3ea1d1ad4d0644e7cf5825a2688e02b6bc9c4c9bdb6", func := "geoprover/geoproverlaw15.LexerNames", spec := "lexerNames", apart := false }
def LexerNamesSaid : Prop := lexerNamesRow.holds Try.pinned (OpenSpec.ofChange lexerNamesSpec)

/-- ITS FALSE NEIGHBOUR: 'it returns false'. Refute it at one input. -/
def lexerNamesWrong : ChangeSpec := { name := "lexerNames", fn := fun _ => fun
  | [d] => { results := [.lit (.bool false)], args := [d] }
  | _ => none }
def LexerNamesWrongFalsely : Prop := lexerNamesRow.holds Try.pinned (OpenSpec.ofChange lexerNamesWrong)

/-- 'geoproverlaw15.LexerCovers': WHATEVER THE INPUT: true; the input reads as it did. -/
def lexerCoversSpec : ChangeSpec := { name := "lexerCovers", fn := fun _ => fun
  | [d] => { results := [.lit (.bool true)], args := [d] }
  | _ => none }
def lexerCoversRow : OpenClaim := { program := "ytlkajmfpbgipbaa", sum := "be2298216939c62a0e23a3ea1d1ad4d0644e7cf5825a2688e02b6bc9c4c9bdb6", func := "geoprover/geoproverlaw15.LexerCovers", spec := "lexerCovers", inPlace := ["internal/bytealg.IndexByteString"], apart := false }
def LexerCoversSaid : Prop := lexerCoversRow.holds Try.pinned (OpenSpec.ofChange lexerCoversSpec)

/-- ITS FALSE NEIGHBOUR: 'it returns false'. Refute it at one input. -/
def lexerCoversWrong : ChangeSpec := { name := "lexerCovers", fn := fun _ => fun
  | [d] => { results := [.lit (.bool false)], args := [d] }
  | _ => none }
def LexerCoversWrongFalsely : Prop := lexerCoversRow.holds Try.pinned (OpenSpec.ofChange lexerCoversWrong)

/-- 'geoproverlaw15.LexerBlanks': WHATEVER THE INPUT: true; the input reads as it did. -/
def lexerBlanksSpec : ChangeSpec := { name := "lexerBlanks", fn := fun _ => fun
  | [d1, d2] => { results := [.lit (.bool true)], args := [d1, d2] }
  | _ => none }
def lexerBlanksRow : OpenClaim := { program := "ytlkajmfpbgipbaa", sum := "be2298216939c62a0e23a3ea1d1ad4d0644e7cf5825a2688e02b6bc9c4c9bdb6", func := "geoprover/geoproverlaw15.LexerBlanks", spec := "lexerBlanks", inPlace := ["internal/bytealg.IndexByteString"], apart := false }
def LexerBlanksSaid : Prop := lexerBlanksRow.holds Try.pinned (OpenSpec.ofChange lexerBlanksSpec)

/-- ITS FALSE NEIGHBOUR: 'it returns false'. Refute it at one input. -/
def lexerBlanksWrong : ChangeSpec := { name := "lexerBlanks", fn := fun _ => fun
  | [d1, d2] => { results := [.lit (.bool false)], args := [d1, d2] }
  | _ => none }
def LexerBlanksWrongFalsely : Prop := lexerBlanksRow.holds Try.pinned (OpenSpec.ofChange lexerBlanksWrong)

/-- 'geoproverlaw15.LexerPrefixes': WHATEVER THE INPUT: true; the input reads as it did. -/
def lexerPrefixesSpec : ChangeSpec := { name := "lexerPrefixes", fn := fun _ => fun
  | [d] => { results := [.lit (.bool true)], args := [d] }
  | _ => none }
def lexerPrefixesRow : OpenClaim := { program := "ytlkajmfpbgipbaa", sum := "be2298216939c62a0e23a3ea1d1ad4d0644e7cf5825a2688e02b6bc9c4c9bdb6", func := "geoprover/geoproverlaw15.LexerPrefixes", spec := "lexerPrefixes", inPlace := ["internal/bytealg.IndexByteString"], apart := false }
def LexerPrefixesSaid : Prop := lexerPrefixesRow.holds Try.pinned (OpenSpec.ofChange lexerPrefixesSpec)

/-- ITS FALSE NEIGHBOUR: 'it returns false'. Refute it at one input. -/
def lexerPrefixesWrong : ChangeSpec := { name := "lexerPrefixes", fn := fun _ => fun
  | [d] => { results := [.lit (.bool false)], args := [d] }
  | _ => none }
def LexerPrefixesWrongFalsely : Prop := lexerPrefixesRow.holds Try.pinned (OpenSpec.ofChange lexerPrefixesWrong)

/-- 'geoproverlaw16.AstTables': WHATEVER THE INPUT: true; the input reads as it did. -/
def astTablesSpec : ChangeSpec := { name := "astTables", fn := fun _ => fun
  | [d1, d2] => { results := [.lit (.bool true)], args := [d1, d2] }
  | _ => none }
def astTablesRow : OpenClaim := { program := "ytlkajmfpbgipbaa", sum := "be2298216939c62a0e23a3ea1d1ad4d0644e7cf5825a2688e02b6bc9c4c9bdb6", func := "geoprover/geoproverlaw16.AstTables", spec := "astTables", apart := false }
def AstTablesSaid : Prop := astTablesRow.holds Try.pinned (OpenSpec.ofChange astTablesSpec)

/-- ITS FALSE NEIGHBOUR: 'it returns false'. Refute it at one input. -/
def astTablesWrong : ChangeSpec := { name := "astTables", fn := fun _ => fun
  | [d1, d2] => { results := [.lit (.bool false)], args := [d1, d2] }
  | _ => none }
def AstTablesWrongFalsely : Prop := astTablesRow.holds Try.pinned (OpenSpec.ofChange astTablesWrong)

/-- 'geoproverlaw16.AstMeasures': WHATEVER THE INPUT: true; the input reads as it did. -/
def astMeasuresSpec : ChangeSpec := { name := "astMeasures", fn := fun _ => fun
  | [d] => { results := [.lit (.bool true)], args := [d] }
  | _ => none }
def astMeasuresRow : OpenClaim := { program := "ytlkajmfpbgipbaa", sum := "be2298216939c62a0e23a3ea1d1ad4d0644e7cf5825a2688e02b6bc9c4c9bdb6", func := "geoprover/geoproverlaw16.AstMeasures", spec := "astMeasures", unfollowed := true, recurses := true, loops := true, apart := false }
def AstMeasuresSaid : Prop := astMeasuresRow.holds Try.pinned (OpenSpec.ofChange astMeasuresSpec)

/-- ITS FALSE NEIGHBOUR: 'it returns false'. Refute it at one input. -/
def astMeasuresWrong : ChangeSpec := { name := "astMeasures", fn := fun _ => fun
  | [d] => { results := [.lit (.bool false)], args := [d] }
  | _ => none }
def AstMeasuresWrongFalsely : Prop := astMeasuresRow.holds Try.pinned (OpenSpec.ofChange astMeasuresWrong)

/-- 'geoproverlaw16.AstEqual': WHATEVER THE INPUT: true; the input reads as it did. -/
def astEqualSpec : ChangeSpec := { name := "astEqual", fn := fun _ => fun
  | [d1, d2, d3] => { results := [.lit (.bool true)], args := [d1, d2, d3] }
  | _ => none }
def astEqualRow : OpenClaim := { program := "ytlkajmfpbgipbaa", sum := "be2298216939c62a0e23a3ea1d1ad4d0644e7cf5825a2688e02b6bc9c4c9bdb6", func := "geoprover/geoproverlaw16.AstEqual", spec := "astEqual", unfollowed := true, recurses := true, loops := true, apart := false }
def AstEqualSaid : Prop := astEqualRow.holds Try.pinned (OpenSpec.ofChange astEqualSpec)

/-- ITS FALSE NEIGHBOUR: 'it returns false'. Refute it at one input. -/
def astEqualWrong : ChangeSpec := { name := "astEqual", fn := fun _ => fun
  | [d1, d2, d3] => { results := [.lit (.bool false)], args := [d1, d2, d3] }
  | _ => none }
def AstEqualWrongFalsely : Prop := astEqualRow.holds Try.pinned (OpenSpec.ofChange astEqualWrong)

/-- 'geoproverlaw16.AstWords': WHATEVER THE INPUT: true; the input reads as it did. -/
def astWordsSpec : ChangeSpec := { name := "astWords", fn := fun _ => fun
  | [d1, d2] => { results := [.lit (.bool true)], args := [d1, d2] }
  | _ => none }
def astWordsRow : OpenClaim := { program := "ytlkajmfpbgipbaa", sum := "be2298216939c62a0e23a3ea1d1ad4d0644e7cf5825a2688e02b6bc9c4c9bdb6", func := "geoprover/geoproverlaw16.AstWords", spec := "astWords", apart := false }
def AstWordsSaid : Prop := astWordsRow.holds Try.pinned (OpenSpec.ofChange astWordsSpec)

/-- ITS FALSE NEIGHBOUR: 'it returns false'. Refute it at one input. -/
def astWordsWrong : ChangeSpec := { name := "astWords", fn := fun _ => fun
  | [d1, d2] => { results := [.lit (.bool false)], args := [d1, d2] }
  | _ => none }
def AstWordsWrongFalsely : Prop := astWordsRow.holds Try.pinned (OpenSpec.ofChange astWordsWrong)

/- THE SECOND FORM. 'bulk': how many values and letters a reading holds, each counted each time it is reached (what is shared counts as often as it is met; a slice's spare places count too). A statement '..UptoSaid' is the law's where the arguments, and the package variables that the reading takes, are together of bulk at most 1048576: NARROWER than '..Said'. Prove '..Said' where nothing that the law and all that it calls make is longer than what came in: it says more and counts as full. Else prove '..UptoSaid'. A law counts once. -/
mutual
def uptoBulk {H : Type} : DataW H → Nat
  | .lit (.string bytes) => bytes.length + 1
  | .lit _ => 1
  | .nil => 1
  | .ptr d => uptoBulk d + 1
  | .slice elems spare => uptoBulkAll elems + uptoBulkAll spare + 1
  | .agg parts => uptoBulkAll parts + 1
  | .iface _ d => uptoBulk d + 1
  | .map entries => uptoBulkEntries entries + 1
  | .held _ => 1
def uptoBulkAll {H : Type} : List (DataW H) → Nat
  | [] => 0
  | d :: r => uptoBulk d + uptoBulkAll r
def uptoBulkEntries {H : Type} : List (Lit × DataW H) → Nat
  | [] => 0
  | x :: r => uptoBulkEntry x + uptoBulkEntries r
def uptoBulkEntry {H : Type} : Lit × DataW H → Nat
  | (.string bytes, d) => bytes.length + uptoBulk d + 1
  | (_, d) => uptoBulk d + 1
 end
def uptoSmall : (H : Type) → List (DataW H) → Bool := fun _ ds => decide (uptoBulkAll ds ≤ 1048576)
def OpenSpec.upto (s : _root_.Go.ChangeSpec) : _root_.Go.OpenSpec := { _root_.Go.OpenSpec.ofChange s with cond := some uptoSmall }

/-- 'geoproverlaw15.LexerTokens', WHERE WHAT IT READS IS OF BULK AT MOST 1048576: true; the input reads as it did. -/
def lexerTokensUptoRow : OpenClaim := { program := "ytlkajmfpbgipbaa", sum := "be2298216939c62a0e23a3ea1d1ad4d0644e7cf5825a2688e02b6bc9c4c9bdb6", func := "geoprover/geoproverlaw15.LexerTokens", spec := "lexerTokens", inPlace := ["internal/bytealg.IndexByteString"], apart := false, narrowed := true }
def LexerTokensUptoSaid : Prop := lexerTokensUptoRow.holds Try.pinned (OpenSpec.upto lexerTokensSpec)

/-- 'geoproverlaw15.LexerNames', WHERE WHAT IT READS IS OF BULK AT MOST 1048576: true; the input reads as it did. -/
def lexerNamesUptoRow : OpenClaim := { program := "ytlkajmfpbgipbaa", sum := "be2298216939c62a0e23a3ea1d1ad4d0644e7cf5825a2688e02b6bc9c4c9bdb6", func := "geoprover/geoproverlaw15.LexerNames", spec := "lexerNames", apart := false, narrowed := true }
def LexerNamesUptoSaid : Prop := lexerNamesUptoRow.holds Try.pinned (OpenSpec.upto lexerNamesSpec)

/-- 'geoproverlaw15.LexerCovers', WHERE WHAT IT READS IS OF BULK AT MOST 1048576: true; the input reads as it did. -/
def lexerCoversUptoRow : OpenClaim := { program := "ytlkajmfpbgipbaa", sum := "be2298216939c62a0e23a3ea1d1ad4d0644e7cf5825a2688e02b6bc9c4c9bdb6", func := "geoprover/geoproverlaw15.LexerCovers", spec := "lexerCovers", inPlace := ["internal/bytealg.IndexByteString"], apart := false, narrowed := true }
def LexerCoversUptoSaid : Prop := lexerCoversUptoRow.holds Try.pinned (OpenSpec.upto lexerCoversSpec)

/-- 'geoproverlaw15.LexerBlanks', WHERE WHAT IT READS IS OF BULK AT MOST 1048576: true; the input reads as it did. -/
def lexerBlanksUptoRow : OpenClaim := { program := "ytlkajmfpbgipbaa", sum := "be2298216939c62a0e23a3ea1d1ad4d0644e7cf5825a2688e02b6bc9c4c9bdb6", func := "geoprover/geoproverlaw15.LexerBlanks", spec := "lexerBlanks", inPlace := ["internal/bytealg.IndexByteString"], apart := false, narrowed := true }
def LexerBlanksUptoSaid : Prop := lexerBlanksUptoRow.holds Try.pinned (OpenSpec.upto lexerBlanksSpec)

/-- 'geoproverlaw15.LexerPrefixes', WHERE WHAT IT READS IS OF BULK AT MOST 1048576: true; the input reads as it did. -/
def lexerPrefixesUptoRow : OpenClaim := { program := "ytlkajmfpbgipbaa", sum := "be2298216939c62a0e23a3ea1d1ad4d0644e7cf5825a2688e02b6bc9c4c9bdb6", func := "geoprover/geoproverlaw15.LexerPrefixes", spec := "lexerPrefixes", inPlace := ["internal/bytealg.IndexByteString"], apart := false, narrowed := true }
def LexerPrefixesUptoSaid : Prop := lexerPrefixesUptoRow.holds Try.pinned (OpenSpec.upto lexerPrefixesSpec)

/-- 'geoproverlaw16.AstTables', WHERE WHAT IT READS IS OF BULK AT MOST 1048576: true; the input reads as it did. -/
def astTablesUptoRow : OpenClaim := { program := "ytlkajmfpbgipbaa", sum := "be2298216939c62a0e23a3ea1d1ad4d0644e7cf5825a2688e02b6bc9c4c9bdb6", func := "geoprover/geoproverlaw16.AstTables", spec := "astTables", apart := false, narrowed := true }
def AstTablesUptoSaid : Prop := astTablesUptoRow.holds Try.pinned (OpenSpec.upto astTablesSpec)

/-- 'geoproverlaw16.AstMeasures', WHERE WHAT IT READS IS OF BULK AT MOST 1048576: true; the input reads as it did. -/
def astMeasuresUptoRow : OpenClaim := { program := "ytlkajmfpbgipbaa", sum := "be2298216939c62a0e23a3ea1d1ad4d0644e7cf5825a2688e02b6bc9c4c9bdb6", func := "geoprover/geoproverlaw16.AstMeasures", spec := "astMeasures", unfollowed := true, recurses := true, loops := true, apart := false, narrowed := true }
def AstMeasuresUptoSaid : Prop := astMeasuresUptoRow.holds Try.pinned (OpenSpec.upto astMeasuresSpec)

/-- 'geoproverlaw16.AstEqual', WHERE WHAT IT READS IS OF BULK AT MOST 1048576: true; the input reads as it did. -/
def astEqualUptoRow : OpenClaim := { program := "ytlkajmfpbgipbaa", sum := "be2298216939c62a0e23a3ea1d1ad4d0644e7cf5825a2688e02b6bc9c4c9bdb6", func := "geoprover/geoproverlaw16.AstEqual", spec := "astEqual", unfollowed := true, recurses := true, loops := true, apart := false, narrowed := true }
def AstEqualUptoSaid : Prop := astEqualUptoRow.holds Try.pinned (OpenSpec.upto astEqualSpec)

/-- 'geoproverlaw16.AstWords', WHERE WHAT IT READS IS OF BULK AT MOST 1048576: true; the input reads as it did. -/
def astWordsUptoRow : OpenClaim := { program := "ytlkajmfpbgipbaa", sum := "be2298216939c62a0e23a3ea1d1ad4d0644e7cf5825a2688e02b6bc9c4c9bdb6", func := "geoprover/geoproverlaw16.AstWords", spec := "astWords", apart := false, narrowed := true }
def AstWordsUptoSaid : Prop := astWordsUptoRow.holds Try.pinned (OpenSpec.upto astWordsSpec)

end Rows
end Go.Proofs.Ytlkajmfpbgipbaa
