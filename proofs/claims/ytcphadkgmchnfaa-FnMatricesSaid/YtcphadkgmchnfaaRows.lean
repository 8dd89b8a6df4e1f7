/-
  No cell of these rows narrows 'for every input' (looked for: loops, veiled, ifaces, maps, wideKeys, modest, calm, conditions, laid).
  DERIVED. THE GIVEN ROWS OF THIS SEAT. 6 by the template 'for every input the law returns true; each argument reads behind the call as it read before'; 0 by the template 'total and deterministic' (their statements: YtcphadkgmchnfaaTotals.lean).
  GIVEN WITH THE SEED: the statements are not yours to turn. If you find one false, say at which input.
  Laid BY PROGRAM, IN A SANDBOX (cutbox-rows.mjs): the forced cells as the released guide's own fill.sh prints them over the translation f058bdd6623aa6c6… (all of the seat's roots in one cut). By AI agents, Wed Nov 11 2026. No macro, syntax, notation, axiom, sorry.
-/
import Derived.Test.YtcphadkgmchnfaaChecked
import GoSem.Claim
import GoSem.ClaimJoined
import GoSem.ClaimMapViews
import Derived.JoinedTies
import Derived.KernelRfl
namespace Go.Proofs.Ytcphadkgmchnfaa
/- THE CELL 'sum', in the pinned program and in every row, IS THE sha256 OF THE DUMP (.gsa) THAT YtcphadkgmchnfaaProg.lean LOADS. Nothing in Lean hashes anything: it is a label: what it is worth is what the hold of that sum in a sandbox is worth. -/
noncomputable def Try.pinned : Pinned := { name := "ytcphadkgmchnfaa", sum := "f058bdd6623aa6c6e5bd99efb8f715cff5894af5b09dae574349d0b95076704f", checked := Try.checked }
namespace Rows
def none {H : Type} : Left H := { results := [], args := [] }

/-- 'laws.FnMatrices': WHATEVER THE INPUT: true; the input reads as it did. -/
def fnMatricesSpec : ChangeSpec := { name := "fnMatrices", fn := fun _ => fun
  | [d] => { results := [.lit (.bool true)], args := [d] }
  | _ => none }
def fnMatricesRow : OpenClaim := { program := "ytcphadkgmchnfaa", sum := "f058bdd6623aa6c6e5bd99efb8f715cff5894af5b09dae574349d0b95076704f", func := "loop.example/g00943/laws.FnMatrices", spec := "fnMatrices", apart := false }
def FnMatricesSaid : Prop := fnMatricesRow.holds Try.pinned (OpenSpec.ofChange fnMatricesSpec)

/-- ITS FALSE NEIGHBOUR: 'it returns false'. Refute it at one input. -/
def fnMatricesWrong : ChangeSpec := { name := "fnMatrices", fn := fun _ => fun
  | [d] => { results := [.lit (.bool false)], args := [d] }
  | _ => none }
def FnMatricesWrongFalsely : Prop := fnMatricesRow.holds Try.pinned (OpenSpec.ofChange fnMatricesWrong)

/-- 'laws.FnExactIsMat': WHATEVER THE INPUT: true; the input reads as it did. -/
def fnExactIsMatSpec : ChangeSpec := { name := "fnExactIsMat", fn := fun _ => fun
  | [d] => { results := [.lit (.bool true)], args := [d] }
  | _ => none }
def fnExactIsMatRow : OpenClaim := { program := "ytcphadkgmchnfaa", sum := "f058bdd6623aa6c6e5bd99efb8f715cff5894af5b09dae574349d0b95076704f", func := "loop.example/g00943/laws.FnExactIsMat", spec := "fnExactIsMat", apart := false }
def FnExactIsMatSaid : Prop := fnExactIsMatRow.holds Try.pinned (OpenSpec.ofChange fnExactIsMatSpec)

/-- ITS FALSE NEIGHBOUR: 'it returns false'. Refute it at one input. -/
def fnExactIsMatWrong : ChangeSpec := { name := "fnExactIsMat", fn := fun _ => fun
  | [d] => { results := [.lit (.bool false)], args := [d] }
  | _ => none }
def FnExactIsMatWrongFalsely : Prop := fnExactIsMatRow.holds Try.pinned (OpenSpec.ofChange fnExactIsMatWrong)

/-- 'laws.FnExactMultiplyMats': WHATEVER THE INPUT: true; the input reads as it did. -/
def fnExactMultiplyMatsSpec : ChangeSpec := { name := "fnExactMultiplyMats", fn := fun _ => fun
  | [d1, d2] => { results := [.lit (.bool true)], args := [d1, d2] }
  | _ => none }
def fnExactMultiplyMatsRow : OpenClaim := { program := "ytcphadkgmchnfaa", sum := "f058bdd6623aa6c6e5bd99efb8f715cff5894af5b09dae574349d0b95076704f", func := "loop.example/g00943/laws.FnExactMultiplyMats", spec := "fnExactMultiplyMats", apart := false }
def FnExactMultiplyMatsSaid : Prop := fnExactMultiplyMatsRow.holds Try.pinned (OpenSpec.ofChange fnExactMultiplyMatsSpec)

/-- ITS FALSE NEIGHBOUR: 'it returns false'. Refute it at one input. -/
def fnExactMultiplyMatsWrong : ChangeSpec := { name := "fnExactMultiplyMats", fn := fun _ => fun
  | [d1, d2] => { results := [.lit (.bool false)], args := [d1, d2] }
  | _ => none }
def FnExactMultiplyMatsWrongFalsely : Prop := fnExactMultiplyMatsRow.holds Try.pinned (OpenSpec.ofChange fnExactMultiplyMatsWrong)

/-- 'laws.FnExactInverseMat': WHATEVER THE INPUT: true; the input reads as it did. -/
def fnExactInverseMatSpec : ChangeSpec := { name := "fnExactInverseMat", fn := fun _ => fun
  | [d] => { results := [.lit (.bool true)], args := [d] }
  | _ => none }
def fnExactInverseMatRow : OpenClaim := { program := "ytcphadkgmchnfaa", sum := "f058bdd6623aa6c6e5bd99efb8f715cff5894af5b09dae574349d0b95076704f", func := "loop.example/g00943/laws.FnExactInverseMat", spec := "fnExactInverseMat", apart := false }
def FnExactInverseMatSaid : Prop := fnExactInverseMatRow.holds Try.pinned (OpenSpec.ofChange fnExactInverseMatSpec)

/-- ITS FALSE NEIGHBOUR: 'it returns false'. Refute it at one input. -/
def fnExactInverseMatWrong : ChangeSpec := { name := "fnExactInverseMat", fn := fun _ => fun
  | [d] => { results := [.lit (.bool false)], args := [d] }
  | _ => none }
def FnExactInverseMatWrongFalsely : Prop := fnExactInverseMatRow.holds Try.pinned (OpenSpec.ofChange fnExactInverseMatWrong)

/-- 'laws.FnExactApplyMat': WHATEVER THE INPUT: true; the input reads as it did. -/
def fnExactApplyMatSpec : ChangeSpec := { name := "fnExactApplyMat", fn := fun _ => fun
  | [d1, d2] => { results := [.lit (.bool true)], args := [d1, d2] }
  | _ => none }
def fnExactApplyMatRow : OpenClaim := { program := "ytcphadkgmchnfaa", sum := "f058bdd6623aa6c6e5bd99efb8f715cff5894af5b09dae574349d0b95076704f", func := "loop.example/g00943/laws.FnExactApplyMat", spec := "fnExactApplyMat", apart := false }
def FnExactApplyMatSaid : Prop := fnExactApplyMatRow.holds Try.pinned (OpenSpec.ofChange fnExactApplyMatSpec)

/-- ITS FALSE NEIGHBOUR: 'it returns false'. Refute it at one input. -/
def fnExactApplyMatWrong : ChangeSpec := { name := "fnExactApplyMat", fn := fun _ => fun
  | [d1, d2] => { results := [.lit (.bool false)], args := [d1, d2] }
  | _ => none }
def FnExactApplyMatWrongFalsely : Prop := fnExactApplyMatRow.holds Try.pinned (OpenSpec.ofChange fnExactApplyMatWrong)

/-- 'laws.FnExactAxisOf': WHATEVER THE INPUT: true; the input reads as it did. -/
def fnExactAxisOfSpec : ChangeSpec := { name := "fnExactAxisOf", fn := fun _ => fun
  | [d] => { results := [.lit (.bool true)], args := [d] }
  | _ => none }
def fnExactAxisOfRow : OpenClaim := { program := "ytcphadkgmchnfaa", sum := "f058bdd6623aa6c6e5bd99efb8f715cff5894af5b09dae574349d0b95076704f", func := "loop.example/g00943/laws.FnExactAxisOf", spec := "fnExactAxisOf", recurses := true, apart := false }
def FnExactAxisOfSaid : Prop := fnExactAxisOfRow.holds Try.pinned (OpenSpec.ofChange fnExactAxisOfSpec)

/-- ITS FALSE NEIGHBOUR: 'it returns false'. Refute it at one input. -/
def fnExactAxisOfWrong : ChangeSpec := { name := "fnExactAxisOf", fn := fun _ => fun
  | [d] => { results := [.lit (.bool false)], args := [d] }
  | _ => none }
def FnExactAxisOfWrongFalsely : Prop := fnExactAxisOfRow.holds Try.pinned (OpenSpec.ofChange fnExactAxisOfWrong)

/- THE SECOND FORM. 'bulk': how many values and letters a reading holds, each counted each time it is reached (what is shared counts as often as it is met; a slice's spare places count too). A statement '..UptoSaid' is the law's where the arguments, and the package variables that the reading takes, are together of bulk at most 1048576: NARROWER than '..Said'. Prove '..Said' where nothing that the law and all that it calls make is longer than what came in: it says more and counts as full. Else prove '..UptoSaid'. A law counts once. -/
mutual
def uptoBulk {H : Type} : DataW H → Nat
  | .lit (.string bytes) => bytes.length + 1
  | .lit _ => 1
  | .nil => 1
  | .ptr d => uptoBulk d + 1
  | .slice elems spare => uptoBulkAll elems + uptoBulkAll spare + 1
  | .agg parts => uptoBulkAll parts + 1
  | .iface _ d => uptoBulk d + 1
  | .map entries => uptoBulkEntries entries + 1
  | .held _ => 1
def uptoBulkAll {H : Type} : List (DataW H) → Nat
  | [] => 0
  | d :: r => uptoBulk d + uptoBulkAll r
def uptoBulkEntries {H : Type} : List (Lit × DataW H) → Nat
  | [] => 0
  | x :: r => uptoBulkEntry x + uptoBulkEntries r
def uptoBulkEntry {H : Type} : Lit × DataW H → Nat
  | (.string bytes, d) => bytes.length + uptoBulk d + 1
  | (_, d) => uptoBulk d + 1
 end
def uptoSmall : (H : Type) → List (DataW H) → Bool := fun _ ds => decide (uptoBulkAll ds ≤ 1048576)
def OpenSpec.upto (s : _root_.Go.ChangeSpec) : _root_.Go.OpenSpec := { _root_.Go.OpenSpec.ofChange s with cond := some uptoSmall }

/-- 'laws.FnMatrices', WHERE WHAT IT READS IS OF BULK AT MOST 1048576: true; the input reads as it did. -/
def fnMatricesUptoRow : OpenClaim := { program := "ytcphadkgmchnfaa", sum := "f058bdd6623aa6c6e5bd99efb8f715cff5894af5b09dae574349d0b95076704f", func := "loop.example/g00943/laws.FnMatrices", spec := "fnMatrices", apart := false, narrowed := true }
def FnMatricesUptoSaid : Prop := fnMatricesUptoRow.holds Try.pinned (OpenSpec.upto fnMatricesSpec)

/-- 'laws.FnExactIsMat', WHERE WHAT IT READS IS OF BULK AT MOST 1048576: true; the input reads as it did. -/
def fnExactIsMatUptoRow : OpenClaim := { program := "ytcphadkgmchnfaa", sum := "f058bdd6623aa6c6e5bd99efb8f715cff5894af5b09dae574349d0b95076704f", func := "loop.example/g00943/laws.FnExactIsMat", spec := "fnExactIsMat", apart := false, narrowed := true }
def FnExactIsMatUptoSaid : Prop := fnExactIsMatUptoRow.holds Try.pinned (OpenSpec.upto fnExactIsMatSpec)

/-- 'laws.FnExactMultiplyMats', WHERE WHAT IT READS IS OF BULK AT MOST 1048576: true; the input reads as it did. -/
def fnExactMultiplyMatsUptoRow : OpenClaim := { program := "ytcphadkgmchnfaa", sum := "f058bdd6623aa6c6e5bd99efb8f715cff5894af5b09dae574349d0b95076704f", func := "loop.example/g00943/laws.FnExactMultiplyMats", spec := "fnExactMultiplyMats", apart := false, narrowed := true }
def FnExactMultiplyMatsUptoSaid : Prop := fnExactMultiplyMatsUptoRow.holds Try.pinned (OpenSpec.upto fnExactMultiplyMatsSpec)

/-- 'laws.FnExactInverseMat', WHERE WHAT IT READS IS OF BULK AT MOST 1048576: true; the input reads as it did. -/
def fnExactInverseMatUptoRow : OpenClaim := { program := "ytcphadkgmchnfaa", sum := "f058bdd6623aa6c6e5bd99efb8f715cff5894af5b09dae574349d0b95076704f", func := "loop.example/g00943/laws.FnExactInverseMat", spec := "fnExactInverseMat", apart := false, narrowed := true }
def FnExactInverseMatUptoSaid : Prop := fnExactInverseMatUptoRow.holds Try.pinned (OpenSpec.upto fnExactInverseMatSpec)

/-- 'laws.FnExactApplyMat', WHERE WHAT IT READS IS OF BULK AT MOST 1048576: true; the input reads as it did. -/
def fnExactApplyMatUptoRow : OpenClaim := { program := "ytcphadkgmchnfaa", sum := "f058bdd6623aa6c6e5bd99efb8f715cff5894af5b09dae574349d0b95076704f", func := "loop.example/g00943/laws.FnExactApplyMat", spec := "fnExactApplyMat", apart := false, narrowed := true }
def FnExactApplyMatUptoSaid : Prop := fnExactApplyMatUptoRow.holds Try.pinned (OpenSpec.upto fnExactApplyMatSpec)

/-- 'laws.FnExactAxisOf', WHERE WHAT IT READS IS OF BULK AT MOST 1048576: true; the input reads as it did. -/
def fnExactAxisOfUptoRow : OpenClaim := { program := "ytcphadkgmchnfaa", sum := "f058bdd6623aa6c6e5bd99efb8f715cff5894af5b09dae574349d0b95076704f", func := "loop.example/g00943/laws.FnExactAxisOf", spec := "fnExactAxisOf", recurses := true, apart := false, narrowed := true }
def FnExactAxisOfUptoSaid : Prop := fnExactAxisOfUptoRow.holds Try.pinned (OpenSpec.upto fnExactAxisOfSpec)

end Rows
end Go.Proofs.Ytcphadkgmchnfaa
