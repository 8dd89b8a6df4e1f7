/-
  No cell of these rows narrows 'for every input' (looked for: loops, veiled, ifaces, maps, wideKeys, modest, calm, conditions, laid).
  DERIVED. THE GIVEN ROWS OF THIS SEAT. 12 by the template 'for every input the law returns true; each argument reads behind the call as it read before'; 0 by the template 'total and deterministic' (their statements: YtcdjkcmagfakfaaTotals.lean).
  GIVEN WITH THE SEED: the statements are not yours to turn. If you find one false, say at which input.
  Laid BY PROGRAM, IN A SANDBOX (cutbox-rows.mjs): the forced cells as the released guide's own fill.sh prints them over the translation 43168cb71d1f60e2… (all of the seat's roots in one cut). By AI agents, Wed Nov 11 2026. No macro, syntax, notation, axiom, sorry.
-/
import Derived.Test.YtcdjkcmagfakfaaChecked
import GoSem.Claim
import GoSem.ClaimJoined
import GoSem.ClaimMapViews
import Derived.JoinedTies
import Derived.KernelRfl
namespace Go.Proofs.Ytcdjkcmagfakfaa
/- THE CELL 'sum', in the pinned program and in every row, IS THE sha256 OF THE DUMP (.gsa) THAT YtcdjkcmagfakfaaProg.lean LOADS. Nothing in Lean hashes anything: it is a label: what it is worth is what the hold of that sum in a sandbox is worth. -/
noncomputable def Try.pinned : Pinned := { name := "ytcdjkcmagfakfaa", sum := "43168cb71d1f60e2829b968eb1afc981a263b1832de3bf34320300b74e7a73a4", checked := Try.checked }
namespace Rows
def none {H : Type} : Left H := { results := [], args := [] }

/-- 'laws.FnBases': WHATEVER THE INPUT: true; the input reads as it did. -/
def fnBasesSpec : ChangeSpec := { name := "fnBases", fn := fun _ => fun
  | [d] => { results := [.lit (.bool true)], args := [d] }
  | _ => none }
def fnBasesRow : OpenClaim := { program := "ytcdjkcmagfakfaa", sum := "43168cb71d1f60e2829b968eb1afc981a263b1832de3bf34320300b74e7a73a4", func := "loop.example/g00943/laws.FnBases", spec := "fnBases", unfollowed := true, recurses := true, apart := false }
def FnBasesSaid : Prop := fnBasesRow.holds Try.pinned (OpenSpec.ofChange fnBasesSpec)

/-- ITS FALSE NEIGHBOUR: 'it returns false'. Refute it at one input. -/
def fnBasesWrong : ChangeSpec := { name := "fnBases", fn := fun _ => fun
  | [d] => { results := [.lit (.bool false)], args := [d] }
  | _ => none }
def FnBasesWrongFalsely : Prop := fnBasesRow.holds Try.pinned (OpenSpec.ofChange fnBasesWrong)

/-- 'laws.FnNear': WHATEVER THE INPUT: true; the input reads as it did. -/
def fnNearSpec : ChangeSpec := { name := "fnNear", fn := fun _ => fun
  | [d] => { results := [.lit (.bool true)], args := [d] }
  | _ => none }
def fnNearRow : OpenClaim := { program := "ytcdjkcmagfakfaa", sum := "43168cb71d1f60e2829b968eb1afc981a263b1832de3bf34320300b74e7a73a4", func := "loop.example/g00943/laws.FnNear", spec := "fnNear", unfollowed := true, recurses := true, apart := false }
def FnNearSaid : Prop := fnNearRow.holds Try.pinned (OpenSpec.ofChange fnNearSpec)

/-- ITS FALSE NEIGHBOUR: 'it returns false'. Refute it at one input. -/
def fnNearWrong : ChangeSpec := { name := "fnNear", fn := fun _ => fun
  | [d] => { results := [.lit (.bool false)], args := [d] }
  | _ => none }
def FnNearWrongFalsely : Prop := fnNearRow.holds Try.pinned (OpenSpec.ofChange fnNearWrong)

/-- 'laws.FnPointMats': WHATEVER THE INPUT: true; the input reads as it did. -/
def fnPointMatsSpec : ChangeSpec := { name := "fnPointMats", fn := fun _ => fun
  | [d] => { results := [.lit (.bool true)], args := [d] }
  | _ => none }
def fnPointMatsRow : OpenClaim := { program := "ytcdjkcmagfakfaa", sum := "43168cb71d1f60e2829b968eb1afc981a263b1832de3bf34320300b74e7a73a4", func := "loop.example/g00943/laws.FnPointMats", spec := "fnPointMats", unfollowed := true, recurses := true, apart := false }
def FnPointMatsSaid : Prop := fnPointMatsRow.holds Try.pinned (OpenSpec.ofChange fnPointMatsSpec)

/-- ITS FALSE NEIGHBOUR: 'it returns false'. Refute it at one input. -/
def fnPointMatsWrong : ChangeSpec := { name := "fnPointMats", fn := fun _ => fun
  | [d] => { results := [.lit (.bool false)], args := [d] }
  | _ => none }
def FnPointMatsWrongFalsely : Prop := fnPointMatsRow.holds Try.pinned (OpenSpec.ofChange fnPointMatsWrong)

/-- 'laws.FnExactIsFrame': WHATEVER THE INPUT: true; the input reads as it did. -/
def fnExactIsFrameSpec : ChangeSpec := { name := "fnExactIsFrame", fn := fun _ => fun
  | [d] => { results := [.lit (.bool true)], args := [d] }
  | _ => none }
def fnExactIsFrameRow : OpenClaim := { program := "ytcdjkcmagfakfaa", sum := "43168cb71d1f60e2829b968eb1afc981a263b1832de3bf34320300b74e7a73a4", func := "loop.example/g00943/laws.FnExactIsFrame", spec := "fnExactIsFrame", apart := false }
def FnExactIsFrameSaid : Prop := fnExactIsFrameRow.holds Try.pinned (OpenSpec.ofChange fnExactIsFrameSpec)

/-- ITS FALSE NEIGHBOUR: 'it returns false'. Refute it at one input. -/
def fnExactIsFrameWrong : ChangeSpec := { name := "fnExactIsFrame", fn := fun _ => fun
  | [d] => { results := [.lit (.bool false)], args := [d] }
  | _ => none }
def FnExactIsFrameWrongFalsely : Prop := fnExactIsFrameRow.holds Try.pinned (OpenSpec.ofChange fnExactIsFrameWrong)

/-- 'laws.FnExactPointMats': WHATEVER THE INPUT: true; the input reads as it did. -/
def fnExactPointMatsSpec : ChangeSpec := { name := "fnExactPointMats", fn := fun _ => fun
  | [d] => { results := [.lit (.bool true)], args := [d] }
  | _ => none }
def fnExactPointMatsRow : OpenClaim := { program := "ytcdjkcmagfakfaa", sum := "43168cb71d1f60e2829b968eb1afc981a263b1832de3bf34320300b74e7a73a4", func := "loop.example/g00943/laws.FnExactPointMats", spec := "fnExactPointMats", unfollowed := true, recurses := true, apart := false }
def FnExactPointMatsSaid : Prop := fnExactPointMatsRow.holds Try.pinned (OpenSpec.ofChange fnExactPointMatsSpec)

/-- ITS FALSE NEIGHBOUR: 'it returns false'. Refute it at one input. -/
def fnExactPointMatsWrong : ChangeSpec := { name := "fnExactPointMats", fn := fun _ => fun
  | [d] => { results := [.lit (.bool false)], args := [d] }
  | _ => none }
def FnExactPointMatsWrongFalsely : Prop := fnExactPointMatsRow.holds Try.pinned (OpenSpec.ofChange fnExactPointMatsWrong)

/-- 'laws.FnExactIsPointMat': WHATEVER THE INPUT: true; the input reads as it did. -/
def fnExactIsPointMatSpec : ChangeSpec := { name := "fnExactIsPointMat", fn := fun _ => fun
  | [d1, d2] => { results := [.lit (.bool true)], args := [d1, d2] }
  | _ => none }
def fnExactIsPointMatRow : OpenClaim := { program := "ytcdjkcmagfakfaa", sum := "43168cb71d1f60e2829b968eb1afc981a263b1832de3bf34320300b74e7a73a4", func := "loop.example/g00943/laws.FnExactIsPointMat", spec := "fnExactIsPointMat", unfollowed := true, recurses := true, apart := false }
def FnExactIsPointMatSaid : Prop := fnExactIsPointMatRow.holds Try.pinned (OpenSpec.ofChange fnExactIsPointMatSpec)

/-- ITS FALSE NEIGHBOUR: 'it returns false'. Refute it at one input. -/
def fnExactIsPointMatWrong : ChangeSpec := { name := "fnExactIsPointMat", fn := fun _ => fun
  | [d1, d2] => { results := [.lit (.bool false)], args := [d1, d2] }
  | _ => none }
def FnExactIsPointMatWrongFalsely : Prop := fnExactIsPointMatRow.holds Try.pinned (OpenSpec.ofChange fnExactIsPointMatWrong)

/-- 'laws.FnExactNormOf': WHATEVER THE INPUT: true; the input reads as it did. -/
def fnExactNormOfSpec : ChangeSpec := { name := "fnExactNormOf", fn := fun _ => fun
  | [d1, d2] => { results := [.lit (.bool true)], args := [d1, d2] }
  | _ => none }
def fnExactNormOfRow : OpenClaim := { program := "ytcdjkcmagfakfaa", sum := "43168cb71d1f60e2829b968eb1afc981a263b1832de3bf34320300b74e7a73a4", func := "loop.example/g00943/laws.FnExactNormOf", spec := "fnExactNormOf", unfollowed := true, recurses := true, apart := false }
def FnExactNormOfSaid : Prop := fnExactNormOfRow.holds Try.pinned (OpenSpec.ofChange fnExactNormOfSpec)

/-- ITS FALSE NEIGHBOUR: 'it returns false'. Refute it at one input. -/
def fnExactNormOfWrong : ChangeSpec := { name := "fnExactNormOf", fn := fun _ => fun
  | [d1, d2] => { results := [.lit (.bool false)], args := [d1, d2] }
  | _ => none }
def FnExactNormOfWrongFalsely : Prop := fnExactNormOfRow.holds Try.pinned (OpenSpec.ofChange fnExactNormOfWrong)

/-- 'laws.FnExactNearVecs': WHATEVER THE INPUT: true; the input reads as it did. -/
def fnExactNearVecsSpec : ChangeSpec := { name := "fnExactNearVecs", fn := fun _ => fun
  | [d1, d2] => { results := [.lit (.bool true)], args := [d1, d2] }
  | _ => none }
def fnExactNearVecsRow : OpenClaim := { program := "ytcdjkcmagfakfaa", sum := "43168cb71d1f60e2829b968eb1afc981a263b1832de3bf34320300b74e7a73a4", func := "loop.example/g00943/laws.FnExactNearVecs", spec := "fnExactNearVecs", unfollowed := true, recurses := true, apart := false }
def FnExactNearVecsSaid : Prop := fnExactNearVecsRow.holds Try.pinned (OpenSpec.ofChange fnExactNearVecsSpec)

/-- ITS FALSE NEIGHBOUR: 'it returns false'. Refute it at one input. -/
def fnExactNearVecsWrong : ChangeSpec := { name := "fnExactNearVecs", fn := fun _ => fun
  | [d1, d2] => { results := [.lit (.bool false)], args := [d1, d2] }
  | _ => none }
def FnExactNearVecsWrongFalsely : Prop := fnExactNearVecsRow.holds Try.pinned (OpenSpec.ofChange fnExactNearVecsWrong)

/-- 'laws.FnExactLatticeMats': WHATEVER THE INPUT: true; the input reads as it did. -/
def fnExactLatticeMatsSpec : ChangeSpec := { name := "fnExactLatticeMats", fn := fun _ => fun
  | [d1, d2] => { results := [.lit (.bool true)], args := [d1, d2] }
  | _ => none }
def fnExactLatticeMatsRow : OpenClaim := { program := "ytcdjkcmagfakfaa", sum := "43168cb71d1f60e2829b968eb1afc981a263b1832de3bf34320300b74e7a73a4", func := "loop.example/g00943/laws.FnExactLatticeMats", spec := "fnExactLatticeMats", unfollowed := true, recurses := true, apart := false }
def FnExactLatticeMatsSaid : Prop := fnExactLatticeMatsRow.holds Try.pinned (OpenSpec.ofChange fnExactLatticeMatsSpec)

/-- ITS FALSE NEIGHBOUR: 'it returns false'. Refute it at one input. -/
def fnExactLatticeMatsWrong : ChangeSpec := { name := "fnExactLatticeMats", fn := fun _ => fun
  | [d1, d2] => { results := [.lit (.bool false)], args := [d1, d2] }
  | _ => none }
def FnExactLatticeMatsWrongFalsely : Prop := fnExactLatticeMatsRow.holds Try.pinned (OpenSpec.ofChange fnExactLatticeMatsWrong)

/-- 'laws.FnExactShortestVecs': WHATEVER THE INPUT: true; the input reads as it did. -/
def fnExactShortestVecsSpec : ChangeSpec := { name := "fnExactShortestVecs", fn := fun _ => fun
  | [d1, d2] => { results := [.lit (.bool true)], args := [d1, d2] }
  | _ => none }
def fnExactShortestVecsRow : OpenClaim := { program := "ytcdjkcmagfakfaa", sum := "43168cb71d1f60e2829b968eb1afc981a263b1832de3bf34320300b74e7a73a4", func := "loop.example/g00943/laws.FnExactShortestVecs", spec := "fnExactShortestVecs", unfollowed := true, recurses := true, apart := false }
def FnExactShortestVecsSaid : Prop := fnExactShortestVecsRow.holds Try.pinned (OpenSpec.ofChange fnExactShortestVecsSpec)

/-- ITS FALSE NEIGHBOUR: 'it returns false'. Refute it at one input. -/
def fnExactShortestVecsWrong : ChangeSpec := { name := "fnExactShortestVecs", fn := fun _ => fun
  | [d1, d2] => { results := [.lit (.bool false)], args := [d1, d2] }
  | _ => none }
def FnExactShortestVecsWrongFalsely : Prop := fnExactShortestVecsRow.holds Try.pinned (OpenSpec.ofChange fnExactShortestVecsWrong)

/-- 'laws.FnExactReducedBasis': WHATEVER THE INPUT: true; the input reads as it did. -/
def fnExactReducedBasisSpec : ChangeSpec := { name := "fnExactReducedBasis", fn := fun _ => fun
  | [d1, d2] => { results := [.lit (.bool true)], args := [d1, d2] }
  | _ => none }
def fnExactReducedBasisRow : OpenClaim := { program := "ytcdjkcmagfakfaa", sum := "43168cb71d1f60e2829b968eb1afc981a263b1832de3bf34320300b74e7a73a4", func := "loop.example/g00943/laws.FnExactReducedBasis", spec := "fnExactReducedBasis", unfollowed := true, recurses := true, apart := false }
def FnExactReducedBasisSaid : Prop := fnExactReducedBasisRow.holds Try.pinned (OpenSpec.ofChange fnExactReducedBasisSpec)

/-- ITS FALSE NEIGHBOUR: 'it returns false'. Refute it at one input. -/
def fnExactReducedBasisWrong : ChangeSpec := { name := "fnExactReducedBasis", fn := fun _ => fun
  | [d1, d2] => { results := [.lit (.bool false)], args := [d1, d2] }
  | _ => none }
def FnExactReducedBasisWrongFalsely : Prop := fnExactReducedBasisRow.holds Try.pinned (OpenSpec.ofChange fnExactReducedBasisWrong)

/-- 'laws.FnExactMapLattice': WHATEVER THE INPUT: true; the input reads as it did. -/
def fnExactMapLatticeSpec : ChangeSpec := { name := "fnExactMapLattice", fn := fun _ => fun
  | [d1, d2, d3] => { results := [.lit (.bool true)], args := [d1, d2, d3] }
  | _ => none }
def fnExactMapLatticeRow : OpenClaim := { program := "ytcdjkcmagfakfaa", sum := "43168cb71d1f60e2829b968eb1afc981a263b1832de3bf34320300b74e7a73a4", func := "loop.example/g00943/laws.FnExactMapLattice", spec := "fnExactMapLattice", unfollowed := true, recurses := true, apart := false }
def FnExactMapLatticeSaid : Prop := fnExactMapLatticeRow.holds Try.pinned (OpenSpec.ofChange fnExactMapLatticeSpec)

/-- ITS FALSE NEIGHBOUR: 'it returns false'. Refute it at one input. -/
def fnExactMapLatticeWrong : ChangeSpec := { name := "fnExactMapLattice", fn := fun _ => fun
  | [d1, d2, d3] => { results := [.lit (.bool false)], args := [d1, d2, d3] }
  | _ => none }
def FnExactMapLatticeWrongFalsely : Prop := fnExactMapLatticeRow.holds Try.pinned (OpenSpec.ofChange fnExactMapLatticeWrong)

/- THE SECOND FORM. 'bulk': how many values and letters a reading holds, each counted each time it is reached (what is shared counts as often as it is met; a slice's spare places count too). A statement '..UptoSaid' is the law's where the arguments, and the package variables that the reading takes, are together of bulk at most 1048576: NARROWER than '..Said'. Prove '..Said' where nothing that the law and all that it calls make is longer than what came in: it says more and counts as full. Else prove '..UptoSaid'. A law counts once. -/
mutual
def uptoBulk {H : Type} : DataW H → Nat
  | .lit (.string bytes) => bytes.length + 1
  | .lit _ => 1
  | .nil => 1
  | .ptr d => uptoBulk d + 1
  | .slice elems spare => uptoBulkAll elems + uptoBulkAll spare + 1
  | .agg parts => uptoBulkAll parts + 1
  | .iface _ d => uptoBulk d + 1
  | .map entries => uptoBulkEntries entries + 1
  | .held _ => 1
def uptoBulkAll {H : Type} : List (DataW H) → Nat
  | [] => 0
  | d :: r => uptoBulk d + uptoBulkAll r
def uptoBulkEntries {H : Type} : List (Lit × DataW H) → Nat
  | [] => 0
  | x :: r => uptoBulkEntry x + uptoBulkEntries r
def uptoBulkEntry {H : Type} : Lit × DataW H → Nat
  | (.string bytes, d) => bytes.length + uptoBulk d + 1
  | (_, d) => uptoBulk d + 1
 end
def uptoSmall : (H : Type) → List (DataW H) → Bool := fun _ ds => decide (uptoBulkAll ds ≤ 1048576)
def OpenSpec.upto (s : _root_.Go.ChangeSpec) : _root_.Go.OpenSpec := { _root_.Go.OpenSpec.ofChange s with cond := some uptoSmall }

/-- 'laws.FnBases', WHERE WHAT IT READS IS OF BULK AT MOST 1048576: true; the input reads as it did. -/
def fnBasesUptoRow : OpenClaim := { program := "ytcdjkcmagfakfaa", sum := "43168cb71d1f60e2829b968eb1afc981a263b1832de3bf34320300b74e7a73a4", func := "loop.example/g00943/laws.FnBases", spec := "fnBases", unfollowed := true, recurses := true, apart := false, narrowed := true }
def FnBasesUptoSaid : Prop := fnBasesUptoRow.holds Try.pinned (OpenSpec.upto fnBasesSpec)

/-- 'laws.FnNear', WHERE WHAT IT READS IS OF BULK AT MOST 1048576: true; the input reads as it did. -/
def fnNearUptoRow : OpenClaim := { program := "ytcdjkcmagfakfaa", sum := "43168cb71d1f60e2829b968eb1afc981a263b1832de3bf34320300b74e7a73a4", func := "loop.example/g00943/laws.FnNear", spec := "fnNear", unfollowed := true, recurses := true, apart := false, narrowed := true }
def FnNearUptoSaid : Prop := fnNearUptoRow.holds Try.pinned (OpenSpec.upto fnNearSpec)

/-- 'laws.FnPointMats', WHERE WHAT IT READS IS OF BULK AT MOST 1048576: true; the input reads as it did. -/
def fnPointMatsUptoRow : OpenClaim := { program := "ytcdjkcmagfakfaa", sum := "43168cb71d1f60e2829b968eb1afc981a263b1832de3bf34320300b74e7a73a4", func := "loop.example/g00943/laws.FnPointMats", spec := "fnPointMats", unfollowed := true, recurses := true, apart := false, narrowed := true }
def FnPointMatsUptoSaid : Prop := fnPointMatsUptoRow.holds Try.pinned (OpenSpec.upto fnPointMatsSpec)

/-- 'laws.FnExactIsFrame', WHERE WHAT IT READS IS OF BULK AT MOST 1048576: true; the input reads as it did. -/
def fnExactIsFrameUptoRow : OpenClaim := { program := "ytcdjkcmagfakfaa", sum := "43168cb71d1f60e2829b968eb1afc981a263b1832de3bf34320300b74e7a73a4", func := "loop.example/g00943/laws.FnExactIsFrame", spec := "fnExactIsFrame", apart := false, narrowed := true }
def FnExactIsFrameUptoSaid : Prop := fnExactIsFrameUptoRow.holds Try.pinned (OpenSpec.upto fnExactIsFrameSpec)

/-- 'laws.FnExactPointMats', WHERE WHAT IT READS IS OF BULK AT MOST 1048576: true; the input reads as it did. -/
def fnExactPointMatsUptoRow : OpenClaim := { program := "ytcdjkcmagfakfaa", sum := "43168cb71d1f60e2829b968eb1afc981a263b1832de3bf34320300b74e7a73a4", func := "loop.example/g00943/laws.FnExactPointMats", spec := "fnExactPointMats", unfollowed := true, recurses := true, apart := false, narrowed := true }
def FnExactPointMatsUptoSaid : Prop := fnExactPointMatsUptoRow.holds Try.pinned (OpenSpec.upto fnExactPointMatsSpec)

/-- 'laws.FnExactIsPointMat', WHERE WHAT IT READS IS OF BULK AT MOST 1048576: true; the input reads as it did. -/
def fnExactIsPointMatUptoRow : OpenClaim := { program := "ytcdjkcmagfakfaa", sum := "43168cb71d1f60e2829b968eb1afc981a263b1832de3bf34320300b74e7a73a4", func := "loop.example/g00943/laws.FnExactIsPointMat", spec := "fnExactIsPointMat", unfollowed := true, recurses := true, apart := false, narrowed := true }
def FnExactIsPointMatUptoSaid : Prop := fnExactIsPointMatUptoRow.holds Try.pinned (OpenSpec.upto fnExactIsPointMatSpec)

/-- 'laws.FnExactNormOf', WHERE WHAT IT READS IS OF BULK AT MOST 1048576: true; the input reads as it did. -/
def fnExactNormOfUptoRow : OpenClaim := { program := "ytcdjkcmagfakfaa", sum := "43168cb71d1f60e2829b968eb1afc981a263b1832de3bf34320300b74e7a73a4", func := "loop.example/g00943/laws.FnExactNormOf", spec := "fnExactNormOf", unfollowed := true, recurses := true, apart := false, narrowed := true }
def FnExactNormOfUptoSaid : Prop := fnExactNormOfUptoRow.holds Try.pinned (OpenSpec.upto fnExactNormOfSpec)

/-- 'laws.FnExactNearVecs', WHERE WHAT IT READS IS OF BULK AT MOST 1048576: true; the input reads as it did. -/
def fnExactNearVecsUptoRow : OpenClaim := { program := "ytcdjkcmagfakfaa", sum := "43168cb71d1f60e2829b968eb1afc981a263b1832de3bf34320300b74e7a73a4", func := "loop.example/g00943/laws.FnExactNearVecs", spec := "fnExactNearVecs", unfollowed := true, recurses := true, apart := false, narrowed := true }
def FnExactNearVecsUptoSaid : Prop := fnExactNearVecsUptoRow.holds Try.pinned (OpenSpec.upto fnExactNearVecsSpec)

/-- 'laws.FnExactLatticeMats', WHERE WHAT IT READS IS OF BULK AT MOST 1048576: true; the input reads as it did. -/
def fnExactLatticeMatsUptoRow : OpenClaim := { program := "ytcdjkcmagfakfaa", sum := "43168cb71d1f60e2829b968eb1afc981a263b1832de3bf34320300b74e7a73a4", func := "loop.example/g00943/laws.FnExactLatticeMats", spec := "fnExactLatticeMats", unfollowed := true, recurses := true, apart := false, narrowed := true }
def FnExactLatticeMatsUptoSaid : Prop := fnExactLatticeMatsUptoRow.holds Try.pinned (OpenSpec.upto fnExactLatticeMatsSpec)

/-- 'laws.FnExactShortestVecs', WHERE WHAT IT READS IS OF BULK AT MOST 1048576: true; the input reads as it did. -/
def fnExactShortestVecsUptoRow : OpenClaim := { program := "ytcdjkcmagfakfaa", sum := "43168cb71d1f60e2829b968eb1afc981a263b1832de3bf34320300b74e7a73a4", func := "loop.example/g00943/laws.FnExactShortestVecs", spec := "fnExactShortestVecs", unfollowed := true, recurses := true, apart := false, narrowed := true }
def FnExactShortestVecsUptoSaid : Prop := fnExactShortestVecsUptoRow.holds Try.pinned (OpenSpec.upto fnExactShortestVecsSpec)

/-- 'laws.FnExactReducedBasis', WHERE WHAT IT READS IS OF BULK AT MOST 1048576: true; the input reads as it did. -/
def fnExactReducedBasisUptoRow : OpenClaim := { program := "ytcdjkcmagfakfaa", sum := "43168cb71d1f60e2829b968eb1afc981a263b1832de3bf34320300b74e7a73a4", func := "loop.example/g00943/laws.FnExactReducedBasis", spec := "fnExactReducedBasis", unfollowed := true, recurses := true, apart := false, narrowed := true }
def FnExactReducedBasisUptoSaid : Prop := fnExactReducedBasisUptoRow.holds Try.pinned (OpenSpec.upto fnExactReducedBasisSpec)

/-- 'laws.FnExactMapLattice', WHERE WHAT IT READS IS OF BULK AT MOST 1048576: true; the input reads as it did. -/
def fnExactMapLatticeUptoRow : OpenClaim := { program := "ytcdjkcmagfakfaa", sum := "43168cb71d1f60e2829b968eb1afc981a263b1832de3bf34320300b74e7a73a4", func := "loop.example/g00943/laws.FnExactMapLattice", spec := "fnExactMapLattice", unfollowed := true, recurses := true, apart := false, narrowed := true }
def FnExactMapLatticeUptoSaid : Prop := fnExactMapLatticeUptoRow.holds Try.pinned (OpenSpec.upto fnExactMapLatticeSpec)

end Rows
end Go.Proofs.Ytcdjkcmagfakfaa
