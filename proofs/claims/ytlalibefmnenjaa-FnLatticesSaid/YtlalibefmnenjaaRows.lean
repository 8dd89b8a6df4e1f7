/-
  No cell of these rows narrows 'for every input' (looked for: loops, veiled, ifaces, maps, wideKeys, modest, calm, conditions, laid).
  DERIVED. THE GIVEN ROWS OF THIS SEAT. 10 by the template 'for every input the law returns true; each argument reads behind the call as it read before'; 0 by the template 'total and deterministic' (their statements: YtlalibefmnenjaaTotals.lean).
  GIVEN WITH THE SEED: the statements are not yours to turn. If you find one false, say at which input.
  Laid BY PROGRAM, IN A SANDBOX (cutbox-rows.mjs): the forced cells as the released guide's own fill.sh prints them over the translation acd600c9e47530b6… (all of the seat's roots in one cut). By AI agents, Wed Nov 11 2026. No macro, syntax, notation, axiom, sorry.
-/
import Derived.Test.YtlalibefmnenjaaChecked
import GoSem.Claim
import GoSem.ClaimJoined
import GoSem.ClaimMapViews
import Derived.JoinedTies
import Derived.KernelRfl
namespace Go.Proofs.Ytlalibefmnenjaa
/- THE CELL 'sum', in the pinned program and in every row, IS THE sha256 OF THE DUMP (.gsa) THAT YtlalibefmnenjaaProg.lean LOADS. Nothing in Lean hashes anything: it is a label: what it is worth is what the hold of that sum in a sandbox is worth. -/
noncomputable def Try.pinned : Pinned := { name := "ytlalibefmnenjaa", sum := "acd600c9e47530b6b3fb62c2d1cc46cb295b2c38398f37bcd9b5298cfc7fed07", checked := Try.checked }
namespace Rows
def none {H : Type} : Left H := { results := [], args := [] }

/-- 'laws.FnLattices': WHATEVER THE INPUT: true; the input reads as it did. -/
def fnLatticesSpec : ChangeSpec := { name := "fnLattices", fn := fun _ => fun
  | [d] => { results := [.lit (.bool true)], args := [d] }
  | _ => none }
def fnLatticesRow : OpenClaim := { program := "ytlalibefmnenjaa", sum := "acd600c9e47530b6b3fb62c2d1cc46cb295b2c38398f37bcd9b5298cfc7fed07", func := "loop.example/g00943/laws.FnLattices", spec := "fnLattices", recurses := true, apart := false }
def FnLatticesSaid : Prop := fnLatticesRow.holds Try.pinned (OpenSpec.ofChange fnLatticesSpec)

/-- ITS FALSE NEIGHBOUR: 'it returns false'. Refute it at one input. -/
def fnLatticesWrong : ChangeSpec := { name := "fnLattices", fn := fun _ => fun
  | [d] => { results := [.lit (.bool false)], args := [d] }
  | _ => none }
def FnLatticesWrongFalsely : Prop := fnLatticesRow.holds Try.pinned (OpenSpec.ofChange fnLatticesWrong)

/-- 'laws.FnJoins': WHATEVER THE INPUT: true; the input reads as it did. -/
def fnJoinsSpec : ChangeSpec := { name := "fnJoins", fn := fun _ => fun
  | [d] => { results := [.lit (.bool true)], args := [d] }
  | _ => none }
def fnJoinsRow : OpenClaim := { program := "ytlalibefmnenjaa", sum := "acd600c9e47530b6b3fb62c2d1cc46cb295b2c38398f37bcd9b5298cfc7fed07", func := "loop.example/g00943/laws.FnJoins", spec := "fnJoins", recurses := true, apart := false }
def FnJoinsSaid : Prop := fnJoinsRow.holds Try.pinned (OpenSpec.ofChange fnJoinsSpec)

/-- ITS FALSE NEIGHBOUR: 'it returns false'. Refute it at one input. -/
def fnJoinsWrong : ChangeSpec := { name := "fnJoins", fn := fun _ => fun
  | [d] => { results := [.lit (.bool false)], args := [d] }
  | _ => none }
def FnJoinsWrongFalsely : Prop := fnJoinsRow.holds Try.pinned (OpenSpec.ofChange fnJoinsWrong)

/-- 'laws.FnExactIsLattice': WHATEVER THE INPUT: true; the input reads as it did. -/
def fnExactIsLatticeSpec : ChangeSpec := { name := "fnExactIsLattice", fn := fun _ => fun
  | [d] => { results := [.lit (.bool true)], args := [d] }
  | _ => none }
def fnExactIsLatticeRow : OpenClaim := { program := "ytlalibefmnenjaa", sum := "acd600c9e47530b6b3fb62c2d1cc46cb295b2c38398f37bcd9b5298cfc7fed07", func := "loop.example/g00943/laws.FnExactIsLattice", spec := "fnExactIsLattice", apart := false }
def FnExactIsLatticeSaid : Prop := fnExactIsLatticeRow.holds Try.pinned (OpenSpec.ofChange fnExactIsLatticeSpec)

/-- ITS FALSE NEIGHBOUR: 'it returns false'. Refute it at one input. -/
def fnExactIsLatticeWrong : ChangeSpec := { name := "fnExactIsLattice", fn := fun _ => fun
  | [d] => { results := [.lit (.bool false)], args := [d] }
  | _ => none }
def FnExactIsLatticeWrongFalsely : Prop := fnExactIsLatticeRow.holds Try.pinned (OpenSpec.ofChange fnExactIsLatticeWrong)

/-- 'laws.FnExactLatticeOf': WHATEVER THE INPUT: true; the input reads as it did. -/
def fnExactLatticeOfSpec : ChangeSpec := { name := "fnExactLatticeOf", fn := fun _ => fun
  | [d1, d2] => { results := [.lit (.bool true)], args := [d1, d2] }
  | _ => none }
def fnExactLatticeOfRow : OpenClaim := { program := "ytlalibefmnenjaa", sum := "acd600c9e47530b6b3fb62c2d1cc46cb295b2c38398f37bcd9b5298cfc7fed07", func := "loop.example/g00943/laws.FnExactLatticeOf", spec := "fnExactLatticeOf", recurses := true, apart := false }
def FnExactLatticeOfSaid : Prop := fnExactLatticeOfRow.holds Try.pinned (OpenSpec.ofChange fnExactLatticeOfSpec)

/-- ITS FALSE NEIGHBOUR: 'it returns false'. Refute it at one input. -/
def fnExactLatticeOfWrong : ChangeSpec := { name := "fnExactLatticeOf", fn := fun _ => fun
  | [d1, d2] => { results := [.lit (.bool false)], args := [d1, d2] }
  | _ => none }
def FnExactLatticeOfWrongFalsely : Prop := fnExactLatticeOfRow.holds Try.pinned (OpenSpec.ofChange fnExactLatticeOfWrong)

/-- 'laws.FnExactReduceVec': WHATEVER THE INPUT: true; the input reads as it did. -/
def fnExactReduceVecSpec : ChangeSpec := { name := "fnExactReduceVec", fn := fun _ => fun
  | [d1, d2] => { results := [.lit (.bool true)], args := [d1, d2] }
  | _ => none }
def fnExactReduceVecRow : OpenClaim := { program := "ytlalibefmnenjaa", sum := "acd600c9e47530b6b3fb62c2d1cc46cb295b2c38398f37bcd9b5298cfc7fed07", func := "loop.example/g00943/laws.FnExactReduceVec", spec := "fnExactReduceVec", apart := false }
def FnExactReduceVecSaid : Prop := fnExactReduceVecRow.holds Try.pinned (OpenSpec.ofChange fnExactReduceVecSpec)

/-- ITS FALSE NEIGHBOUR: 'it returns false'. Refute it at one input. -/
def fnExactReduceVecWrong : ChangeSpec := { name := "fnExactReduceVec", fn := fun _ => fun
  | [d1, d2] => { results := [.lit (.bool false)], args := [d1, d2] }
  | _ => none }
def FnExactReduceVecWrongFalsely : Prop := fnExactReduceVecRow.holds Try.pinned (OpenSpec.ofChange fnExactReduceVecWrong)

/-- 'laws.FnExactIsInLattice': WHATEVER THE INPUT: true; the input reads as it did. -/
def fnExactIsInLatticeSpec : ChangeSpec := { name := "fnExactIsInLattice", fn := fun _ => fun
  | [d1, d2] => { results := [.lit (.bool true)], args := [d1, d2] }
  | _ => none }
def fnExactIsInLatticeRow : OpenClaim := { program := "ytlalibefmnenjaa", sum := "acd600c9e47530b6b3fb62c2d1cc46cb295b2c38398f37bcd9b5298cfc7fed07", func := "loop.example/g00943/laws.FnExactIsInLattice", spec := "fnExactIsInLattice", apart := false }
def FnExactIsInLatticeSaid : Prop := fnExactIsInLatticeRow.holds Try.pinned (OpenSpec.ofChange fnExactIsInLatticeSpec)

/-- ITS FALSE NEIGHBOUR: 'it returns false'. Refute it at one input. -/
def fnExactIsInLatticeWrong : ChangeSpec := { name := "fnExactIsInLattice", fn := fun _ => fun
  | [d1, d2] => { results := [.lit (.bool false)], args := [d1, d2] }
  | _ => none }
def FnExactIsInLatticeWrongFalsely : Prop := fnExactIsInLatticeRow.holds Try.pinned (OpenSpec.ofChange fnExactIsInLatticeWrong)

/-- 'laws.FnExactCellsOf': WHATEVER THE INPUT: true; the input reads as it did. -/
def fnExactCellsOfSpec : ChangeSpec := { name := "fnExactCellsOf", fn := fun _ => fun
  | [d] => { results := [.lit (.bool true)], args := [d] }
  | _ => none }
def fnExactCellsOfRow : OpenClaim := { program := "ytlalibefmnenjaa", sum := "acd600c9e47530b6b3fb62c2d1cc46cb295b2c38398f37bcd9b5298cfc7fed07", func := "loop.example/g00943/laws.FnExactCellsOf", spec := "fnExactCellsOf", unfollowed := true, recurses := true, apart := false }
def FnExactCellsOfSaid : Prop := fnExactCellsOfRow.holds Try.pinned (OpenSpec.ofChange fnExactCellsOfSpec)

/-- ITS FALSE NEIGHBOUR: 'it returns false'. Refute it at one input. -/
def fnExactCellsOfWrong : ChangeSpec := { name := "fnExactCellsOf", fn := fun _ => fun
  | [d] => { results := [.lit (.bool false)], args := [d] }
  | _ => none }
def FnExactCellsOfWrongFalsely : Prop := fnExactCellsOfRow.holds Try.pinned (OpenSpec.ofChange fnExactCellsOfWrong)

/-- 'laws.FnExactJoinLattices': WHATEVER THE INPUT: true; the input reads as it did. -/
def fnExactJoinLatticesSpec : ChangeSpec := { name := "fnExactJoinLattices", fn := fun _ => fun
  | [d1, d2] => { results := [.lit (.bool true)], args := [d1, d2] }
  | _ => none }
def fnExactJoinLatticesRow : OpenClaim := { program := "ytlalibefmnenjaa", sum := "acd600c9e47530b6b3fb62c2d1cc46cb295b2c38398f37bcd9b5298cfc7fed07", func := "loop.example/g00943/laws.FnExactJoinLattices", spec := "fnExactJoinLattices", recurses := true, apart := false }
def FnExactJoinLatticesSaid : Prop := fnExactJoinLatticesRow.holds Try.pinned (OpenSpec.ofChange fnExactJoinLatticesSpec)

/-- ITS FALSE NEIGHBOUR: 'it returns false'. Refute it at one input. -/
def fnExactJoinLatticesWrong : ChangeSpec := { name := "fnExactJoinLattices", fn := fun _ => fun
  | [d1, d2] => { results := [.lit (.bool false)], args := [d1, d2] }
  | _ => none }
def FnExactJoinLatticesWrongFalsely : Prop := fnExactJoinLatticesRow.holds Try.pinned (OpenSpec.ofChange fnExactJoinLatticesWrong)

/-- 'laws.FnExactMeetLattices': WHATEVER THE INPUT: true; the input reads as it did. -/
def fnExactMeetLatticesSpec : ChangeSpec := { name := "fnExactMeetLattices", fn := fun _ => fun
  | [d1, d2] => { results := [.lit (.bool true)], args := [d1, d2] }
  | _ => none }
def fnExactMeetLatticesRow : OpenClaim := { program := "ytlalibefmnenjaa", sum := "acd600c9e47530b6b3fb62c2d1cc46cb295b2c38398f37bcd9b5298cfc7fed07", func := "loop.example/g00943/laws.FnExactMeetLattices", spec := "fnExactMeetLattices", apart := false }
def FnExactMeetLatticesSaid : Prop := fnExactMeetLatticesRow.holds Try.pinned (OpenSpec.ofChange fnExactMeetLatticesSpec)

/-- ITS FALSE NEIGHBOUR: 'it returns false'. Refute it at one input. -/
def fnExactMeetLatticesWrong : ChangeSpec := { name := "fnExactMeetLattices", fn := fun _ => fun
  | [d1, d2] => { results := [.lit (.bool false)], args := [d1, d2] }
  | _ => none }
def FnExactMeetLatticesWrongFalsely : Prop := fnExactMeetLatticesRow.holds Try.pinned (OpenSpec.ofChange fnExactMeetLatticesWrong)

/-- 'laws.FnExactSublatticesOf': WHATEVER THE INPUT: true; the input reads as it did. -/
def fnExactSublatticesOfSpec : ChangeSpec := { name := "fnExactSublatticesOf", fn := fun _ => fun
  | [d] => { results := [.lit (.bool true)], args := [d] }
  | _ => none }
def fnExactSublatticesOfRow : OpenClaim := { program := "ytlalibefmnenjaa", sum := "acd600c9e47530b6b3fb62c2d1cc46cb295b2c38398f37bcd9b5298cfc7fed07", func := "loop.example/g00943/laws.FnExactSublatticesOf", spec := "fnExactSublatticesOf", apart := false }
def FnExactSublatticesOfSaid : Prop := fnExactSublatticesOfRow.holds Try.pinned (OpenSpec.ofChange fnExactSublatticesOfSpec)

/-- ITS FALSE NEIGHBOUR: 'it returns false'. Refute it at one input. -/
def fnExactSublatticesOfWrong : ChangeSpec := { name := "fnExactSublatticesOf", fn := fun _ => fun
  | [d] => { results := [.lit (.bool false)], args := [d] }
  | _ => none }
def FnExactSublatticesOfWrongFalsely : Prop := fnExactSublatticesOfRow.holds Try.pinned (OpenSpec.ofChange fnExactSublatticesOfWrong)

/- THE SECOND FORM. 'bulk': how many values and letters a reading holds, each counted each time it is reached (what is shared counts as often as it is met; a slice's spare places count too). A statement '..UptoSaid' is the law's where the arguments, and the package variables that the reading takes, are together of bulk at most 1048576: NARROWER than '..Said'. Prove '..Said' where nothing that the law and all that it calls make is longer than what came in: it says more and counts as full. Else prove '..UptoSaid'. A law counts once. -/
mutual
def uptoBulk {H : Type} : DataW H → Nat
  | .lit (.string bytes) => bytes.length + 1
  | .lit _ => 1
  | .nil => 1
  | .ptr d => uptoBulk d + 1
  | .slice elems spare => uptoBulkAll elems + uptoBulkAll spare + 1
  | .agg parts => uptoBulkAll parts + 1
  | .iface _ d => uptoBulk d + 1
  | .map entries => uptoBulkEntries entries + 1
  | .held _ => 1
def uptoBulkAll {H : Type} : List (DataW H) → Nat
  | [] => 0
  | d :: r => uptoBulk d + uptoBulkAll r
def uptoBulkEntries {H : Type} : List (Lit × DataW H) → Nat
  | [] => 0
  | x :: r => uptoBulkEntry x + uptoBulkEntries r
def uptoBulkEntry {H : Type} : Lit × DataW H → Nat
  | (.string bytes, d) => bytes.length + uptoBulk d + 1
  | (_, d) => uptoBulk d + 1
 end
def uptoSmall : (H : Type) → List (DataW H) → Bool := fun _ ds => decide (uptoBulkAll ds ≤ 1048576)
def OpenSpec.upto (s : _root_.Go.ChangeSpec) : _root_.Go.OpenSpec := { _root_.Go.OpenSpec.ofChange s with cond := some uptoSmall }

/-- 'laws.FnLattices', WHERE WHAT IT READS IS OF BULK AT MOST 1048576: true; the input reads as it did. -/
def fnLatticesUptoRow : OpenClaim := { program := "ytlalibefmnenjaa", sum := "acd600c9e47530b6b3fb62c2d1cc46cb295b2c38398f37bcd9b5298cfc7fed07", func := "loop.example/g00943/laws.FnLattices", spec := "fnLattices", recurses := true, apart := false, narrowed := true }
def FnLatticesUptoSaid : Prop := fnLatticesUptoRow.holds Try.pinned (OpenSpec.upto fnLatticesSpec)

/-- 'laws.FnJoins', WHERE WHAT IT READS IS OF BULK AT MOST 1048576: true; the input reads as it did. -/
def fnJoinsUptoRow : OpenClaim := { program := "ytlalibefmnenjaa", sum := "acd600c9e47530b6b3fb62c2d1cc46cb295b2c38398f37bcd9b5298cfc7fed07", func := "loop.example/g00943/laws.FnJoins", spec := "fnJoins", recurses := true, apart := false, narrowed := true }
def FnJoinsUptoSaid : Prop := fnJoinsUptoRow.holds Try.pinned (OpenSpec.upto fnJoinsSpec)

/-- 'laws.FnExactIsLattice', WHERE WHAT IT READS IS OF BULK AT MOST 1048576: true; the input reads as it did. -/
def fnExactIsLatticeUptoRow : OpenClaim := { program := "ytlalibefmnenjaa", sum := "acd600c9e47530b6b3fb62c2d1cc46cb295b2c38398f37bcd9b5298cfc7fed07", func := "loop.example/g00943/laws.FnExactIsLattice", spec := "fnExactIsLattice", apart := false, narrowed := true }
def FnExactIsLatticeUptoSaid : Prop := fnExactIsLatticeUptoRow.holds Try.pinned (OpenSpec.upto fnExactIsLatticeSpec)

/-- 'laws.FnExactLatticeOf', WHERE WHAT IT READS IS OF BULK AT MOST 1048576: true; the input reads as it did. -/
def fnExactLatticeOfUptoRow : OpenClaim := { program := "ytlalibefmnenjaa", sum := "acd600c9e47530b6b3fb62c2d1cc46cb295b2c38398f37bcd9b5298cfc7fed07", func := "loop.example/g00943/laws.FnExactLatticeOf", spec := "fnExactLatticeOf", recurses := true, apart := false, narrowed := true }
def FnExactLatticeOfUptoSaid : Prop := fnExactLatticeOfUptoRow.holds Try.pinned (OpenSpec.upto fnExactLatticeOfSpec)

/-- 'laws.FnExactReduceVec', WHERE WHAT IT READS IS OF BULK AT MOST 1048576: true; the input reads as it did. -/
def fnExactReduceVecUptoRow : OpenClaim := { program := "ytlalibefmnenjaa", sum := "acd600c9e47530b6b3fb62c2d1cc46cb295b2c38398f37bcd9b5298cfc7fed07", func := "loop.example/g00943/laws.FnExactReduceVec", spec := "fnExactReduceVec", apart := false, narrowed := true }
def FnExactReduceVecUptoSaid : Prop := fnExactReduceVecUptoRow.holds Try.pinned (OpenSpec.upto fnExactReduceVecSpec)

/-- 'laws.FnExactIsInLattice', WHERE WHAT IT READS IS OF BULK AT MOST 1048576: true; the input reads as it did. -/
def fnExactIsInLatticeUptoRow : OpenClaim := { program := "ytlalibefmnenjaa", sum := "acd600c9e47530b6b3fb62c2d1cc46cb295b2c38398f37bcd9b5298cfc7fed07", func := "loop.example/g00943/laws.FnExactIsInLattice", spec := "fnExactIsInLattice", apart := false, narrowed := true }
def FnExactIsInLatticeUptoSaid : Prop := fnExactIsInLatticeUptoRow.holds Try.pinned (OpenSpec.upto fnExactIsInLatticeSpec)

/-- 'laws.FnExactCellsOf', WHERE WHAT IT READS IS OF BULK AT MOST 1048576: true; the input reads as it did. -/
def fnExactCellsOfUptoRow : OpenClaim := { program := "ytlalibefmnenjaa", sum := "acd600c9e47530b6b3fb62c2d1cc46cb295b2c38398f37bcd9b5298cfc7fed07", func := "loop.example/g00943/laws.FnExactCellsOf", spec := "fnExactCellsOf", unfollowed := true, recurses := true, apart := false, narrowed := true }
def FnExactCellsOfUptoSaid : Prop := fnExactCellsOfUptoRow.holds Try.pinned (OpenSpec.upto fnExactCellsOfSpec)

/-- 'laws.FnExactJoinLattices', WHERE WHAT IT READS IS OF BULK AT MOST 1048576: true; the input reads as it did. -/
def fnExactJoinLatticesUptoRow : OpenClaim := { program := "ytlalibefmnenjaa", sum := "acd600c9e47530b6b3fb62c2d1cc46cb295b2c38398f37bcd9b5298cfc7fed07", func := "loop.example/g00943/laws.FnExactJoinLattices", spec := "fnExactJoinLattices", recurses := true, apart := false, narrowed := true }
def FnExactJoinLatticesUptoSaid : Prop := fnExactJoinLatticesUptoRow.holds Try.pinned (OpenSpec.upto fnExactJoinLatticesSpec)

/-- 'laws.FnExactMeetLattices', WHERE WHAT IT READS IS OF BULK AT MOST 1048576: true; the input reads as it did. -/
def fnExactMeetLatticesUptoRow : OpenClaim := { program := "ytlalibefmnenjaa", sum := "acd600c9e47530b6b3fb62c2d1cc46cb295b2c38398f37bcd9b5298cfc7fed07", func := "loop.example/g00943/laws.FnExactMeetLattices", spec := "fnExactMeetLattices", apart := false, narrowed := true }
def FnExactMeetLatticesUptoSaid : Prop := fnExactMeetLatticesUptoRow.holds Try.pinned (OpenSpec.upto fnExactMeetLatticesSpec)

/-- 'laws.FnExactSublatticesOf', WHERE WHAT IT READS IS OF BULK AT MOST 1048576: true; the input reads as it did. -/
def fnExactSublatticesOfUptoRow : OpenClaim := { program := "ytlalibefmnenjaa", sum := "acd600c9e47530b6b3fb62c2d1cc46cb295b2c38398f37bcd9b5298cfc7fed07", func := "loop.example/g00943/laws.FnExactSublatticesOf", spec := "fnExactSublatticesOf", apart := false, narrowed := true }
def FnExactSublatticesOfUptoSaid : Prop := fnExactSublatticesOfUptoRow.holds Try.pinned (OpenSpec.upto fnExactSublatticesOfSpec)

end Rows
end Go.Proofs.Ytlalibefmnenjaa
