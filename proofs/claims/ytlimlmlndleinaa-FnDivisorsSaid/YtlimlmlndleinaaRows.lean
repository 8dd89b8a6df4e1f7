/-
  No cell of these rows narrows 'for every input' (looked for: loops, veiled, ifaces, maps, wideKeys, modest, calm, conditions, laid).
  DERIVED. THE GIVEN ROWS OF THIS SEAT. 9 by the template 'for every input the law returns true; each argument reads behind the call as it read before'; 0 by the template 'total and deterministic' (their statements: YtlimlmlndleinaaTotals.lean).
  GIVEN WITH THE SEED: the statements are not yours to turn. If you find one false, say at which input.
  Laid BY PROGRAM, IN A SANDBOX (cutbox-rows.mjs): the forced cells as the released guide's own fill.sh prints them over the translation 3918a8a05690915d… (all of the seat's roots in one cut). By AI agents, Wed Nov 11 2026. No macro, syntax, notation, axiom, sorry.
-/
import Derived.Test.YtlimlmlndleinaaChecked
import GoSem.Claim
import GoSem.ClaimJoined
import GoSem.ClaimMapViews
import Derived.JoinedTies
import Derived.KernelRfl
namespace Go.Proofs.Ytlimlmlndleinaa
/- THE CELL 'sum', in the pinned program and in every row, IS THE sha256 OF THE DUMP (.gsa) THAT YtlimlmlndleinaaProg.lean LOADS. Nothing in Lean hashes anything: it is a label: what it is worth is what the hold of that sum in a sandbox is worth. -/
noncomputable def Try.pinned : Pinned := { name := "ytlimlmlndleinaa", sum := "3918a8a05690915d92ce43f791185e437c49f0b472b0375cc5f32e8c61347422", checked := Try.checked }
namespace Rows
def none {H : Type} : Left H := { results := [], args := [] }

/-- 'laws.FnVectors': WHATEVER THE INPUT: true; the input reads as it did. -/
def fnVectorsSpec : ChangeSpec := { name := "fnVectors", fn := fun _ => fun
  | [d] => { results := [.lit (.bool true)], args := [d] }
  | _ => none }
def fnVectorsRow : OpenClaim := { program := "ytlimlmlndleinaa", sum := "3918a8a05690915d92ce43f791185e437c49f0b472b0375cc5f32e8c61347422", func := "loop.example/g00943/laws.FnVectors", spec := "fnVectors", apart := false }
def FnVectorsSaid : Prop := fnVectorsRow.holds Try.pinned (OpenSpec.ofChange fnVectorsSpec)

/-- ITS FALSE NEIGHBOUR: 'it returns false'. Refute it at one input. -/
def fnVectorsWrong : ChangeSpec := { name := "fnVectors", fn := fun _ => fun
  | [d] => { results := [.lit (.bool false)], args := [d] }
  | _ => none }
def FnVectorsWrongFalsely : Prop := fnVectorsRow.holds Try.pinned (OpenSpec.ofChange fnVectorsWrong)

/-- 'laws.FnDivisors': WHATEVER THE INPUT: true; the input reads as it did. -/
def fnDivisorsSpec : ChangeSpec := { name := "fnDivisors", fn := fun _ => fun
  | [d] => { results := [.lit (.bool true)], args := [d] }
  | _ => none }
def fnDivisorsRow : OpenClaim := { program := "ytlimlmlndleinaa", sum := "3918a8a05690915d92ce43f791185e437c49f0b472b0375cc5f32e8c61347422", func := "loop.example/g00943/laws.FnDivisors", spec := "fnDivisors", recurses := true, apart := false }
def FnDivisorsSaid : Prop := fnDivisorsRow.holds Try.pinned (OpenSpec.ofChange fnDivisorsSpec)

/-- ITS FALSE NEIGHBOUR: 'it returns false'. Refute it at one input. -/
def fnDivisorsWrong : ChangeSpec := { name := "fnDivisors", fn := fun _ => fun
  | [d] => { results := [.lit (.bool false)], args := [d] }
  | _ => none }
def FnDivisorsWrongFalsely : Prop := fnDivisorsRow.holds Try.pinned (OpenSpec.ofChange fnDivisorsWrong)

/-- 'laws.FnExactIsVec': WHATEVER THE INPUT: true; the input reads as it did. -/
def fnExactIsVecSpec : ChangeSpec := { name := "fnExactIsVec", fn := fun _ => fun
  | [d] => { results := [.lit (.bool true)], args := [d] }
  | _ => none }
def fnExactIsVecRow : OpenClaim := { program := "ytlimlmlndleinaa", sum := "3918a8a05690915d92ce43f791185e437c49f0b472b0375cc5f32e8c61347422", func := "loop.example/g00943/laws.FnExactIsVec", spec := "fnExactIsVec", apart := false }
def FnExactIsVecSaid : Prop := fnExactIsVecRow.holds Try.pinned (OpenSpec.ofChange fnExactIsVecSpec)

/-- ITS FALSE NEIGHBOUR: 'it returns false'. Refute it at one input. -/
def fnExactIsVecWrong : ChangeSpec := { name := "fnExactIsVec", fn := fun _ => fun
  | [d] => { results := [.lit (.bool false)], args := [d] }
  | _ => none }
def FnExactIsVecWrongFalsely : Prop := fnExactIsVecRow.holds Try.pinned (OpenSpec.ofChange fnExactIsVecWrong)

/-- 'laws.FnExactAddVecs': WHATEVER THE INPUT: true; the input reads as it did. -/
def fnExactAddVecsSpec : ChangeSpec := { name := "fnExactAddVecs", fn := fun _ => fun
  | [d1, d2] => { results := [.lit (.bool true)], args := [d1, d2] }
  | _ => none }
def fnExactAddVecsRow : OpenClaim := { program := "ytlimlmlndleinaa", sum := "3918a8a05690915d92ce43f791185e437c49f0b472b0375cc5f32e8c61347422", func := "loop.example/g00943/laws.FnExactAddVecs", spec := "fnExactAddVecs", apart := false }
def FnExactAddVecsSaid : Prop := fnExactAddVecsRow.holds Try.pinned (OpenSpec.ofChange fnExactAddVecsSpec)

/-- ITS FALSE NEIGHBOUR: 'it returns false'. Refute it at one input. -/
def fnExactAddVecsWrong : ChangeSpec := { name := "fnExactAddVecs", fn := fun _ => fun
  | [d1, d2] => { results := [.lit (.bool false)], args := [d1, d2] }
  | _ => none }
def FnExactAddVecsWrongFalsely : Prop := fnExactAddVecsRow.holds Try.pinned (OpenSpec.ofChange fnExactAddVecsWrong)

/-- 'laws.FnExactScaleVec': WHATEVER THE INPUT: true; the input reads as it did. -/
def fnExactScaleVecSpec : ChangeSpec := { name := "fnExactScaleVec", fn := fun _ => fun
  | [d1, d2] => { results := [.lit (.bool true)], args := [d1, d2] }
  | _ => none }
def fnExactScaleVecRow : OpenClaim := { program := "ytlimlmlndleinaa", sum := "3918a8a05690915d92ce43f791185e437c49f0b472b0375cc5f32e8c61347422", func := "loop.example/g00943/laws.FnExactScaleVec", spec := "fnExactScaleVec", apart := false }
def FnExactScaleVecSaid : Prop := fnExactScaleVecRow.holds Try.pinned (OpenSpec.ofChange fnExactScaleVecSpec)

/-- ITS FALSE NEIGHBOUR: 'it returns false'. Refute it at one input. -/
def fnExactScaleVecWrong : ChangeSpec := { name := "fnExactScaleVec", fn := fun _ => fun
  | [d1, d2] => { results := [.lit (.bool false)], args := [d1, d2] }
  | _ => none }
def FnExactScaleVecWrongFalsely : Prop := fnExactScaleVecRow.holds Try.pinned (OpenSpec.ofChange fnExactScaleVecWrong)

/-- 'laws.FnExactDetOf': WHATEVER THE INPUT: true; the input reads as it did. -/
def fnExactDetOfSpec : ChangeSpec := { name := "fnExactDetOf", fn := fun _ => fun
  | [d1, d2] => { results := [.lit (.bool true)], args := [d1, d2] }
  | _ => none }
def fnExactDetOfRow : OpenClaim := { program := "ytlimlmlndleinaa", sum := "3918a8a05690915d92ce43f791185e437c49f0b472b0375cc5f32e8c61347422", func := "loop.example/g00943/laws.FnExactDetOf", spec := "fnExactDetOf", apart := false }
def FnExactDetOfSaid : Prop := fnExactDetOfRow.holds Try.pinned (OpenSpec.ofChange fnExactDetOfSpec)

/-- ITS FALSE NEIGHBOUR: 'it returns false'. Refute it at one input. -/
def fnExactDetOfWrong : ChangeSpec := { name := "fnExactDetOf", fn := fun _ => fun
  | [d1, d2] => { results := [.lit (.bool false)], args := [d1, d2] }
  | _ => none }
def FnExactDetOfWrongFalsely : Prop := fnExactDetOfRow.holds Try.pinned (OpenSpec.ofChange fnExactDetOfWrong)

/-- 'laws.FnExactDivisorOf': WHATEVER THE INPUT: true; the input reads as it did. -/
def fnExactDivisorOfSpec : ChangeSpec := { name := "fnExactDivisorOf", fn := fun _ => fun
  | [d1, d2] => { results := [.lit (.bool true)], args := [d1, d2] }
  | _ => none }
def fnExactDivisorOfRow : OpenClaim := { program := "ytlimlmlndleinaa", sum := "3918a8a05690915d92ce43f791185e437c49f0b472b0375cc5f32e8c61347422", func := "loop.example/g00943/laws.FnExactDivisorOf", spec := "fnExactDivisorOf", recurses := true, apart := false }
def FnExactDivisorOfSaid : Prop := fnExactDivisorOfRow.holds Try.pinned (OpenSpec.ofChange fnExactDivisorOfSpec)

/-- ITS FALSE NEIGHBOUR: 'it returns false'. Refute it at one input. -/
def fnExactDivisorOfWrong : ChangeSpec := { name := "fnExactDivisorOf", fn := fun _ => fun
  | [d1, d2] => { results := [.lit (.bool false)], args := [d1, d2] }
  | _ => none }
def FnExactDivisorOfWrongFalsely : Prop := fnExactDivisorOfRow.holds Try.pinned (OpenSpec.ofChange fnExactDivisorOfWrong)

/-- 'laws.FnExactPrimitiveVec': WHATEVER THE INPUT: true; the input reads as it did. -/
def fnExactPrimitiveVecSpec : ChangeSpec := { name := "fnExactPrimitiveVec", fn := fun _ => fun
  | [d] => { results := [.lit (.bool true)], args := [d] }
  | _ => none }
def fnExactPrimitiveVecRow : OpenClaim := { program := "ytlimlmlndleinaa", sum := "3918a8a05690915d92ce43f791185e437c49f0b472b0375cc5f32e8c61347422", func := "loop.example/g00943/laws.FnExactPrimitiveVec", spec := "fnExactPrimitiveVec", recurses := true, apart := false }
def FnExactPrimitiveVecSaid : Prop := fnExactPrimitiveVecRow.holds Try.pinned (OpenSpec.ofChange fnExactPrimitiveVecSpec)

/-- ITS FALSE NEIGHBOUR: 'it returns false'. Refute it at one input. -/
def fnExactPrimitiveVecWrong : ChangeSpec := { name := "fnExactPrimitiveVec", fn := fun _ => fun
  | [d] => { results := [.lit (.bool false)], args := [d] }
  | _ => none }
def FnExactPrimitiveVecWrongFalsely : Prop := fnExactPrimitiveVecRow.holds Try.pinned (OpenSpec.ofChange fnExactPrimitiveVecWrong)

/-- 'laws.FnExactCompareVecs': WHATEVER THE INPUT: true; the input reads as it did. -/
def fnExactCompareVecsSpec : ChangeSpec := { name := "fnExactCompareVecs", fn := fun _ => fun
  | [d1, d2] => { results := [.lit (.bool true)], args := [d1, d2] }
  | _ => none }
def fnExactCompareVecsRow : OpenClaim := { program := "ytlimlmlndleinaa", sum := "3918a8a05690915d92ce43f791185e437c49f0b472b0375cc5f32e8c61347422", func := "loop.example/g00943/laws.FnExactCompareVecs", spec := "fnExactCompareVecs", apart := false }
def FnExactCompareVecsSaid : Prop := fnExactCompareVecsRow.holds Try.pinned (OpenSpec.ofChange fnExactCompareVecsSpec)

/-- ITS FALSE NEIGHBOUR: 'it returns false'. Refute it at one input. -/
def fnExactCompareVecsWrong : ChangeSpec := { name := "fnExactCompareVecs", fn := fun _ => fun
  | [d1, d2] => { results := [.lit (.bool false)], args := [d1, d2] }
  | _ => none }
def FnExactCompareVecsWrongFalsely : Prop := fnExactCompareVecsRow.holds Try.pinned (OpenSpec.ofChange fnExactCompareVecsWrong)

/- THE SECOND FORM. 'bulk': how many values and letters a reading holds, each counted each time it is reached (what is shared counts as often as it is met; a slice's spare places count too). A statement '..UptoSaid' is the law's where the arguments, and the package variables that the reading takes, are together of bulk at most 1048576: NARROWER than '..Said'. Prove '..Said' where nothing that the law and all that it calls make is longer than what came in: it says more and counts as full. Else prove '..UptoSaid'. A law counts once. -/
mutual
def uptoBulk {H : Type} : DataW H → Nat
  | .lit (.string bytes) => bytes.length + 1
  | .lit _ => 1
  | .nil => 1
  | .ptr d => uptoBulk d + 1
  | .slice elems spare => uptoBulkAll elems + uptoBulkAll spare + 1
  | .agg parts => uptoBulkAll parts + 1
  | .iface _ d => uptoBulk d + 1
  | .map entries => uptoBulkEntries entries + 1
  | .held _ => 1
def uptoBulkAll {H : Type} : List (DataW H) → Nat
  | [] => 0
  | d :: r => uptoBulk d + uptoBulkAll r
def uptoBulkEntries {H : Type} : List (Lit × DataW H) → Nat
  | [] => 0
  | x :: r => uptoBulkEntry x + uptoBulkEntries r
def uptoBulkEntry {H : Type} : Lit × DataW H → Nat
  | (.string bytes, d) => bytes.length + uptoBulk d + 1
  | (_, d) => uptoBulk d + 1
 end
def uptoSmall : (H : Type) → List (DataW H) → Bool := fun _ ds => decide (uptoBulkAll ds ≤ 1048576)
def OpenSpec.upto (s : _root_.Go.ChangeSpec) : _root_.Go.OpenSpec := { _root_.Go.OpenSpec.ofChange s with cond := some uptoSmall }

/-- 'laws.FnVectors', WHERE WHAT IT READS IS OF BULK AT MOST 1048576: true; the input reads as it did. -/
def fnVectorsUptoRow : OpenClaim := { program := "ytlimlmlndleinaa", sum := "3918a8a05690915d92ce43f791185e437c49f0b472b0375cc5f32e8c61347422", func := "loop.example/g00943/laws.FnVectors", spec := "fnVectors", apart := false, narrowed := true }
def FnVectorsUptoSaid : Prop := fnVectorsUptoRow.holds Try.pinned (OpenSpec.upto fnVectorsSpec)

/-- 'laws.FnDivisors', WHERE WHAT IT READS IS OF BULK AT MOST 1048576: true; the input reads as it did. -/
def fnDivisorsUptoRow : OpenClaim := { program := "ytlimlmlndleinaa", sum := "3918a8a05690915d92ce43f791185e437c49f0b472b0375cc5f32e8c61347422", func := "loop.example/g00943/laws.FnDivisors", spec := "fnDivisors", recurses := true, apart := false, narrowed := true }
def FnDivisorsUptoSaid : Prop := fnDivisorsUptoRow.holds Try.pinned (OpenSpec.upto fnDivisorsSpec)

/-- 'laws.FnExactIsVec', WHERE WHAT IT READS IS OF BULK AT MOST 1048576: true; the input reads as it did. -/
def fnExactIsVecUptoRow : OpenClaim := { program := "ytlimlmlndleinaa", sum := "3918a8a05690915d92ce43f791185e437c49f0b472b0375cc5f32e8c61347422", func := "loop.example/g00943/laws.FnExactIsVec", spec := "fnExactIsVec", apart := false, narrowed := true }
def FnExactIsVecUptoSaid : Prop := fnExactIsVecUptoRow.holds Try.pinned (OpenSpec.upto fnExactIsVecSpec)

/-- 'laws.FnExactAddVecs', WHERE WHAT IT READS IS OF BULK AT MOST 1048576: true; the input reads as it did. -/
def fnExactAddVecsUptoRow : OpenClaim := { program := "ytlimlmlndleinaa", sum := "3918a8a05690915d92ce43f791185e437c49f0b472b0375cc5f32e8c61347422", func := "loop.example/g00943/laws.FnExactAddVecs", spec := "fnExactAddVecs", apart := false, narrowed := true }
def FnExactAddVecsUptoSaid : Prop := fnExactAddVecsUptoRow.holds Try.pinned (OpenSpec.upto fnExactAddVecsSpec)

/-- 'laws.FnExactScaleVec', WHERE WHAT IT READS IS OF BULK AT MOST 1048576: true; the input reads as it did. -/
def fnExactScaleVecUptoRow : OpenClaim := { program := "ytlimlmlndleinaa", sum := "3918a8a05690915d92ce43f791185e437c49f0b472b0375cc5f32e8c61347422", func := "loop.example/g00943/laws.FnExactScaleVec", spec := "fnExactScaleVec", apart := false, narrowed := true }
def FnExactScaleVecUptoSaid : Prop := fnExactScaleVecUptoRow.holds Try.pinned (OpenSpec.upto fnExactScaleVecSpec)

/-- 'laws.FnExactDetOf', WHERE WHAT IT READS IS OF BULK AT MOST 1048576: true; the input reads as it did. -/
def fnExactDetOfUptoRow : OpenClaim := { program := "ytlimlmlndleinaa", sum := "3918a8a05690915d92ce43f791185e437c49f0b472b0375cc5f32e8c61347422", func := "loop.example/g00943/laws.FnExactDetOf", spec := "fnExactDetOf", apart := false, narrowed := true }
def FnExactDetOfUptoSaid : Prop := fnExactDetOfUptoRow.holds Try.pinned (OpenSpec.upto fnExactDetOfSpec)

/-- 'laws.FnExactDivisorOf', WHERE WHAT IT READS IS OF BULK AT MOST 1048576: true; the input reads as it did. -/
def fnExactDivisorOfUptoRow : OpenClaim := { program := "ytlimlmlndleinaa", sum := "3918a8a05690915d92ce43f791185e437c49f0b472b0375cc5f32e8c61347422", func := "loop.example/g00943/laws.FnExactDivisorOf", spec := "fnExactDivisorOf", recurses := true, apart := false, narrowed := true }
def FnExactDivisorOfUptoSaid : Prop := fnExactDivisorOfUptoRow.holds Try.pinned (OpenSpec.upto fnExactDivisorOfSpec)

/-- 'laws.FnExactPrimitiveVec', WHERE WHAT IT READS IS OF BULK AT MOST 1048576: true; the input reads as it did. -/
def fnExactPrimitiveVecUptoRow : OpenClaim := { program := "ytlimlmlndleinaa", sum := "3918a8a05690915d92ce43f791185e437c49f0b472b0375cc5f32e8c61347422", func := "loop.example/g00943/laws.FnExactPrimitiveVec", spec := "fnExactPrimitiveVec", recurses := true, apart := false, narrowed := true }
def FnExactPrimitiveVecUptoSaid : Prop := fnExactPrimitiveVecUptoRow.holds Try.pinned (OpenSpec.upto fnExactPrimitiveVecSpec)

/-- 'laws.FnExactCompareVecs', WHERE WHAT IT READS IS OF BULK AT MOST 1048576: true; the input reads as it did. -/
def fnExactCompareVecsUptoRow : OpenClaim := { program := "ytlimlmlndleinaa", sum := "3918a8a05690915d92ce43f791185e437c49f0b472b0375cc5f32e8c61347422", func := "loop.example/g00943/laws.FnExactCompareVecs", spec := "fnExactCompareVecs", apart := false, narrowed := true }
def FnExactCompareVecsUptoSaid : Prop := fnExactCompareVecsUptoRow.holds Try.pinned (OpenSpec.upto fnExactCompareVecsSpec)

end Rows
end Go.Proofs.Ytlimlmlndleinaa
