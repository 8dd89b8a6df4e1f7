/-
  No cell of these rows narrows 'for every input' (looked for: loops, veiled, ifaces, maps, wideKeys, modest, calm, conditions, laid).
  DERIVED. THE GIVEN ROWS OF THIS SEAT. 5 by the template 'for every input the law returns true; each argument reads behind the call as it read before'; 0 by the template 'total and deterministic' (their statements: YtajmfeppnhkcdaaTotals.lean).
  GIVEN WITH THE SEED: the statements are not yours to turn. If you find one false, say at which input.
  Laid BY PROGRAM, IN A SANDBOX (cutbox-rows.mjs): the forced cells as the released guide's own fill.sh prints them over the translation 12940af93d0f1c55… (all of the seat's roots in one cut). By AI agents, Wed Nov 11 2026. No macro, syntax, notation, axiom, sorry.
-/
import Derived.Test.YtajmfeppnhkcdaaChecked
import GoSem.Claim
import GoSem.ClaimJoined
import GoSem.ClaimMapViews
import Derived.JoinedTies
import Derived.KernelRfl
namespace Go.Proofs.Ytajmfeppnhkcdaa
/- THE CELL 'sum', in the pinned program and in every row, IS THE sha256 OF THE DUMP (.gsa) THAT YtajmfeppnhkcdaaProg.lean LOADS. Nothing in Lean hashes anything: it is a label: what it is worth is what the hold of that sum in a sandbox is worth. -/
noncomputable def Try.pinned : Pinned := { name := "ytajmfeppnhkcdaa", sum := "12940af93d0f1c55674795b42b5c6a42f4b0d50739d18b985f071f0c20de3c79", checked := Try.checked }
namespace Rows
def none {H : Type} : Left H := { results := [], args := [] }

/-- 'laws.FnExactFillFrieze': WHATEVER THE INPUT: true; the input reads as it did. -/
def fnExactFillFriezeSpec : ChangeSpec := { name := "fnExactFillFrieze", fn := fun _ => fun
  | [d1, d2] => { results := [.lit (.bool true)], args := [d1, d2] }
  | _ => none }
def fnExactFillFriezeRow : OpenClaim := { program := "ytajmfeppnhkcdaa", sum := "12940af93d0f1c55674795b42b5c6a42f4b0d50739d18b985f071f0c20de3c79", func := "loop.example/g00943/laws.FnExactFillFrieze", spec := "fnExactFillFrieze", unfollowed := true, recurses := true, apart := false }
def FnExactFillFriezeSaid : Prop := fnExactFillFriezeRow.holds Try.pinned (OpenSpec.ofChange fnExactFillFriezeSpec)

/-- ITS FALSE NEIGHBOUR: 'it returns false'. Refute it at one input. -/
def fnExactFillFriezeWrong : ChangeSpec := { name := "fnExactFillFrieze", fn := fun _ => fun
  | [d1, d2] => { results := [.lit (.bool false)], args := [d1, d2] }
  | _ => none }
def FnExactFillFriezeWrongFalsely : Prop := fnExactFillFriezeRow.holds Try.pinned (OpenSpec.ofChange fnExactFillFriezeWrong)

/-- 'laws.FnExactFriezeText': WHATEVER THE INPUT: true; the input reads as it did. -/
def fnExactFriezeTextSpec : ChangeSpec := { name := "fnExactFriezeText", fn := fun _ => fun
  | [d] => { results := [.lit (.bool true)], args := [d] }
  | _ => none }
def fnExactFriezeTextRow : OpenClaim := { program := "ytajmfeppnhkcdaa", sum := "12940af93d0f1c55674795b42b5c6a42f4b0d50739d18b985f071f0c20de3c79", func := "loop.example/g00943/laws.FnExactFriezeText", spec := "fnExactFriezeText", unfollowed := true, recurses := true, apart := false }
def FnExactFriezeTextSaid : Prop := fnExactFriezeTextRow.holds Try.pinned (OpenSpec.ofChange fnExactFriezeTextSpec)

/-- ITS FALSE NEIGHBOUR: 'it returns false'. Refute it at one input. -/
def fnExactFriezeTextWrong : ChangeSpec := { name := "fnExactFriezeText", fn := fun _ => fun
  | [d] => { results := [.lit (.bool false)], args := [d] }
  | _ => none }
def FnExactFriezeTextWrongFalsely : Prop := fnExactFriezeTextRow.holds Try.pinned (OpenSpec.ofChange fnExactFriezeTextWrong)

/-- 'laws.FnPeriods': WHATEVER THE INPUT: true; the input reads as it did. -/
def fnPeriodsSpec : ChangeSpec := { name := "fnPeriods", fn := fun _ => fun
  | [d] => { results := [.lit (.bool true)], args := [d] }
  | _ => none }
def fnPeriodsRow : OpenClaim := { program := "ytajmfeppnhkcdaa", sum := "12940af93d0f1c55674795b42b5c6a42f4b0d50739d18b985f071f0c20de3c79", func := "loop.example/g00943/laws.FnPeriods", spec := "fnPeriods", unfollowed := true, recurses := true, apart := false }
def FnPeriodsSaid : Prop := fnPeriodsRow.holds Try.pinned (OpenSpec.ofChange fnPeriodsSpec)

/-- ITS FALSE NEIGHBOUR: 'it returns false'. Refute it at one input. -/
def fnPeriodsWrong : ChangeSpec := { name := "fnPeriods", fn := fun _ => fun
  | [d] => { results := [.lit (.bool false)], args := [d] }
  | _ => none }
def FnPeriodsWrongFalsely : Prop := fnPeriodsRow.holds Try.pinned (OpenSpec.ofChange fnPeriodsWrong)

/-- 'laws.FnFilled': WHATEVER THE INPUT: true; the input reads as it did. -/
def fnFilledSpec : ChangeSpec := { name := "fnFilled", fn := fun _ => fun
  | [d] => { results := [.lit (.bool true)], args := [d] }
  | _ => none }
def fnFilledRow : OpenClaim := { program := "ytajmfeppnhkcdaa", sum := "12940af93d0f1c55674795b42b5c6a42f4b0d50739d18b985f071f0c20de3c79", func := "loop.example/g00943/laws.FnFilled", spec := "fnFilled", unfollowed := true, recurses := true, apart := false }
def FnFilledSaid : Prop := fnFilledRow.holds Try.pinned (OpenSpec.ofChange fnFilledSpec)

/-- ITS FALSE NEIGHBOUR: 'it returns false'. Refute it at one input. -/
def fnFilledWrong : ChangeSpec := { name := "fnFilled", fn := fun _ => fun
  | [d] => { results := [.lit (.bool false)], args := [d] }
  | _ => none }
def FnFilledWrongFalsely : Prop := fnFilledRow.holds Try.pinned (OpenSpec.ofChange fnFilledWrong)

/-- 'laws.FnFriezes': WHATEVER THE INPUT: true; the input reads as it did. -/
def fnFriezesSpec : ChangeSpec := { name := "fnFriezes", fn := fun _ => fun
  | [d] => { results := [.lit (.bool true)], args := [d] }
  | _ => none }
def fnFriezesRow : OpenClaim := { program := "ytajmfeppnhkcdaa", sum := "12940af93d0f1c55674795b42b5c6a42f4b0d50739d18b985f071f0c20de3c79", func := "loop.example/g00943/laws.FnFriezes", spec := "fnFriezes", unfollowed := true, recurses := true, apart := false }
def FnFriezesSaid : Prop := fnFriezesRow.holds Try.pinned (OpenSpec.ofChange fnFriezesSpec)

/-- ITS FALSE NEIGHBOUR: 'it returns false'. Refute it at one input. -/
def fnFriezesWrong : ChangeSpec := { name := "fnFriezes", fn := fun _ => fun
  | [d] => { results := [.lit (.bool false)], args := [d] }
  | _ => none }
def FnFriezesWrongFalsely : Prop := fnFriezesRow.holds Try.pinned (OpenSpec.ofChange fnFriezesWrong)

/- THE SECOND FORM. 'bulk': how many values and letters a reading holds, each counted each time it is reached (what is shared counts as often as it is met; a slice's spare places count too). A statement '..UptoSaid' is the law's where the arguments, and the package variables that the reading takes, are together of bulk at most 1048576: NARROWER than '..Said'. Prove '..Said' where nothing that the law and all that it calls make is longer than what came in: it says more and counts as full. Else prove '..UptoSaid'. A law counts once. -/
mutual
def uptoBulk {H : Type} : DataW H → Nat
  | .lit (.string bytes) => bytes.length + 1
  | .lit _ => 1
  | .nil => 1
  | .ptr d => uptoBulk d + 1
  | .slice elems spare => uptoBulkAll elems + uptoBulkAll spare + 1
  | .agg parts => uptoBulkAll parts + 1
  | .iface _ d => uptoBulk d + 1
  | .map entries => uptoBulkEntries entries + 1
  | .held _ => 1
def uptoBulkAll {H : Type} : List (DataW H) → Nat
  | [] => 0
  | d :: r => uptoBulk d + uptoBulkAll r
def uptoBulkEntries {H : Type} : List (Lit × DataW H) → Nat
  | [] => 0
  | x :: r => uptoBulkEntry x + uptoBulkEntries r
def uptoBulkEntry {H : Type} : Lit × DataW H → Nat
  | (.string bytes, d) => bytes.length + uptoBulk d + 1
  | (_, d) => uptoBulk d + 1
 end
def uptoSmall : (H : Type) → List (DataW H) → Bool := fun _ ds => decide (uptoBulkAll ds ≤ 1048576)
def OpenSpec.upto (s : _root_.Go.ChangeSpec) : _root_.Go.OpenSpec := { _root_.Go.OpenSpec.ofChange s with cond := some uptoSmall }

/-- 'laws.FnExactFillFrieze', WHERE WHAT IT READS IS OF BULK AT MOST 1048576: true; the input reads as it did. -/
def fnExactFillFriezeUptoRow : OpenClaim := { program := "ytajmfeppnhkcdaa", sum := "12940af93d0f1c55674795b42b5c6a42f4b0d50739d18b985f071f0c20de3c79", func := "loop.example/g00943/laws.FnExactFillFrieze", spec := "fnExactFillFrieze", unfollowed := true, recurses := true, apart := false, narrowed := true }
def FnExactFillFriezeUptoSaid : Prop := fnExactFillFriezeUptoRow.holds Try.pinned (OpenSpec.upto fnExactFillFriezeSpec)

/-- 'laws.FnExactFriezeText', WHERE WHAT IT READS IS OF BULK AT MOST 1048576: true; the input reads as it did. -/
def fnExactFriezeTextUptoRow : OpenClaim := { program := "ytajmfeppnhkcdaa", sum := "12940af93d0f1c55674795b42b5c6a42f4b0d50739d18b985f071f0c20de3c79", func := "loop.example/g00943/laws.FnExactFriezeText", spec := "fnExactFriezeText", unfollowed := true, recurses := true, apart := false, narrowed := true }
def FnExactFriezeTextUptoSaid : Prop := fnExactFriezeTextUptoRow.holds Try.pinned (OpenSpec.upto fnExactFriezeTextSpec)

/-- 'laws.FnPeriods', WHERE WHAT IT READS IS OF BULK AT MOST 1048576: true; the input reads as it did. -/
def fnPeriodsUptoRow : OpenClaim := { program := "ytajmfeppnhkcdaa", sum := "12940af93d0f1c55674795b42b5c6a42f4b0d50739d18b985f071f0c20de3c79", func := "loop.example/g00943/laws.FnPeriods", spec := "fnPeriods", unfollowed := true, recurses := true, apart := false, narrowed := true }
def FnPeriodsUptoSaid : Prop := fnPeriodsUptoRow.holds Try.pinned (OpenSpec.upto fnPeriodsSpec)

/-- 'laws.FnFilled', WHERE WHAT IT READS IS OF BULK AT MOST 1048576: true; the input reads as it did. -/
def fnFilledUptoRow : OpenClaim := { program := "ytajmfeppnhkcdaa", sum := "12940af93d0f1c55674795b42b5c6a42f4b0d50739d18b985f071f0c20de3c79", func := "loop.example/g00943/laws.FnFilled", spec := "fnFilled", unfollowed := true, recurses := true, apart := false, narrowed := true }
def FnFilledUptoSaid : Prop := fnFilledUptoRow.holds Try.pinned (OpenSpec.upto fnFilledSpec)

/-- 'laws.FnFriezes', WHERE WHAT IT READS IS OF BULK AT MOST 1048576: true; the input reads as it did. -/
def fnFriezesUptoRow : OpenClaim := { program := "ytajmfeppnhkcdaa", sum := "12940af93d0f1c55674795b42b5c6a42f4b0d50739d18b985f071f0c20de3c79", func := "loop.example/g00943/laws.FnFriezes", spec := "fnFriezes", unfollowed := true, recurses := true, apart := false, narrowed := true }
def FnFriezesUptoSaid : Prop := fnFriezesUptoRow.holds Try.pinned (OpenSpec.upto fnFriezesSpec)

end Rows
end Go.Proofs.Ytajmfeppnhkcdaa
