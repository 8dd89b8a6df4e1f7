/-
  No cell of these rows narrows 'for every input' (looked for: loops, veiled, ifaces, maps, wideKeys, modest, calm, conditions, laid).
  DERIVED. THE GIVEN ROWS OF THIS SEAT. 11 by the template 'for every input the law returns true; each argument reads behind the call as it read before'; 0 by the template 'total and deterministic' (their statements: YthfgmadogknnaaaTotals.lean).
  GIVEN WITH THE SEED: the statements are not yours to turn. If you find one false, say at which input.
  Laid BY PROGRAM, IN A SANDBOX (cutbox-rows.mjs): the forced cells as the released guide's own fill.sh prints them over the translation 4bca3e5de7a03bb6… (all of the seat's roots in one cut). By AI agents, Wed Nov 11 2026. No macro, syntax, notation, axiom, sorry.
-/
import Derived.Test.YthfgmadogknnaaaChecked
import GoSem.Claim
import GoSem.ClaimJoined
import GoSem.ClaimMapViews
import Derived.JoinedTies
import Derived.KernelRfl
namespace Go.Proofs.Ythfgmadogknnaaa
/- THE CELL 'sum', in the pinned program and in every row, IS THE sha256 OF THE DUMP (.gsa) THAT YthfgmadogknnaaaProg.lean LOADS. Nothing in Lean hashes anything: it is a label: what it is worth is what the hold of that sum in a sandbox is worth. -/
noncomputable def Try.pinned : Pinned := { name := "ythfgmadogknnaaa", sum := "4bca3e5de7a03bb6c0b49380671b3bd5838edcd1504c98331777194ae2a5e0f7", checked := Try.checked }
namespace Rows
def none {H : Type} : Left H := { results := [], args := [] }

/-- 'laws.FnExactIsFrieze': WHATEVER THE INPUT: true; the input reads as it did. -/
def fnExactIsFriezeSpec : ChangeSpec := { name := "fnExactIsFrieze", fn := fun _ => fun
  | [d] => { results := [.lit (.bool true)], args := [d] }
  | _ => none }
def fnExactIsFriezeRow : OpenClaim := { program := "ythfgmadogknnaaa", sum := "4bca3e5de7a03bb6c0b49380671b3bd5838edcd1504c98331777194ae2a5e0f7", func := "loop.example/g00943/laws.FnExactIsFrieze", spec := "fnExactIsFrieze", unfollowed := true, recurses := true, apart := false }
def FnExactIsFriezeSaid : Prop := fnExactIsFriezeRow.holds Try.pinned (OpenSpec.ofChange fnExactIsFriezeSpec)

/-- ITS FALSE NEIGHBOUR: 'it returns false'. Refute it at one input. -/
def fnExactIsFriezeWrong : ChangeSpec := { name := "fnExactIsFrieze", fn := fun _ => fun
  | [d] => { results := [.lit (.bool false)], args := [d] }
  | _ => none }
def FnExactIsFriezeWrongFalsely : Prop := fnExactIsFriezeRow.holds Try.pinned (OpenSpec.ofChange fnExactIsFriezeWrong)

/-- 'laws.FnExactFriezeAt': WHATEVER THE INPUT: true; the input reads as it did. -/
def fnExactFriezeAtSpec : ChangeSpec := { name := "fnExactFriezeAt", fn := fun _ => fun
  | [d1, d2, d3] => { results := [.lit (.bool true)], args := [d1, d2, d3] }
  | _ => none }
def fnExactFriezeAtRow : OpenClaim := { program := "ythfgmadogknnaaa", sum := "4bca3e5de7a03bb6c0b49380671b3bd5838edcd1504c98331777194ae2a5e0f7", func := "loop.example/g00943/laws.FnExactFriezeAt", spec := "fnExactFriezeAt", unfollowed := true, recurses := true, apart := false }
def FnExactFriezeAtSaid : Prop := fnExactFriezeAtRow.holds Try.pinned (OpenSpec.ofChange fnExactFriezeAtSpec)

/-- ITS FALSE NEIGHBOUR: 'it returns false'. Refute it at one input. -/
def fnExactFriezeAtWrong : ChangeSpec := { name := "fnExactFriezeAt", fn := fun _ => fun
  | [d1, d2, d3] => { results := [.lit (.bool false)], args := [d1, d2, d3] }
  | _ => none }
def FnExactFriezeAtWrongFalsely : Prop := fnExactFriezeAtRow.holds Try.pinned (OpenSpec.ofChange fnExactFriezeAtWrong)

/-- 'laws.FnExactPeriodOf': WHATEVER THE INPUT: true; the input reads as it did. -/
def fnExactPeriodOfSpec : ChangeSpec := { name := "fnExactPeriodOf", fn := fun _ => fun
  | [d] => { results := [.lit (.bool true)], args := [d] }
  | _ => none }
def fnExactPeriodOfRow : OpenClaim := { program := "ythfgmadogknnaaa", sum := "4bca3e5de7a03bb6c0b49380671b3bd5838edcd1504c98331777194ae2a5e0f7", func := "loop.example/g00943/laws.FnExactPeriodOf", spec := "fnExactPeriodOf", unfollowed := true, recurses := true, apart := false }
def FnExactPeriodOfSaid : Prop := fnExactPeriodOfRow.holds Try.pinned (OpenSpec.ofChange fnExactPeriodOfSpec)

/-- ITS FALSE NEIGHBOUR: 'it returns false'. Refute it at one input. -/
def fnExactPeriodOfWrong : ChangeSpec := { name := "fnExactPeriodOf", fn := fun _ => fun
  | [d] => { results := [.lit (.bool false)], args := [d] }
  | _ => none }
def FnExactPeriodOfWrongFalsely : Prop := fnExactPeriodOfRow.holds Try.pinned (OpenSpec.ofChange fnExactPeriodOfWrong)

/-- 'laws.FnExactShortenFrieze': WHATEVER THE INPUT: true; the input reads as it did. -/
def fnExactShortenFriezeSpec : ChangeSpec := { name := "fnExactShortenFrieze", fn := fun _ => fun
  | [d] => { results := [.lit (.bool true)], args := [d] }
  | _ => none }
def fnExactShortenFriezeRow : OpenClaim := { program := "ythfgmadogknnaaa", sum := "4bca3e5de7a03bb6c0b49380671b3bd5838edcd1504c98331777194ae2a5e0f7", func := "loop.example/g00943/laws.FnExactShortenFrieze", spec := "fnExactShortenFrieze", unfollowed := true, recurses := true, apart := false }
def FnExactShortenFriezeSaid : Prop := fnExactShortenFriezeRow.holds Try.pinned (OpenSpec.ofChange fnExactShortenFriezeSpec)

/-- ITS FALSE NEIGHBOUR: 'it returns false'. Refute it at one input. -/
def fnExactShortenFriezeWrong : ChangeSpec := { name := "fnExactShortenFrieze", fn := fun _ => fun
  | [d] => { results := [.lit (.bool false)], args := [d] }
  | _ => none }
def FnExactShortenFriezeWrongFalsely : Prop := fnExactShortenFriezeRow.holds Try.pinned (OpenSpec.ofChange fnExactShortenFriezeWrong)

/-- 'laws.FnExactFriezeSymmetries': WHATEVER THE INPUT: true; the input reads as it did. -/
def fnExactFriezeSymmetriesSpec : ChangeSpec := { name := "fnExactFriezeSymmetries", fn := fun _ => fun
  | [d] => { results := [.lit (.bool true)], args := [d] }
  | _ => none }
def fnExactFriezeSymmetriesRow : OpenClaim := { program := "ythfgmadogknnaaa", sum := "4bca3e5de7a03bb6c0b49380671b3bd5838edcd1504c98331777194ae2a5e0f7", func := "loop.example/g00943/laws.FnExactFriezeSymmetries", spec := "fnExactFriezeSymmetries", unfollowed := true, recurses := true, apart := false }
def FnExactFriezeSymmetriesSaid : Prop := fnExactFriezeSymmetriesRow.holds Try.pinned (OpenSpec.ofChange fnExactFriezeSymmetriesSpec)

/-- ITS FALSE NEIGHBOUR: 'it returns false'. Refute it at one input. -/
def fnExactFriezeSymmetriesWrong : ChangeSpec := { name := "fnExactFriezeSymmetries", fn := fun _ => fun
  | [d] => { results := [.lit (.bool false)], args := [d] }
  | _ => none }
def FnExactFriezeSymmetriesWrongFalsely : Prop := fnExactFriezeSymmetriesRow.holds Try.pinned (OpenSpec.ofChange fnExactFriezeSymmetriesWrong)

/-- 'laws.FnExactFriezeName': WHATEVER THE INPUT: true; the input reads as it did. -/
def fnExactFriezeNameSpec : ChangeSpec := { name := "fnExactFriezeName", fn := fun _ => fun
  | [d] => { results := [.lit (.bool true)], args := [d] }
  | _ => none }
def fnExactFriezeNameRow : OpenClaim := { program := "ythfgmadogknnaaa", sum := "4bca3e5de7a03bb6c0b49380671b3bd5838edcd1504c98331777194ae2a5e0f7", func := "loop.example/g00943/laws.FnExactFriezeName", spec := "fnExactFriezeName", unfollowed := true, recurses := true, apart := false }
def FnExactFriezeNameSaid : Prop := fnExactFriezeNameRow.holds Try.pinned (OpenSpec.ofChange fnExactFriezeNameSpec)

/-- ITS FALSE NEIGHBOUR: 'it returns false'. Refute it at one input. -/
def fnExactFriezeNameWrong : ChangeSpec := { name := "fnExactFriezeName", fn := fun _ => fun
  | [d] => { results := [.lit (.bool false)], args := [d] }
  | _ => none }
def FnExactFriezeNameWrongFalsely : Prop := fnExactFriezeNameRow.holds Try.pinned (OpenSpec.ofChange fnExactFriezeNameWrong)

/-- 'laws.FnExactMoveFrieze': WHATEVER THE INPUT: true; the input reads as it did. -/
def fnExactMoveFriezeSpec : ChangeSpec := { name := "fnExactMoveFrieze", fn := fun _ => fun
  | [d1, d2] => { results := [.lit (.bool true)], args := [d1, d2] }
  | _ => none }
def fnExactMoveFriezeRow : OpenClaim := { program := "ythfgmadogknnaaa", sum := "4bca3e5de7a03bb6c0b49380671b3bd5838edcd1504c98331777194ae2a5e0f7", func := "loop.example/g00943/laws.FnExactMoveFrieze", spec := "fnExactMoveFrieze", unfollowed := true, recurses := true, apart := false }
def FnExactMoveFriezeSaid : Prop := fnExactMoveFriezeRow.holds Try.pinned (OpenSpec.ofChange fnExactMoveFriezeSpec)

/-- ITS FALSE NEIGHBOUR: 'it returns false'. Refute it at one input. -/
def fnExactMoveFriezeWrong : ChangeSpec := { name := "fnExactMoveFrieze", fn := fun _ => fun
  | [d1, d2] => { results := [.lit (.bool false)], args := [d1, d2] }
  | _ => none }
def FnExactMoveFriezeWrongFalsely : Prop := fnExactMoveFriezeRow.holds Try.pinned (OpenSpec.ofChange fnExactMoveFriezeWrong)

/-- 'laws.FnExactFillFrieze': WHATEVER THE INPUT: true; the input reads as it did. -/
def fnExactFillFriezeSpec : ChangeSpec := { name := "fnExactFillFrieze", fn := fun _ => fun
  | [d1, d2] => { results := [.lit (.bool true)], args := [d1, d2] }
  | _ => none }
def fnExactFillFriezeRow : OpenClaim := { program := "ythfgmadogknnaaa", sum := "4bca3e5de7a03bb6c0b49380671b3bd5838edcd1504c98331777194ae2a5e0f7", func := "loop.example/g00943/laws.FnExactFillFrieze", spec := "fnExactFillFrieze", unfollowed := true, recurses := true, apart := false }
def FnExactFillFriezeSaid : Prop := fnExactFillFriezeRow.holds Try.pinned (OpenSpec.ofChange fnExactFillFriezeSpec)

/-- ITS FALSE NEIGHBOUR: 'it returns false'. Refute it at one input. -/
def fnExactFillFriezeWrong : ChangeSpec := { name := "fnExactFillFrieze", fn := fun _ => fun
  | [d1, d2] => { results := [.lit (.bool false)], args := [d1, d2] }
  | _ => none }
def FnExactFillFriezeWrongFalsely : Prop := fnExactFillFriezeRow.holds Try.pinned (OpenSpec.ofChange fnExactFillFriezeWrong)

/-- 'laws.FnPeriods': WHATEVER THE INPUT: true; the input reads as it did. -/
def fnPeriodsSpec : ChangeSpec := { name := "fnPeriods", fn := fun _ => fun
  | [d] => { results := [.lit (.bool true)], args := [d] }
  | _ => none }
def fnPeriodsRow : OpenClaim := { program := "ythfgmadogknnaaa", sum := "4bca3e5de7a03bb6c0b49380671b3bd5838edcd1504c98331777194ae2a5e0f7", func := "loop.example/g00943/laws.FnPeriods", spec := "fnPeriods", unfollowed := true, recurses := true, apart := false }
def FnPeriodsSaid : Prop := fnPeriodsRow.holds Try.pinned (OpenSpec.ofChange fnPeriodsSpec)

/-- ITS FALSE NEIGHBOUR: 'it returns false'. Refute it at one input. -/
def fnPeriodsWrong : ChangeSpec := { name := "fnPeriods", fn := fun _ => fun
  | [d] => { results := [.lit (.bool false)], args := [d] }
  | _ => none }
def FnPeriodsWrongFalsely : Prop := fnPeriodsRow.holds Try.pinned (OpenSpec.ofChange fnPeriodsWrong)

/-- 'laws.FnFilled': WHATEVER THE INPUT: true; the input reads as it did. -/
def fnFilledSpec : ChangeSpec := { name := "fnFilled", fn := fun _ => fun
  | [d] => { results := [.lit (.bool true)], args := [d] }
  | _ => none }
def fnFilledRow : OpenClaim := { program := "ythfgmadogknnaaa", sum := "4bca3e5de7a03bb6c0b49380671b3bd5838edcd1504c98331777194ae2a5e0f7", func := "loop.example/g00943/laws.FnFilled", spec := "fnFilled", unfollowed := true, recurses := true, apart := false }
def FnFilledSaid : Prop := fnFilledRow.holds Try.pinned (OpenSpec.ofChange fnFilledSpec)

/-- ITS FALSE NEIGHBOUR: 'it returns false'. Refute it at one input. -/
def fnFilledWrong : ChangeSpec := { name := "fnFilled", fn := fun _ => fun
  | [d] => { results := [.lit (.bool false)], args := [d] }
  | _ => none }
def FnFilledWrongFalsely : Prop := fnFilledRow.holds Try.pinned (OpenSpec.ofChange fnFilledWrong)

/-- 'laws.FnFriezes': WHATEVER THE INPUT: true; the input reads as it did. -/
def fnFriezesSpec : ChangeSpec := { name := "fnFriezes", fn := fun _ => fun
  | [d] => { results := [.lit (.bool true)], args := [d] }
  | _ => none }
def fnFriezesRow : OpenClaim := { program := "ythfgmadogknnaaa", sum := "4bca3e5de7a03bb6c0b49380671b3bd5838edcd1504c98331777194ae2a5e0f7", func := "loop.example/g00943/laws.FnFriezes", spec := "fnFriezes", unfollowed := true, recurses := true, apart := false }
def FnFriezesSaid : Prop := fnFriezesRow.holds Try.pinned (OpenSpec.ofChange fnFriezesSpec)

/-- ITS FALSE NEIGHBOUR: 'it returns false'. Refute it at one input. -/
def fnFriezesWrong : ChangeSpec := { name := "fnFriezes", fn := fun _ => fun
  | [d] => { results := [.lit (.bool false)], args := [d] }
  | _ => none }
def FnFriezesWrongFalsely : Prop := fnFriezesRow.holds Try.pinned (OpenSpec.ofChange fnFriezesWrong)

/- THE SECOND FORM. 'bulk': how many values and letters a reading holds, each counted each time it is reached (what is shared counts as often as it is met; a slice's spare places count too). A statement '..UptoSaid' is the law's where the arguments, and the package variables that the reading takes, are together of bulk at most 1048576: NARROWER than '..Said'. Prove '..Said' where nothing that the law and all that it calls make is longer than what came in: it says more and counts as full. Else prove '..UptoSaid'. A law counts once. -/
mutual
def uptoBulk {H : Type} : DataW H → Nat
  | .lit (.string bytes) => bytes.length + 1
  | .lit _ => 1
  | .nil => 1
  | .ptr d => uptoBulk d + 1
  | .slice elems spare => uptoBulkAll elems + uptoBulkAll spare + 1
  | .agg parts => uptoBulkAll parts + 1
  | .iface _ d => uptoBulk d + 1
  | .map entries => uptoBulkEntries entries + 1
  | .held _ => 1
def uptoBulkAll {H : Type} : List (DataW H) → Nat
  | [] => 0
  | d :: r => uptoBulk d + uptoBulkAll r
def uptoBulkEntries {H : Type} : List (Lit × DataW H) → Nat
  | [] => 0
  | x :: r => uptoBulkEntry x + uptoBulkEntries r
def uptoBulkEntry {H : Type} : Lit × DataW H → Nat
  | (.string bytes, d) => bytes.length + uptoBulk d + 1
  | (_, d) => uptoBulk d + 1
 end
def uptoSmall : (H : Type) → List (DataW H) → Bool := fun _ ds => decide (uptoBulkAll ds ≤ 1048576)
def OpenSpec.upto (s : _root_.Go.ChangeSpec) : _root_.Go.OpenSpec := { _root_.Go.OpenSpec.ofChange s with cond := some uptoSmall }

/-- 'laws.FnExactIsFrieze', WHERE WHAT IT READS IS OF BULK AT MOST 1048576: true; the input reads as it did. -/
def fnExactIsFriezeUptoRow : OpenClaim := { program := "ythfgmadogknnaaa", sum := "4bca3e5de7a03bb6c0b49380671b3bd5838edcd1504c98331777194ae2a5e0f7", func := "loop.example/g00943/laws.FnExactIsFrieze", spec := "fnExactIsFrieze", unfollowed := true, recurses := true, apart := false, narrowed := true }
def FnExactIsFriezeUptoSaid : Prop := fnExactIsFriezeUptoRow.holds Try.pinned (OpenSpec.upto fnExactIsFriezeSpec)

/-- 'laws.FnExactFriezeAt', WHERE WHAT IT READS IS OF BULK AT MOST 1048576: true; the input reads as it did. -/
def fnExactFriezeAtUptoRow : OpenClaim := { program := "ythfgmadogknnaaa", sum := "4bca3e5de7a03bb6c0b49380671b3bd5838edcd1504c98331777194ae2a5e0f7", func := "loop.example/g00943/laws.FnExactFriezeAt", spec := "fnExactFriezeAt", unfollowed := true, recurses := true, apart := false, narrowed := true }
def FnExactFriezeAtUptoSaid : Prop := fnExactFriezeAtUptoRow.holds Try.pinned (OpenSpec.upto fnExactFriezeAtSpec)

/-- 'laws.FnExactPeriodOf', WHERE WHAT IT READS IS OF BULK AT MOST 1048576: true; the input reads as it did. -/
def fnExactPeriodOfUptoRow : OpenClaim := { program := "ythfgmadogknnaaa", sum := "4bca3e5de7a03bb6c0b49380671b3bd5838edcd1504c98331777194ae2a5e0f7", func := "loop.example/g00943/laws.FnExactPeriodOf", spec := "fnExactPeriodOf", unfollowed := true, recurses := true, apart := false, narrowed := true }
def FnExactPeriodOfUptoSaid : Prop := fnExactPeriodOfUptoRow.holds Try.pinned (OpenSpec.upto fnExactPeriodOfSpec)

/-- 'laws.FnExactShortenFrieze', WHERE WHAT IT READS IS OF BULK AT MOST 1048576: true; the input reads as it did. -/
def fnExactShortenFriezeUptoRow : OpenClaim := { program := "ythfgmadogknnaaa", sum := "4bca3e5de7a03bb6c0b49380671b3bd5838edcd1504c98331777194ae2a5e0f7", func := "loop.example/g00943/laws.FnExactShortenFrieze", spec := "fnExactShortenFrieze", unfollowed := true, recurses := true, apart := false, narrowed := true }
def FnExactShortenFriezeUptoSaid : Prop := fnExactShortenFriezeUptoRow.holds Try.pinned (OpenSpec.upto fnExactShortenFriezeSpec)

/-- 'laws.FnExactFriezeSymmetries', WHERE WHAT IT READS IS OF BULK AT MOST 1048576: true; the input reads as it did. -/
def fnExactFriezeSymmetriesUptoRow : OpenClaim := { program := "ythfgmadogknnaaa", sum := "4bca3e5de7a03bb6c0b49380671b3bd5838edcd1504c98331777194ae2a5e0f7", func := "loop.example/g00943/laws.FnExactFriezeSymmetries", spec := "fnExactFriezeSymmetries", unfollowed := true, recurses := true, apart := false, narrowed := true }
def FnExactFriezeSymmetriesUptoSaid : Prop := fnExactFriezeSymmetriesUptoRow.holds Try.pinned (OpenSpec.upto fnExactFriezeSymmetriesSpec)

/-- 'laws.FnExactFriezeName', WHERE WHAT IT READS IS OF BULK AT MOST 1048576: true; the input reads as it did. -/
def fnExactFriezeNameUptoRow : OpenClaim := { program := "ythfgmadogknnaaa", sum := "4bca3e5de7a03bb6c0b49380671b3bd5838edcd1504c98331777194ae2a5e0f7", func := "loop.example/g00943/laws.FnExactFriezeName", spec := "fnExactFriezeName", unfollowed := true, recurses := true, apart := false, narrowed := true }
def FnExactFriezeNameUptoSaid : Prop := fnExactFriezeNameUptoRow.holds Try.pinned (OpenSpec.upto fnExactFriezeNameSpec)

/-- 'laws.FnExactMoveFrieze', WHERE WHAT IT READS IS OF BULK AT MOST 1048576: true; the input reads as it did. -/
def fnExactMoveFriezeUptoRow : OpenClaim := { program := "ythfgmadogknnaaa", sum := "4bca3e5de7a03bb6c0b49380671b3bd5838edcd1504c98331777194ae2a5e0f7", func := "loop.example/g00943/laws.FnExactMoveFrieze", spec := "fnExactMoveFrieze", unfollowed := true, recurses := true, apart := false, narrowed := true }
def FnExactMoveFriezeUptoSaid : Prop := fnExactMoveFriezeUptoRow.holds Try.pinned (OpenSpec.upto fnExactMoveFriezeSpec)

/-- 'laws.FnExactFillFrieze', WHERE WHAT IT READS IS OF BULK AT MOST 1048576: true; the input reads as it did. -/
def fnExactFillFriezeUptoRow : OpenClaim := { program := "ythfgmadogknnaaa", sum := "4bca3e5de7a03bb6c0b49380671b3bd5838edcd1504c98331777194ae2a5e0f7", func := "loop.example/g00943/laws.FnExactFillFrieze", spec := "fnExactFillFrieze", unfollowed := true, recurses := true, apart := false, narrowed := true }
def FnExactFillFriezeUptoSaid : Prop := fnExactFillFriezeUptoRow.holds Try.pinned (OpenSpec.upto fnExactFillFriezeSpec)

/-- 'laws.FnPeriods', WHERE WHAT IT READS IS OF BULK AT MOST 1048576: true; the input reads as it did. -/
def fnPeriodsUptoRow : OpenClaim := { program := "ythfgmadogknnaaa", sum := "4bca3e5de7a03bb6c0b49380671b3bd5838edcd1504c98331777194ae2a5e0f7", func := "loop.example/g00943/laws.FnPeriods", spec := "fnPeriods", unfollowed := true, recurses := true, apart := false, narrowed := true }
def FnPeriodsUptoSaid : Prop := fnPeriodsUptoRow.holds Try.pinned (OpenSpec.upto fnPeriodsSpec)

/-- 'laws.FnFilled', WHERE WHAT IT READS IS OF BULK AT MOST 1048576: true; the input reads as it did. -/
def fnFilledUptoRow : OpenClaim := { program := "ythfgmadogknnaaa", sum := "4bca3e5de7a03bb6c0b49380671b3bd5838edcd1504c98331777194ae2a5e0f7", func := "loop.example/g00943/laws.FnFilled", spec := "fnFilled", unfollowed := true, recurses := true, apart := false, narrowed := true }
def FnFilledUptoSaid : Prop := fnFilledUptoRow.holds Try.pinned (OpenSpec.upto fnFilledSpec)

/-- 'laws.FnFriezes', WHERE WHAT IT READS IS OF BULK AT MOST 1048576: true; the input reads as it did. -/
def fnFriezesUptoRow : OpenClaim := { program := "ythfgmadogknnaaa", sum := "4bca3e5de7a03bb6c0b49380671b3bd5838edcd1504c98331777194ae2a5e0f7", func := "loop.example/g00943/laws.FnFriezes", spec := "fnFriezes", unfollowed := true, recurses := true, apart := false, narrowed := true }
def FnFriezesUptoSaid : Prop := fnFriezesUptoRow.holds Try.pinned (OpenSpec.upto fnFriezesSpec)

end Rows
end Go.Proofs.Ythfgmadogknnaaa
