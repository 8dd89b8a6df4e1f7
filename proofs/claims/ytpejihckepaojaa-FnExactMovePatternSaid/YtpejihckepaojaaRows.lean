/-
  No cell of these rows narrows 'for every input' (looked for: loops, veiled, ifaces, maps, wideKeys, modest, calm, conditions, laid).
  DERIVED. THE GIVEN ROWS OF THIS SEAT. 5 by the template 'for every input the law returns true; each argument reads behind the call as it read before'; 0 by the template 'total and deterministic' (their statements: YtpejihckepaojaaTotals.lean).
  GIVEN WITH THE SEED: the statements are not yours to turn. If you find one false, say at which input.
  Laid BY PROGRAM, IN A SANDBOX (cutbox-rows.mjs): the forced cells as the released guide's own fill.sh prints them over the translation d62501d49fcf238a… (all of the seat's roots in one cut). By AI agents, Wed Nov 11 2026. No macro, syntax, notation, axiom, sorry.
-/
import Derived.Test.YtpejihckepaojaaChecked
import GoSem.Claim
import GoSem.ClaimJoined
import GoSem.ClaimMapViews
import Derived.JoinedTies
import Derived.KernelRfl
namespace Go.Proofs.Ytpejihckepaojaa
/- THE CELL 'sum', in the pinned program and in every row, IS THE sha256 OF THE DUMP (.gsa) THAT YtpejihckepaojaaProg.lean LOADS. Nothing in Lean hashes anything: it is a label: what it is worth is what the hold of that sum in a sandbox is worth. -/
noncomputable def Try.pinned : Pinned := { name := "ytpejihckepaojaa", sum := "d62501d49fcf238a71b45b10c0fba8b8d4393f2302c18fb92b94e89c5ec163c2", checked := Try.checked }
namespace Rows
def none {H : Type} : Left H := { results := [], args := [] }

/-- 'laws.FnExactIsPattern': WHATEVER THE INPUT: true; the input reads as it did. -/
def fnExactIsPatternSpec : ChangeSpec := { name := "fnExactIsPattern", fn := fun _ => fun
  | [d] => { results := [.lit (.bool true)], args := [d] }
  | _ => none }
def fnExactIsPatternRow : OpenClaim := { program := "ytpejihckepaojaa", sum := "d62501d49fcf238a71b45b10c0fba8b8d4393f2302c18fb92b94e89c5ec163c2", func := "loop.example/g00943/laws.FnExactIsPattern", spec := "fnExactIsPattern", unfollowed := true, recurses := true, apart := false }
def FnExactIsPatternSaid : Prop := fnExactIsPatternRow.holds Try.pinned (OpenSpec.ofChange fnExactIsPatternSpec)

/-- ITS FALSE NEIGHBOUR: 'it returns false'. Refute it at one input. -/
def fnExactIsPatternWrong : ChangeSpec := { name := "fnExactIsPattern", fn := fun _ => fun
  | [d] => { results := [.lit (.bool false)], args := [d] }
  | _ => none }
def FnExactIsPatternWrongFalsely : Prop := fnExactIsPatternRow.holds Try.pinned (OpenSpec.ofChange fnExactIsPatternWrong)

/-- 'laws.FnExactColourAt': WHATEVER THE INPUT: true; the input reads as it did. -/
def fnExactColourAtSpec : ChangeSpec := { name := "fnExactColourAt", fn := fun _ => fun
  | [d1, d2] => { results := [.lit (.bool true)], args := [d1, d2] }
  | _ => none }
def fnExactColourAtRow : OpenClaim := { program := "ytpejihckepaojaa", sum := "d62501d49fcf238a71b45b10c0fba8b8d4393f2302c18fb92b94e89c5ec163c2", func := "loop.example/g00943/laws.FnExactColourAt", spec := "fnExactColourAt", unfollowed := true, recurses := true, apart := false }
def FnExactColourAtSaid : Prop := fnExactColourAtRow.holds Try.pinned (OpenSpec.ofChange fnExactColourAtSpec)

/-- ITS FALSE NEIGHBOUR: 'it returns false'. Refute it at one input. -/
def fnExactColourAtWrong : ChangeSpec := { name := "fnExactColourAt", fn := fun _ => fun
  | [d1, d2] => { results := [.lit (.bool false)], args := [d1, d2] }
  | _ => none }
def FnExactColourAtWrongFalsely : Prop := fnExactColourAtRow.holds Try.pinned (OpenSpec.ofChange fnExactColourAtWrong)

/-- 'laws.FnExactFullLattice': WHATEVER THE INPUT: true; the input reads as it did. -/
def fnExactFullLatticeSpec : ChangeSpec := { name := "fnExactFullLattice", fn := fun _ => fun
  | [d] => { results := [.lit (.bool true)], args := [d] }
  | _ => none }
def fnExactFullLatticeRow : OpenClaim := { program := "ytpejihckepaojaa", sum := "d62501d49fcf238a71b45b10c0fba8b8d4393f2302c18fb92b94e89c5ec163c2", func := "loop.example/g00943/laws.FnExactFullLattice", spec := "fnExactFullLattice", unfollowed := true, recurses := true, apart := false }
def FnExactFullLatticeSaid : Prop := fnExactFullLatticeRow.holds Try.pinned (OpenSpec.ofChange fnExactFullLatticeSpec)

/-- ITS FALSE NEIGHBOUR: 'it returns false'. Refute it at one input. -/
def fnExactFullLatticeWrong : ChangeSpec := { name := "fnExactFullLattice", fn := fun _ => fun
  | [d] => { results := [.lit (.bool false)], args := [d] }
  | _ => none }
def FnExactFullLatticeWrongFalsely : Prop := fnExactFullLatticeRow.holds Try.pinned (OpenSpec.ofChange fnExactFullLatticeWrong)

/-- 'laws.FnExactCountColours': WHATEVER THE INPUT: true; the input reads as it did. -/
def fnExactCountColoursSpec : ChangeSpec := { name := "fnExactCountColours", fn := fun _ => fun
  | [d] => { results := [.lit (.bool true)], args := [d] }
  | _ => none }
def fnExactCountColoursRow : OpenClaim := { program := "ytpejihckepaojaa", sum := "d62501d49fcf238a71b45b10c0fba8b8d4393f2302c18fb92b94e89c5ec163c2", func := "loop.example/g00943/laws.FnExactCountColours", spec := "fnExactCountColours", unfollowed := true, recurses := true, apart := false }
def FnExactCountColoursSaid : Prop := fnExactCountColoursRow.holds Try.pinned (OpenSpec.ofChange fnExactCountColoursSpec)

/-- ITS FALSE NEIGHBOUR: 'it returns false'. Refute it at one input. -/
def fnExactCountColoursWrong : ChangeSpec := { name := "fnExactCountColours", fn := fun _ => fun
  | [d] => { results := [.lit (.bool false)], args := [d] }
  | _ => none }
def FnExactCountColoursWrongFalsely : Prop := fnExactCountColoursRow.holds Try.pinned (OpenSpec.ofChange fnExactCountColoursWrong)

/-- 'laws.FnExactMovePattern': WHATEVER THE INPUT: true; the input reads as it did. -/
def fnExactMovePatternSpec : ChangeSpec := { name := "fnExactMovePattern", fn := fun _ => fun
  | [d1, d2] => { results := [.lit (.bool true)], args := [d1, d2] }
  | _ => none }
def fnExactMovePatternRow : OpenClaim := { program := "ytpejihckepaojaa", sum := "d62501d49fcf238a71b45b10c0fba8b8d4393f2302c18fb92b94e89c5ec163c2", func := "loop.example/g00943/laws.FnExactMovePattern", spec := "fnExactMovePattern", unfollowed := true, recurses := true, apart := false }
def FnExactMovePatternSaid : Prop := fnExactMovePatternRow.holds Try.pinned (OpenSpec.ofChange fnExactMovePatternSpec)

/-- ITS FALSE NEIGHBOUR: 'it returns false'. Refute it at one input. -/
def fnExactMovePatternWrong : ChangeSpec := { name := "fnExactMovePattern", fn := fun _ => fun
  | [d1, d2] => { results := [.lit (.bool false)], args := [d1, d2] }
  | _ => none }
def FnExactMovePatternWrongFalsely : Prop := fnExactMovePatternRow.holds Try.pinned (OpenSpec.ofChange fnExactMovePatternWrong)

/- THE SECOND FORM. 'bulk': how many values and letters a reading holds, each counted each time it is reached (what is shared counts as often as it is met; a slice's spare places count too). A statement '..UptoSaid' is the law's where the arguments, and the package variables that the reading takes, are together of bulk at most 1048576: NARROWER than '..Said'. Prove '..Said' where nothing that the law and all that it calls make is longer than what came in: it says more and counts as full. Else prove '..UptoSaid'. A law counts once. -/
mutual
def uptoBulk {H : Type} : DataW H → Nat
  | .lit (.string bytes) => bytes.length + 1
  | .lit _ => 1
  | .nil => 1
  | .ptr d => uptoBulk d + 1
  | .slice elems spare => uptoBulkAll elems + uptoBulkAll spare + 1
  | .agg parts => uptoBulkAll parts + 1
  | .iface _ d => uptoBulk d + 1
  | .map entries => uptoBulkEntries entries + 1
  | .held _ => 1
def uptoBulkAll {H : Type} : List (DataW H) → Nat
  | [] => 0
  | d :: r => uptoBulk d + uptoBulkAll r
def uptoBulkEntries {H : Type} : List (Lit × DataW H) → Nat
  | [] => 0
  | x :: r => uptoBulkEntry x + uptoBulkEntries r
def uptoBulkEntry {H : Type} : Lit × DataW H → Nat
  | (.string bytes, d) => bytes.length + uptoBulk d + 1
  | (_, d) => uptoBulk d + 1
 end
def uptoSmall : (H : Type) → List (DataW H) → Bool := fun _ ds => decide (uptoBulkAll ds ≤ 1048576)
def OpenSpec.upto (s : _root_.Go.ChangeSpec) : _root_.Go.OpenSpec := { _root_.Go.OpenSpec.ofChange s with cond := some uptoSmall }

/-- 'laws.FnExactIsPattern', WHERE WHAT IT READS IS OF BULK AT MOST 1048576: true; the input reads as it did. -/
def fnExactIsPatternUptoRow : OpenClaim := { program := "ytpejihckepaojaa", sum := "d62501d49fcf238a71b45b10c0fba8b8d4393f2302c18fb92b94e89c5ec163c2", func := "loop.example/g00943/laws.FnExactIsPattern", spec := "fnExactIsPattern", unfollowed := true, recurses := true, apart := false, narrowed := true }
def FnExactIsPatternUptoSaid : Prop := fnExactIsPatternUptoRow.holds Try.pinned (OpenSpec.upto fnExactIsPatternSpec)

/-- 'laws.FnExactColourAt', WHERE WHAT IT READS IS OF BULK AT MOST 1048576: true; the input reads as it did. -/
def fnExactColourAtUptoRow : OpenClaim := { program := "ytpejihckepaojaa", sum := "d62501d49fcf238a71b45b10c0fba8b8d4393f2302c18fb92b94e89c5ec163c2", func := "loop.example/g00943/laws.FnExactColourAt", spec := "fnExactColourAt", unfollowed := true, recurses := true, apart := false, narrowed := true }
def FnExactColourAtUptoSaid : Prop := fnExactColourAtUptoRow.holds Try.pinned (OpenSpec.upto fnExactColourAtSpec)

/-- 'laws.FnExactFullLattice', WHERE WHAT IT READS IS OF BULK AT MOST 1048576: true; the input reads as it did. -/
def fnExactFullLatticeUptoRow : OpenClaim := { program := "ytpejihckepaojaa", sum := "d62501d49fcf238a71b45b10c0fba8b8d4393f2302c18fb92b94e89c5ec163c2", func := "loop.example/g00943/laws.FnExactFullLattice", spec := "fnExactFullLattice", unfollowed := true, recurses := true, apart := false, narrowed := true }
def FnExactFullLatticeUptoSaid : Prop := fnExactFullLatticeUptoRow.holds Try.pinned (OpenSpec.upto fnExactFullLatticeSpec)

/-- 'laws.FnExactCountColours', WHERE WHAT IT READS IS OF BULK AT MOST 1048576: true; the input reads as it did. -/
def fnExactCountColoursUptoRow : OpenClaim := { program := "ytpejihckepaojaa", sum := "d62501d49fcf238a71b45b10c0fba8b8d4393f2302c18fb92b94e89c5ec163c2", func := "loop.example/g00943/laws.FnExactCountColours", spec := "fnExactCountColours", unfollowed := true, recurses := true, apart := false, narrowed := true }
def FnExactCountColoursUptoSaid : Prop := fnExactCountColoursUptoRow.holds Try.pinned (OpenSpec.upto fnExactCountColoursSpec)

/-- 'laws.FnExactMovePattern', WHERE WHAT IT READS IS OF BULK AT MOST 1048576: true; the input reads as it did. -/
def fnExactMovePatternUptoRow : OpenClaim := { program := "ytpejihckepaojaa", sum := "d62501d49fcf238a71b45b10c0fba8b8d4393f2302c18fb92b94e89c5ec163c2", func := "loop.example/g00943/laws.FnExactMovePattern", spec := "fnExactMovePattern", unfollowed := true, recurses := true, apart := false, narrowed := true }
def FnExactMovePatternUptoSaid : Prop := fnExactMovePatternUptoRow.holds Try.pinned (OpenSpec.upto fnExactMovePatternSpec)

end Rows
end Go.Proofs.Ytpejihckepaojaa
