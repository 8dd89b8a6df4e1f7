/-
  NARROWER THAN 'FOR EVERY INPUT', by the rows' own cells (each row's printed sentence says how): FnExactGroupNames: laid · FnExactNameOfFacts: laid · FnExactSignatureOf: laid · FnExactPointOrder: laid · FnExactNameOfSignature: laid · FnSignatures: laid.
  DERIVED. THE GIVEN ROWS OF THIS SEAT. 6 by the template 'for every input the law returns true; each argument reads behind the call as it read before'; 0 by the template 'total and deterministic' (their statements: YtjocmfnjfmlgiaaDoorTotals.lean).
  GIVEN WITH THE SEED: the statements are not yours to turn. If you find one false, say at which input.
  Laid BY PROGRAM, IN A SANDBOX (cutbox-rows.mjs): the forced cells as the released guide's own fill.sh prints them over the translation 007186b899d5caf4… (all of the seat's roots in one cut). By AI agents, Wed Nov 11 2026. No macro, syntax, notation, axiom, sorry.
-/
import Derived.Test.YtjocmfnjfmlgiaaDoorChecked
import GoSem.Claim
import GoSem.ClaimJoined
import GoSem.ClaimMapViews
import Derived.JoinedTies
import Derived.KernelRfl
namespace Go.Proofs.YtjocmfnjfmlgiaaDoor
/- THE CELL 'sum', in the pinned program and in every row, IS THE sha256 OF THE DUMP (.gsa) THAT YtjocmfnjfmlgiaaDoorProg.lean LOADS. Nothing in Lean hashes anything: it is a label: what it is worth is what the hold of that sum in a sandbox is worth. -/
noncomputable def Tryd.pinned : Pinned := { name := "ytjocmfnjfmlgiaadoor", sum := "007186b899d5caf48e070fce059f4a31dfbd0bd7d5d6b46e3dc3523a3cc702bd", checked := Tryd.checked }
namespace Rows
def none {H : Type} : Left H := { results := [], args := [] }

/- WHAT THE LISTED PACKAGE-LEVEL VARIABLES READ AS WHEN THE CALL BEGINS. Each datum BY PROGRAM (the guide's laid-datum.mjs) off the statement by which the dump's own 'gosem.cut.vars' lays the variable. In a bare row this is a premise. The card (YtjocmfnjfmlgiaaDoorCards.lean) ties it to the program's text. -/
def laid_loop_example_g00943_impl_namedGroups {H : Type} : DataW H := .agg [.agg [.lit (.string [112, 49]), .lit (.string [111]), .lit (.int .i64 1)], .agg [.lit (.string [112, 50]), .lit (.string [50, 50, 50, 50]), .lit (.int .i64 2)], .agg [.lit (.string [112, 109]), .lit (.string [42, 42]), .lit (.int .i64 2)], .agg [.lit (.string [112, 103]), .lit (.string [120, 120]), .lit (.int .i64 2)], .agg [.lit (.string [99, 109]), .lit (.string [42, 120]), .lit (.int .i64 2)], .agg [.lit (.string [112, 109, 109]), .lit (.string [42, 50, 50, 50, 50]), .lit (.int .i64 4)], .agg [.lit (.string [112, 109, 103]), .lit (.string [50, 50, 42]), .lit (.int .i64 4)], .agg [.lit (.string [112, 103, 103]), .lit (.string [50, 50, 120]), .lit (.int .i64 4)], .agg [.lit (.string [99, 109, 109]), .lit (.string [50, 42, 50, 50]), .lit (.int .i64 4)], .agg [.lit (.string [112, 52]), .lit (.string [52, 52, 50]), .lit (.int .i64 4)], .agg [.lit (.string [112, 52, 109]), .lit (.string [42, 52, 52, 50]), .lit (.int .i64 8)], .agg [.lit (.string [112, 52, 103]), .lit (.string [52, 42, 50]), .lit (.int .i64 8)], .agg [.lit (.string [112, 51]), .lit (.string [51, 51, 51]), .lit (.int .i64 3)], .agg [.lit (.string [112, 51, 109, 49]), .lit (.string [42, 51, 51, 51]), .lit (.int .i64 6)], .agg [.lit (.string [112, 51, 49, 109]), .lit (.string [51, 42, 51]), .lit (.int .i64 6)], .agg [.lit (.string [112, 54]), .lit (.string [54, 51, 50]), .lit (.int .i64 6)], .agg [.lit (.string [112, 54, 109]), .lit (.string [42, 54, 51, 50]), .lit (.int .i64 12)]]
def laid_math_bits_deBruijn32tab {H : Type} : DataW H := .agg [.lit (.int .u8 0), .lit (.int .u8 1), .lit (.int .u8 28), .lit (.int .u8 2), .lit (.int .u8 29), .lit (.int .u8 14), .lit (.int .u8 24), .lit (.int .u8 3), .lit (.int .u8 30), .lit (.int .u8 22), .lit (.int .u8 20), .lit (.int .u8 15), .lit (.int .u8 25), .lit (.int .u8 17), .lit (.int .u8 4), .lit (.int .u8 8), .lit (.int .u8 31), .lit (.int .u8 27), .lit (.int .u8 13), .lit (.int .u8 23), .lit (.int .u8 21), .lit (.int .u8 19), .lit (.int .u8 16), .lit (.int .u8 7), .lit (.int .u8 26), .lit (.int .u8 12), .lit (.int .u8 18), .lit (.int .u8 6), .lit (.int .u8 11), .lit (.int .u8 5), .lit (.int .u8 10), .lit (.int .u8 9)]
def laid_math_bits_deBruijn64tab {H : Type} : DataW H := .agg [.lit (.int .u8 0), .lit (.int .u8 1), .lit (.int .u8 56), .lit (.int .u8 2), .lit (.int .u8 57), .lit (.int .u8 49), .lit (.int .u8 28), .lit (.int .u8 3), .lit (.int .u8 61), .lit (.int .u8 58), .lit (.int .u8 42), .lit (.int .u8 50), .lit (.int .u8 38), .lit (.int .u8 29), .lit (.int .u8 17), .lit (.int .u8 4), .lit (.int .u8 62), .lit (.int .u8 47), .lit (.int .u8 59), .lit (.int .u8 36), .lit (.int .u8 45), .lit (.int .u8 43), .lit (.int .u8 51), .lit (.int .u8 22), .lit (.int .u8 53), .lit (.int .u8 39), .lit (.int .u8 33), .lit (.int .u8 30), .lit (.int .u8 24), .lit (.int .u8 18), .lit (.int .u8 12), .lit (.int .u8 5), .lit (.int .u8 63), .lit (.int .u8 55), .lit (.int .u8 48), .lit (.int .u8 27), .lit (.int .u8 60), .lit (.int .u8 41), .lit (.int .u8 37), .lit (.int .u8 16), .lit (.int .u8 46), .lit (.int .u8 35), .lit (.int .u8 44), .lit (.int .u8 21), .lit (.int .u8 52), .lit (.int .u8 32), .lit (.int .u8 23), .lit (.int .u8 11), .lit (.int .u8 54), .lit (.int .u8 26), .lit (.int .u8 40), .lit (.int .u8 15), .lit (.int .u8 34), .lit (.int .u8 20), .lit (.int .u8 31), .lit (.int .u8 10), .lit (.int .u8 25), .lit (.int .u8 14), .lit (.int .u8 19), .lit (.int .u8 9), .lit (.int .u8 13), .lit (.int .u8 8), .lit (.int .u8 7), .lit (.int .u8 6)]
def laid_internal_strconv_uint64pow10 {H : Type} : DataW H := .agg [.lit (.int .u64 1), .lit (.int .u64 10), .lit (.int .u64 100), .lit (.int .u64 1000), .lit (.int .u64 10000), .lit (.int .u64 100000), .lit (.int .u64 1000000), .lit (.int .u64 10000000), .lit (.int .u64 100000000), .lit (.int .u64 1000000000), .lit (.int .u64 10000000000), .lit (.int .u64 100000000000), .lit (.int .u64 1000000000000), .lit (.int .u64 10000000000000), .lit (.int .u64 100000000000000), .lit (.int .u64 1000000000000000), .lit (.int .u64 10000000000000000), .lit (.int .u64 100000000000000000), .lit (.int .u64 1000000000000000000), .lit (.int .u64 10000000000000000000)]

/-- 'laws.FnExactGroupNames': WHATEVER THE INPUT: true; the input reads as it did. -/
def fnExactGroupNamesSpec : ChangeSpec := { name := "fnExactGroupNames", vars := ["loop.example/g00943/impl.namedGroups"], fn := fun _ => fun
  | [g1] => { results := [.lit (.bool true)], args := [], vars := [g1] }
  | _ => none }
def fnExactGroupNamesRow : OpenClaim := { program := "ytjocmfnjfmlgiaadoor", sum := "007186b899d5caf48e070fce059f4a31dfbd0bd7d5d6b46e3dc3523a3cc702bd", func := "loop.example/g00943/laws.FnExactGroupNames", spec := "fnExactGroupNames", named := ["loop.example/g00943/impl.namedGroups"], apart := false, laid := [("loop.example/g00943/impl.namedGroups", laid_loop_example_g00943_impl_namedGroups)] }
def FnExactGroupNamesSaid : Prop := fnExactGroupNamesRow.holds Tryd.pinned (OpenSpec.ofChange fnExactGroupNamesSpec)

/-- ITS FALSE NEIGHBOUR: 'it returns false'. Refute it at one input. -/
def fnExactGroupNamesWrong : ChangeSpec := { name := "fnExactGroupNames", vars := ["loop.example/g00943/impl.namedGroups"], fn := fun _ => fun
  | [g1] => { results := [.lit (.bool false)], args := [], vars := [g1] }
  | _ => none }
def FnExactGroupNamesWrongFalsely : Prop := fnExactGroupNamesRow.holds Tryd.pinned (OpenSpec.ofChange fnExactGroupNamesWrong)

/-- 'laws.FnExactNameOfFacts': WHATEVER THE INPUT: true; the input reads as it did. -/
def fnExactNameOfFactsSpec : ChangeSpec := { name := "fnExactNameOfFacts", fn := fun _ => fun
  | [d] => { results := [.lit (.bool true)], args := [d] }
  | _ => none }
def fnExactNameOfFactsRow : OpenClaim := { program := "ytjocmfnjfmlgiaadoor", sum := "007186b899d5caf48e070fce059f4a31dfbd0bd7d5d6b46e3dc3523a3cc702bd", func := "loop.example/g00943/laws.FnExactNameOfFacts", spec := "fnExactNameOfFacts", unfollowed := true, recurses := true, named := ["internal/strconv.uint64pow10", "math/bits.deBruijn32tab", "math/bits.deBruijn64tab"], apart := false, laid := [("math/bits.deBruijn32tab", laid_math_bits_deBruijn32tab), ("math/bits.deBruijn64tab", laid_math_bits_deBruijn64tab), ("internal/strconv.uint64pow10", laid_internal_strconv_uint64pow10)] }
def FnExactNameOfFactsSaid : Prop := fnExactNameOfFactsRow.holds Tryd.pinned (OpenSpec.ofChange fnExactNameOfFactsSpec)

/-- ITS FALSE NEIGHBOUR: 'it returns false'. Refute it at one input. -/
def fnExactNameOfFactsWrong : ChangeSpec := { name := "fnExactNameOfFacts", fn := fun _ => fun
  | [d] => { results := [.lit (.bool false)], args := [d] }
  | _ => none }
def FnExactNameOfFactsWrongFalsely : Prop := fnExactNameOfFactsRow.holds Tryd.pinned (OpenSpec.ofChange fnExactNameOfFactsWrong)

/-- 'laws.FnExactSignatureOf': WHATEVER THE INPUT: true; the input reads as it did. -/
def fnExactSignatureOfSpec : ChangeSpec := { name := "fnExactSignatureOf", vars := ["loop.example/g00943/impl.namedGroups"], fn := fun _ => fun
  | [d, g1] => { results := [.lit (.bool true)], args := [d], vars := [g1] }
  | _ => none }
def fnExactSignatureOfRow : OpenClaim := { program := "ytjocmfnjfmlgiaadoor", sum := "007186b899d5caf48e070fce059f4a31dfbd0bd7d5d6b46e3dc3523a3cc702bd", func := "loop.example/g00943/laws.FnExactSignatureOf", spec := "fnExactSignatureOf", named := ["loop.example/g00943/impl.namedGroups"], apart := false, laid := [("loop.example/g00943/impl.namedGroups", laid_loop_example_g00943_impl_namedGroups)] }
def FnExactSignatureOfSaid : Prop := fnExactSignatureOfRow.holds Tryd.pinned (OpenSpec.ofChange fnExactSignatureOfSpec)

/-- ITS FALSE NEIGHBOUR: 'it returns false'. Refute it at one input. -/
def fnExactSignatureOfWrong : ChangeSpec := { name := "fnExactSignatureOf", vars := ["loop.example/g00943/impl.namedGroups"], fn := fun _ => fun
  | [d, g1] => { results := [.lit (.bool false)], args := [d], vars := [g1] }
  | _ => none }
def FnExactSignatureOfWrongFalsely : Prop := fnExactSignatureOfRow.holds Tryd.pinned (OpenSpec.ofChange fnExactSignatureOfWrong)

/-- 'laws.FnExactPointOrder': WHATEVER THE INPUT: true; the input reads as it did. -/
def fnExactPointOrderSpec : ChangeSpec := { name := "fnExactPointOrder", vars := ["loop.example/g00943/impl.namedGroups"], fn := fun _ => fun
  | [d, g1] => { results := [.lit (.bool true)], args := [d], vars := [g1] }
  | _ => none }
def fnExactPointOrderRow : OpenClaim := { program := "ytjocmfnjfmlgiaadoor", sum := "007186b899d5caf48e070fce059f4a31dfbd0bd7d5d6b46e3dc3523a3cc702bd", func := "loop.example/g00943/laws.FnExactPointOrder", spec := "fnExactPointOrder", named := ["loop.example/g00943/impl.namedGroups"], apart := false, laid := [("loop.example/g00943/impl.namedGroups", laid_loop_example_g00943_impl_namedGroups)] }
def FnExactPointOrderSaid : Prop := fnExactPointOrderRow.holds Tryd.pinned (OpenSpec.ofChange fnExactPointOrderSpec)

/-- ITS FALSE NEIGHBOUR: 'it returns false'. Refute it at one input. -/
def fnExactPointOrderWrong : ChangeSpec := { name := "fnExactPointOrder", vars := ["loop.example/g00943/impl.namedGroups"], fn := fun _ => fun
  | [d, g1] => { results := [.lit (.bool false)], args := [d], vars := [g1] }
  | _ => none }
def FnExactPointOrderWrongFalsely : Prop := fnExactPointOrderRow.holds Tryd.pinned (OpenSpec.ofChange fnExactPointOrderWrong)

/-- 'laws.FnExactNameOfSignature': WHATEVER THE INPUT: true; the input reads as it did. -/
def fnExactNameOfSignatureSpec : ChangeSpec := { name := "fnExactNameOfSignature", vars := ["loop.example/g00943/impl.namedGroups"], fn := fun _ => fun
  | [d, g1] => { results := [.lit (.bool true)], args := [d], vars := [g1] }
  | _ => none }
def fnExactNameOfSignatureRow : OpenClaim := { program := "ytjocmfnjfmlgiaadoor", sum := "007186b899d5caf48e070fce059f4a31dfbd0bd7d5d6b46e3dc3523a3cc702bd", func := "loop.example/g00943/laws.FnExactNameOfSignature", spec := "fnExactNameOfSignature", named := ["loop.example/g00943/impl.namedGroups"], apart := false, laid := [("loop.example/g00943/impl.namedGroups", laid_loop_example_g00943_impl_namedGroups)] }
def FnExactNameOfSignatureSaid : Prop := fnExactNameOfSignatureRow.holds Tryd.pinned (OpenSpec.ofChange fnExactNameOfSignatureSpec)

/-- ITS FALSE NEIGHBOUR: 'it returns false'. Refute it at one input. -/
def fnExactNameOfSignatureWrong : ChangeSpec := { name := "fnExactNameOfSignature", vars := ["loop.example/g00943/impl.namedGroups"], fn := fun _ => fun
  | [d, g1] => { results := [.lit (.bool false)], args := [d], vars := [g1] }
  | _ => none }
def FnExactNameOfSignatureWrongFalsely : Prop := fnExactNameOfSignatureRow.holds Tryd.pinned (OpenSpec.ofChange fnExactNameOfSignatureWrong)

/-- 'laws.FnSignatures': WHATEVER THE INPUT: true; the input reads as it did. -/
def fnSignaturesSpec : ChangeSpec := { name := "fnSignatures", vars := ["loop.example/g00943/impl.namedGroups"], fn := fun _ => fun
  | [d, g1] => { results := [.lit (.bool true)], args := [d], vars := [g1] }
  | _ => none }
def fnSignaturesRow : OpenClaim := { program := "ytjocmfnjfmlgiaadoor", sum := "007186b899d5caf48e070fce059f4a31dfbd0bd7d5d6b46e3dc3523a3cc702bd", func := "loop.example/g00943/laws.FnSignatures", spec := "fnSignatures", inPlace := ["internal/bytealg.IndexByteString"], named := ["loop.example/g00943/impl.namedGroups"], apart := false, laid := [("loop.example/g00943/impl.namedGroups", laid_loop_example_g00943_impl_namedGroups)] }
def FnSignaturesSaid : Prop := fnSignaturesRow.holds Tryd.pinned (OpenSpec.ofChange fnSignaturesSpec)

/-- ITS FALSE NEIGHBOUR: 'it returns false'. Refute it at one input. -/
def fnSignaturesWrong : ChangeSpec := { name := "fnSignatures", vars := ["loop.example/g00943/impl.namedGroups"], fn := fun _ => fun
  | [d, g1] => { results := [.lit (.bool false)], args := [d], vars := [g1] }
  | _ => none }
def FnSignaturesWrongFalsely : Prop := fnSignaturesRow.holds Tryd.pinned (OpenSpec.ofChange fnSignaturesWrong)

/- THE SECOND FORM. 'bulk': how many values and letters a reading holds, each counted each time it is reached (what is shared counts as often as it is met; a slice's spare places count too). A statement '..UptoSaid' is the law's where the arguments, and the package variables that the reading takes, are together of bulk at most 1048576: NARROWER than '..Said'. Prove '..Said' where nothing that the law and all that it calls make is longer than what came in: it says more and counts as full. Else prove '..UptoSaid'. A law counts once. -/
mutual
def uptoBulk {H : Type} : DataW H → Nat
  | .lit (.string bytes) => bytes.length + 1
  | .lit _ => 1
  | .nil => 1
  | .ptr d => uptoBulk d + 1
  | .slice elems spare => uptoBulkAll elems + uptoBulkAll spare + 1
  | .agg parts => uptoBulkAll parts + 1
  | .iface _ d => uptoBulk d + 1
  | .map entries => uptoBulkEntries entries + 1
  | .held _ => 1
def uptoBulkAll {H : Type} : List (DataW H) → Nat
  | [] => 0
  | d :: r => uptoBulk d + uptoBulkAll r
def uptoBulkEntries {H : Type} : List (Lit × DataW H) → Nat
  | [] => 0
  | x :: r => uptoBulkEntry x + uptoBulkEntries r
def uptoBulkEntry {H : Type} : Lit × DataW H → Nat
  | (.string bytes, d) => bytes.length + uptoBulk d + 1
  | (_, d) => uptoBulk d + 1
 end
def uptoSmall : (H : Type) → List (DataW H) → Bool := fun _ ds => decide (uptoBulkAll ds ≤ 1048576)
def OpenSpec.upto (s : _root_.Go.ChangeSpec) : _root_.Go.OpenSpec := { _root_.Go.OpenSpec.ofChange s with cond := some uptoSmall }

/-- 'laws.FnExactGroupNames', WHERE WHAT IT READS IS OF BULK AT MOST 1048576: true; the input reads as it did. -/
def fnExactGroupNamesUptoRow : OpenClaim := { program := "ytjocmfnjfmlgiaadoor", sum := "007186b899d5caf48e070fce059f4a31dfbd0bd7d5d6b46e3dc3523a3cc702bd", func := "loop.example/g00943/laws.FnExactGroupNames", spec := "fnExactGroupNames", named := ["loop.example/g00943/impl.namedGroups"], apart := false, laid := [("loop.example/g00943/impl.namedGroups", laid_loop_example_g00943_impl_namedGroups)], narrowed := true }
def FnExactGroupNamesUptoSaid : Prop := fnExactGroupNamesUptoRow.holds Tryd.pinned (OpenSpec.upto fnExactGroupNamesSpec)

/-- 'laws.FnExactNameOfFacts', WHERE WHAT IT READS IS OF BULK AT MOST 1048576: true; the input reads as it did. -/
def fnExactNameOfFactsUptoRow : OpenClaim := { program := "ytjocmfnjfmlgiaadoor", sum := "007186b899d5caf48e070fce059f4a31dfbd0bd7d5d6b46e3dc3523a3cc702bd", func := "loop.example/g00943/laws.FnExactNameOfFacts", spec := "fnExactNameOfFacts", unfollowed := true, recurses := true, named := ["internal/strconv.uint64pow10", "math/bits.deBruijn32tab", "math/bits.deBruijn64tab"], apart := false, laid := [("math/bits.deBruijn32tab", laid_math_bits_deBruijn32tab), ("math/bits.deBruijn64tab", laid_math_bits_deBruijn64tab), ("internal/strconv.uint64pow10", laid_internal_strconv_uint64pow10)], narrowed := true }
def FnExactNameOfFactsUptoSaid : Prop := fnExactNameOfFactsUptoRow.holds Tryd.pinned (OpenSpec.upto fnExactNameOfFactsSpec)

/-- 'laws.FnExactSignatureOf', WHERE WHAT IT READS IS OF BULK AT MOST 1048576: true; the input reads as it did. -/
def fnExactSignatureOfUptoRow : OpenClaim := { program := "ytjocmfnjfmlgiaadoor", sum := "007186b899d5caf48e070fce059f4a31dfbd0bd7d5d6b46e3dc3523a3cc702bd", func := "loop.example/g00943/laws.FnExactSignatureOf", spec := "fnExactSignatureOf", named := ["loop.example/g00943/impl.namedGroups"], apart := false, laid := [("loop.example/g00943/impl.namedGroups", laid_loop_example_g00943_impl_namedGroups)], narrowed := true }
def FnExactSignatureOfUptoSaid : Prop := fnExactSignatureOfUptoRow.holds Tryd.pinned (OpenSpec.upto fnExactSignatureOfSpec)

/-- 'laws.FnExactPointOrder', WHERE WHAT IT READS IS OF BULK AT MOST 1048576: true; the input reads as it did. -/
def fnExactPointOrderUptoRow : OpenClaim := { program := "ytjocmfnjfmlgiaadoor", sum := "007186b899d5caf48e070fce059f4a31dfbd0bd7d5d6b46e3dc3523a3cc702bd", func := "loop.example/g00943/laws.FnExactPointOrder", spec := "fnExactPointOrder", named := ["loop.example/g00943/impl.namedGroups"], apart := false, laid := [("loop.example/g00943/impl.namedGroups", laid_loop_example_g00943_impl_namedGroups)], narrowed := true }
def FnExactPointOrderUptoSaid : Prop := fnExactPointOrderUptoRow.holds Tryd.pinned (OpenSpec.upto fnExactPointOrderSpec)

/-- 'laws.FnExactNameOfSignature', WHERE WHAT IT READS IS OF BULK AT MOST 1048576: true; the input reads as it did. -/
def fnExactNameOfSignatureUptoRow : OpenClaim := { program := "ytjocmfnjfmlgiaadoor", sum := "007186b899d5caf48e070fce059f4a31dfbd0bd7d5d6b46e3dc3523a3cc702bd", func := "loop.example/g00943/laws.FnExactNameOfSignature", spec := "fnExactNameOfSignature", named := ["loop.example/g00943/impl.namedGroups"], apart := false, laid := [("loop.example/g00943/impl.namedGroups", laid_loop_example_g00943_impl_namedGroups)], narrowed := true }
def FnExactNameOfSignatureUptoSaid : Prop := fnExactNameOfSignatureUptoRow.holds Tryd.pinned (OpenSpec.upto fnExactNameOfSignatureSpec)

/-- 'laws.FnSignatures', WHERE WHAT IT READS IS OF BULK AT MOST 1048576: true; the input reads as it did. -/
def fnSignaturesUptoRow : OpenClaim := { program := "ytjocmfnjfmlgiaadoor", sum := "007186b899d5caf48e070fce059f4a31dfbd0bd7d5d6b46e3dc3523a3cc702bd", func := "loop.example/g00943/laws.FnSignatures", spec := "fnSignatures", inPlace := ["internal/bytealg.IndexByteString"], named := ["loop.example/g00943/impl.namedGroups"], apart := false, laid := [("loop.example/g00943/impl.namedGroups", laid_loop_example_g00943_impl_namedGroups)], narrowed := true }
def FnSignaturesUptoSaid : Prop := fnSignaturesUptoRow.holds Tryd.pinned (OpenSpec.upto fnSignaturesSpec)

end Rows
end Go.Proofs.YtjocmfnjfmlgiaaDoor
