/-
  A region that draws its order and ends in a written tail, inside a fence that lets all in. Condition: no operation of it is a defer statement, and what follows does not let out.
-/
import Derived.Test.YtkfdaepnjdnnmaaGreatDoorGf
import Derived.Test.YtkfdaepnjdnnmaaGreatDoorRgH
namespace Go.Proofs.YtkfdaepnjdnnmaaGreatDoor
open Go.RowKit
set_option linter.unusedSimpArgs false
set_option linter.unusedVariables false

theorem region_T_in {ro : Option Nat} {m : Nat} {P : Program} {ops : Array Oper} {Q : Exit → Act → World → Prop} (n : Nat) (S : World → Prop) {id : Nat} {a : Act} {w : World} (hm : P.follows .mixedOrders = true) (hd : noDefer ops = true) (hL : ¬ LetsOut Q) (hS : S w.drew)
    (h : S w.drew → HeadInv .any ops n (Array.replicate ops.size false) → wpAnyT P .any ops Q S n ops.size (Array.replicate ops.size false) a w.drew) : (Code.region id ops true).wpIn { Fence.wide with round := ro } m P Q a w :=
  wpIn_region_any hm (wpAny_wide hL (noDefer_spec hd) _ _ _ _ (wpAny_of_T _ _ _ _ (h hS headInv_start)))
end Go.Proofs.YtkfdaepnjdnnmaaGreatDoor
