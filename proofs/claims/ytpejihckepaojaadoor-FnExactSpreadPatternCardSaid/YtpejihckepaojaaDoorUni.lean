/-
  The program's variable unitMatrix holds the unit: what calls, allocs and draws leave of it. No condition.
-/
import Derived.Test.YtpejihckepaojaaDoorKeep2
namespace Go.Proofs.YtpejihckepaojaaDoor
open Go.RowKit

/- the program's variable unitMatrix holds the unit -/
def UnitOK (W : World) : Prop := Kq 0 1 0 0 1 W
theorem UnitOK.call {W w1 : World} (h : UnitOK W) (hb : Below W.heap.size W w1) : UnitOK w1 := Kq.call h hb
theorem UnitOK.alloc {W : World} (h : UnitOK W) (o : Obj) : UnitOK (W.alloc o) := Kq.alloc h o
theorem UnitOK.drew {W : World} (h : UnitOK W) : UnitOK W.drew := Kq.drew h
end Go.Proofs.YtpejihckepaojaaDoor
