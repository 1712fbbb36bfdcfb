/- What Plain hands back, as a value of the model. -/
import Derived.Test.YtbnelaoeblhndaaGreatDoorParsePos
namespace Go.Proofs.YtbnelaoeblhndaaGreatDoor

/-- What Plain hands back. -/
def answerV (x : List UInt8 × Nat × Nat) : Value := .tuple #[.string ⟨x.1.toArray⟩, .int .i64 x.2.1, .int .i64 x.2.2]

end Go.Proofs.YtbnelaoeblhndaaGreatDoor
