/- What the frames of laws over plain arguments ask of the program: closed facts. -/
import Derived.Test.YtdklikicngmkbaaGreatDoorRows
import Derived.ProofKit
import Derived.OpenShut
import Derived.ShutString
import Derived.ChangeOld
import Derived.Below
import Derived.Lib.SmallJoins
namespace Go.Proofs.YtdklikicngmkbaaGreatDoor

theorem Tryz.own : ownKnob Tryz.prog.godebug = none := by kernel_rfl
theorem Tryz.laidOut : laidOutB Tryz.prog = true := by kernel_rfl

end Go.Proofs.YtdklikicngmkbaaGreatDoor
