/- The test of one number of a set: see BitHas. -/
import Derived.Test.YtnoejapnjhogaaaGreatDoorQMem
namespace Go.Proofs.YtnoejapnjhogaaaGreatDoor
end Go.Proofs.YtnoejapnjhogaaaGreatDoor
