/- The test of one number of a set: see BitHas. -/
import Derived.Test.YtofcdecpipgmjaaGreatDoorRMem
namespace Go.Proofs.YtofcdecpipgmjaaGreatDoor
end Go.Proofs.YtofcdecpipgmjaaGreatDoor
