/- The test of one number of a set: see BitHas. -/
import Derived.Test.YtedkkphogeealaaGreatDoorPMem
namespace Go.Proofs.YtedkkphogeealaaGreatDoor
end Go.Proofs.YtedkkphogeealaaGreatDoor
