/- The test of one number of a set: see BitHas. -/
import Derived.Test.YtopibompapopiaaGreatDoorQMem
namespace Go.Proofs.YtopibompapopiaaGreatDoor
end Go.Proofs.YtopibompapopiaaGreatDoor
