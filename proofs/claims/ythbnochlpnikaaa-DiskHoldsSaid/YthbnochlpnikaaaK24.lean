/- DiskHolds: for every number of sectors, every writes ahead of and behind a sync, and whatever is kept of a crash: the law answers true and leaves its arguments as they were. No condition. -/
import Derived.Test.YthbnochlpnikaaaK23
import Derived.Test.YthbnochlpnikaaaQ25
namespace Go.Proofs.Ythbnochlpnikaaa

theorem diskHolds_holds : Rows.DiskHoldsSaid := diskHolds_of diskOk
#print axioms diskHolds_holds
end Go.Proofs.Ythbnochlpnikaaa
