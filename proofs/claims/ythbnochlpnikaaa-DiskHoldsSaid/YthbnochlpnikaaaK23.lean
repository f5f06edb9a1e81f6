/- The disk of package disk answers as the document's. -/
import Derived.Test.YthbnochlpnikaaaK22
import Derived.Test.YthbnochlpnikaaaQ13
namespace Go.Proofs.Ythbnochlpnikaaa
open Go.RowKit Go.Shelf

theorem diskOk : DiskOk RepD where
  low := repD_low
  keep := repD_keep
  new := dnew_any
  write := fun w d s F k p l cap h hW hF _ hin => dwrite_any k p l cap h hW hF hin
  sync := fun w d s F h hW hF => dsync_any h hW hF
  stop := fun w d s F n h hW hn => dstop_any n h hW hn
  crash := fun w d s F tear p keep cap h hW hF hk hin => dcrash_any tear p keep cap h hW hF (by omega) hin.at'
  read := fun w d s F k h hW _ => dread_any k h hW
  copy := fun w d s F h hW hF => dcopy_any h hW hF
end Go.Proofs.Ythbnochlpnikaaa
