/-
  At this seat nothing of the shelf is laid.
-/
import Derived.Shelf.Spec.SlicesGrow
import Derived.Shelf.SlSortCmp.NoneTotal
import Derived.Test.YteiclanlhnccnaaDoorRows
namespace Go.Proofs.YteiclanlhnccnaaDoor
end Go.Proofs.YteiclanlhnccnaaDoor
