/-
  Package whole: Floor, by contract: signs apart, nothing left.
-/
import Derived.Test.YtgpcfncolhmgfaaGreatDoorK7
namespace Go.Proofs.YtgpcfncolhmgfaaGreatDoor
open Go.RowKit
attribute [local go_sem ↓] Go.wp_at_zero Go.wp_at_succ

end Go.Proofs.YtgpcfncolhmgfaaGreatDoor
