/-
  Package whole: Floor, by contract: signs alike.
-/
import Derived.Test.YtphabhddmdpkmaaGreatDoorK7
namespace Go.Proofs.YtphabhddmdpkmaaGreatDoor
open Go.RowKit
attribute [local go_sem ↓] Go.wp_at_zero Go.wp_at_succ

end Go.Proofs.YtphabhddmdpkmaaGreatDoor
