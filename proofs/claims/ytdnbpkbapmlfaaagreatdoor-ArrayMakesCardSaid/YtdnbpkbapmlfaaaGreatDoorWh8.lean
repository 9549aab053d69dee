/-
  Package whole: Floor, by contract: signs alike.
-/
import Derived.Test.YtdnbpkbapmlfaaaGreatDoorK7
namespace Go.Proofs.YtdnbpkbapmlfaaaGreatDoor
open Go.RowKit
attribute [local go_sem ↓] Go.wp_at_zero Go.wp_at_succ

end Go.Proofs.YtdnbpkbapmlfaaaGreatDoor
