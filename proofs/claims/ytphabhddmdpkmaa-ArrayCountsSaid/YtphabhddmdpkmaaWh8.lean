/-
  Package whole: Floor, by contract: signs alike.
-/
import Derived.Test.YtphabhddmdpkmaaK7
namespace Go.Proofs.Ytphabhddmdpkmaa
open Go.RowKit
attribute [local go_sem ↓] Go.wp_at_zero Go.wp_at_succ

end Go.Proofs.Ytphabhddmdpkmaa
