/-
  Contracts of functions of Go's own library at this translation: none is wanted here.
-/
import Derived.Test.YtgpcfncolhmgfaaProg
namespace Go.Proofs
end Go.Proofs
