import Derived.Test.YtceappncglfciaaGreatM41
import Derived.Test.YtceappncglfciaaGreatM40
set_option linter.unusedVariables false
set_option linter.unusedSimpArgs false
/-
  Stays.
-/
namespace Go.Proofs.YtceappncglfciaaGreat
theorem stays_said : Rows.StaysSaid := stays_of townRep does
end Go.Proofs.YtceappncglfciaaGreat
