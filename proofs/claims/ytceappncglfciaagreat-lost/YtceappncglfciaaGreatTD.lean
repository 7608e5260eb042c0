import Derived.Test.YtceappncglfciaaGreatM41
import Derived.Test.YtceappncglfciaaGreatM40
set_option linter.unusedVariables false
set_option linter.unusedSimpArgs false
/-
  Lost.
-/
namespace Go.Proofs.YtceappncglfciaaGreat
theorem lost_said : Rows.LostSaid := lost_of townRep does1 does3
end Go.Proofs.YtceappncglfciaaGreat
