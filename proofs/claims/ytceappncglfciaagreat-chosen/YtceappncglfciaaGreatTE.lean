import Derived.Test.YtceappncglfciaaGreatM41
import Derived.Test.YtceappncglfciaaGreatM40
import Derived.Test.YtceappncglfciaaGreatM14
set_option linter.unusedVariables false
set_option linter.unusedSimpArgs false
/-
  Chosen.
-/
namespace Go.Proofs.YtceappncglfciaaGreat
theorem chosen_said : Rows.ChosenSaid := chosen_of townRep does1 does3 (fun d w hl hb => newest_L d hb hl w)
end Go.Proofs.YtceappncglfciaaGreat
