/- The program's bits and steps: isBits, areSent, phasesOfBits, stepsFrom, stepped. -/
import Derived.Test.YtcagiecgbjnefabMoR
namespace Go.Proofs.Ytcagiecgbjnefab
set_option maxRecDepth 100000
open Go.RowKit

end Go.Proofs.Ytcagiecgbjnefab
