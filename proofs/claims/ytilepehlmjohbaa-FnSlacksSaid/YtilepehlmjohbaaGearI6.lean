/- The program: the nearest gear. -/
import Derived.Test.YtilepehlmjohbaaGearI4
import Derived.Test.YtilepehlmjohbaaPlainGear4
import Derived.Test.YtilepehlmjohbaaMgSlacks1
namespace Go.Proofs.Ytilepehlmjohbaa
open Go.RowKit
section
end
set_option linter.unusedSimpArgs false
set_option linter.unusedVariables false

end Go.Proofs.Ytilepehlmjohbaa
