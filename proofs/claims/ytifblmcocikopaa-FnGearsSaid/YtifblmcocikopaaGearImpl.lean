/- The program's functions of chapter 9, together with the model's. -/
import Derived.Test.YtifblmcocikopaaGearI4
import Derived.Test.YtifblmcocikopaaGearI5
import Derived.Test.YtifblmcocikopaaGearI6
import Derived.Test.YtifblmcocikopaaGearI7
import Derived.Test.YtifblmcocikopaaGearS8
import Derived.Test.YtifblmcocikopaaGearFew
import Derived.Test.YtifblmcocikopaaGearS7
import Derived.Test.YtifblmcocikopaaGearS6
