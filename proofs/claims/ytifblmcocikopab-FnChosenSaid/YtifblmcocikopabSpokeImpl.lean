/- The program's side of chapter 5, whole. -/
import Derived.Test.YtifblmcocikopabSpoke4
import Derived.Test.YtifblmcocikopabSpoke5
import Derived.Test.YtifblmcocikopabSpB
import Derived.Test.YtifblmcocikopabSpL
