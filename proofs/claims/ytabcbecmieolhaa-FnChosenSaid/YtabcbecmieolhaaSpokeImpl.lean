/- The program's side of chapter 5, whole. -/
import Derived.Test.YtabcbecmieolhaaSpoke4
import Derived.Test.YtabcbecmieolhaaSpoke5
import Derived.Test.YtabcbecmieolhaaSpB
import Derived.Test.YtabcbecmieolhaaSpL
