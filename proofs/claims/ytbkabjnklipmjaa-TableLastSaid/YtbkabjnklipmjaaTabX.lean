/- What the walks of layer 6's laws stand on. -/
import Derived.Test.YtbkabjnklipmjaaTabK
import Derived.Test.YtbkabjnklipmjaaTabQ
import Derived.Test.YtbkabjnklipmjaaTabS
import Derived.Test.YtbkabjnklipmjaaTabL
