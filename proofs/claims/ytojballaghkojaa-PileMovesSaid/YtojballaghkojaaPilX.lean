/- What the walks of layer 7's laws stand on. -/
import Derived.Test.YtojballaghkojaaPilK
import Derived.Test.YtojballaghkojaaPilL
