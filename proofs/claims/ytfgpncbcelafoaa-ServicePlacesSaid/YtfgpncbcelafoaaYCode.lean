/- Package service: its functions' contracts, all of them. -/
import Derived.Test.YtfgpncbcelafoaaYC2
import Derived.Test.YtfgpncbcelafoaaYC5
import Derived.Test.YtfgpncbcelafoaaYC6
import Derived.Test.YtfgpncbcelafoaaYC7
import Derived.Test.YtfgpncbcelafoaaYRef3
import Derived.Test.YtfgpncbcelafoaaYMem
import Derived.Test.YtfgpncbcelafoaaERef6
