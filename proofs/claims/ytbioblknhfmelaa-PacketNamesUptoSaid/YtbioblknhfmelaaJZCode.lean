/- ZCode (merged). -/
import Derived.Test.YtbioblknhfmelaaJZGreat
import Derived.Test.YtbioblknhfmelaaJZRows
import Derived.Test.YtbioblknhfmelaaJZC3
import Derived.Test.YtbioblknhfmelaaJZC6
import Derived.Test.YtbioblknhfmelaaJZC13

