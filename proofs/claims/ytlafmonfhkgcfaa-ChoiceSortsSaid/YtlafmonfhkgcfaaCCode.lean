/- Package choice: its contracts at hand. -/
import Derived.Test.YtlafmonfhkgcfaaCC5
