/- The engine, whole. -/
import Derived.Test.YtajpnfpokgennaaEngv
