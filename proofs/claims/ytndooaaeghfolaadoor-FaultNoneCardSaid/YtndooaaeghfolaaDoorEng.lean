/- The engine, whole. -/
import Derived.Test.YtndooaaeghfolaaDoorEngt
