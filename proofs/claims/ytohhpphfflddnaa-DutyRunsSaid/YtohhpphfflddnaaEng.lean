/- The engine, whole. -/
import Derived.Test.YtohhpphfflddnaaEnga
