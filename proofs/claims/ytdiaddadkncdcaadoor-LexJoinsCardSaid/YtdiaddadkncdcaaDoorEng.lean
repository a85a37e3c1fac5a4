/- The engine, whole. -/
import Derived.Test.YtdiaddadkncdcaaDoorEngt
