/- The engine, whole. -/
import Derived.Test.YtjknjpaabogemaaEngf
