/- The engine, whole. -/
import Derived.Test.YtdbldkkbljngeaaEngc
