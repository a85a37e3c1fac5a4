/- The engine, whole. -/
import Derived.Test.YtdbldkkbljngeaaEnge
