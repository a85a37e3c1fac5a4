/- The engine, whole. -/
import Derived.Test.YtlikbfnaihccmaaEngY
