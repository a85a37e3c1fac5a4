/- The engine, whole. -/
import Derived.Test.YtlikbfnaihccmaaEngX
