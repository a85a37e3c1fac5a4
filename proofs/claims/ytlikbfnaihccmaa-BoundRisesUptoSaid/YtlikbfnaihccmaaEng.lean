/- The engine, whole. -/
import Derived.Test.YtlikbfnaihccmaaEngZ
