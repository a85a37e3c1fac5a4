/- The engine, whole. -/
import Derived.Test.YtlikbfnaihccmaaEnga
