/- The engine, whole. -/
import Derived.Test.YtflmlkdnhphpbaaEnga
