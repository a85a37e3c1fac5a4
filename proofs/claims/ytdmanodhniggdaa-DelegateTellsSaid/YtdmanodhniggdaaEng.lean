/- The engine, whole. -/
import Derived.Test.YtdmanodhniggdaaEngi
