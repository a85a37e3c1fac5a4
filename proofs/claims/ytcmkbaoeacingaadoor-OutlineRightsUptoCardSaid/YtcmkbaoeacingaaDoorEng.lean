/- The engine, whole. -/
import Derived.Test.YtcmkbaoeacingaaDoorEngq
