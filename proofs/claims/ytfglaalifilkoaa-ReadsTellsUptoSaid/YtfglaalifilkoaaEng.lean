/- The engine, whole. -/
import Derived.Test.YtfglaalifilkoaaEngj
