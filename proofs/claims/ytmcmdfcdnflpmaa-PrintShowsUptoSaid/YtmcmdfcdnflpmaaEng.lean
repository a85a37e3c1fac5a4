/- The engine, whole. -/
import Derived.Test.YtmcmdfcdnflpmaaEngo
