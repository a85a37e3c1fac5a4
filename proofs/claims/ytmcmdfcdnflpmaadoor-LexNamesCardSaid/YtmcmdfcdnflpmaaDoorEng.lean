/- The engine, whole. -/
import Derived.Test.YtmcmdfcdnflpmaaDoorEngt
