/- The engine, whole. -/
import Derived.Test.YtlhnnodfcfchnaaEngQ
