/- The engine, whole. -/
import Derived.Test.YtlhnnodfcfchnaaEngV
