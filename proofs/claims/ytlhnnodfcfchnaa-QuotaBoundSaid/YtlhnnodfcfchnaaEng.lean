/- The engine, whole. -/
import Derived.Test.YtlhnnodfcfchnaaEngR
