/- The engine, whole. -/
import Derived.Test.YtiaackeooiemjaaEngf
