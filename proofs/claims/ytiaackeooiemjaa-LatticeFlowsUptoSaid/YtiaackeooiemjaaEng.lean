/- The engine, whole. -/
import Derived.Test.YtiaackeooiemjaaEngd
