/- The engine, whole. -/
import Derived.Test.YtbbjdhmdnggnoaaEngt
