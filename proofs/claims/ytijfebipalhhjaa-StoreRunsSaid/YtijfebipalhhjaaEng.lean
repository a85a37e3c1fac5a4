/- The engine, whole. -/
import Derived.Test.YtijfebipalhhjaaEngh
