/- The engine, whole. -/
import Derived.Test.YtojebcpjipbofaaEngL
