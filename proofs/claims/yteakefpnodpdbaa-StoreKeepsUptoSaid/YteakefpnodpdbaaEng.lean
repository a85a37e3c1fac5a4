/- The engine, whole. -/
import Derived.Test.YteakefpnodpdbaaEngv
