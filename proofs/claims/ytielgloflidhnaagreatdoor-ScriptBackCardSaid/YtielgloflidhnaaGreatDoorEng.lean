/- The engine, whole. -/
import Derived.Test.YtielgloflidhnaaGreatDoorEngu
