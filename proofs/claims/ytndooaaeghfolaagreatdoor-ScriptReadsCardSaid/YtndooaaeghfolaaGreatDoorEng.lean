/- The engine, whole. -/
import Derived.Test.YtndooaaeghfolaaGreatDoorEngu
