/- The engine, whole. -/
import Derived.Test.YtdocdjknennfjaaEngl
