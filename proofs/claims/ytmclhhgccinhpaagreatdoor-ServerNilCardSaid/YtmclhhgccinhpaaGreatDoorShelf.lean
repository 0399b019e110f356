/- No contract of the library is called. -/
import Derived.Test.YtmclhhgccinhpaaGreatDoorProg
