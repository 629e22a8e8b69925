/- Attributes: the three sentences of package attr, proved of the landed code. -/
import Derived.Test.YtdafekhmjddkbabDoorA17
import Derived.Test.YtdafekhmjddkbabDoorA18
