/- Contract of laws.heldInt64S: it stands in MarkW. -/
import Derived.Test.YtmblgkpgfofceaaMarkW
