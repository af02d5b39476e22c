/- Premises in laws that hand something back: copies, marks. -/
import Derived.Test.YtmblgkpgfofceaaPrXM
import Derived.Test.YtmblgkpgfofceaaPrXT
import Derived.Test.YtmblgkpgfofceaaPrXD
