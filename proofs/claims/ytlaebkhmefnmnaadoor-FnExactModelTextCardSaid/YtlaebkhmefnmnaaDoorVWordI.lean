/- Nothing more. -/
import Derived.Test.YtlaebkhmefnmnaaDoorVWord
