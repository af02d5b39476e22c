/- Nothing more. -/
import Derived.Test.YtgeaiadjmadakaaDoorVWord
