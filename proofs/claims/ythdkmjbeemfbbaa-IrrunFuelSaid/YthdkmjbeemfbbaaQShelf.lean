/-
  Nothing of the library stands in this program: an empty text, for those that import it.
-/
import Derived.Test.YthdkmjbeemfbbaaProg
