/-
  No contract of a library function is wanted here.
-/
import Derived.Test.YtniapgcohihkhaaProg
