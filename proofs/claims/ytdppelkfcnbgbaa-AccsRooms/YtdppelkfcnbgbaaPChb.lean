/-
  (Nothing more: what the reference's Check of a rule leans on lies in PChc, in short. For the seats of the layers above plan's.)
-/
import Derived.Test.YtdppelkfcnbgbaaPChc
