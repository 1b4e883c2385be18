/-
  How many conditions and sets a plan has. (For the seats of the layers above plan's: what the whole text of that name says of lengths is not needed there.)
-/
import Derived.Test.YtdppelkfcnbgbaaPMath
set_option linter.unusedSimpArgs false
namespace Go.Proofs.Ytdppelkfcnbgbaa.Pl

def cntC : Nat → Cd → Nat
  | 0, _ => 0
  | f + 1, .mk _ _ _ _ ks => 1 + (ks.map (cntC f)).sum
def cntR (r : Ru) : Nat := 1 + r.sets.length + cntC 16 r.cif + (r.unl.map (cntC 16)).sum
def cntP (p : Pn) : Nat := (p.rules.map cntR).sum
end Go.Proofs.Ytdppelkfcnbgbaa.Pl
