/-
  What ratio.Sort answers at whatever length, as a contract.
-/
import Derived.Test.YtcfmacpogmkadaaSSortO
import Derived.Test.YtcfmacpogmkadaaSStab
namespace Go.Proofs.Ytcfmacpogmkadaa
open Go.Shelf Go.RowKit Go.Lib Go.Sort

set_option maxHeartbeats 1000000 in
theorem stab_any (n : Nat) (hsz : n < 1152921504606846976) : StabOK n := fun blk off cap d w hH hblk hn => by
  have hc := stable_s encF cfF swoF 15 #[] blk off cap n d w egF (cmpF blk off d.size w) ⟨oneF, hH, hblk⟩ hn hsz
  clear hH hn
  go_enter Try.func36, Try.ntmps36
  go_wp2_with fail
  refine hc.mono ?_
  rintro e w' ⟨rfl, d', P, Q, S⟩
  have HS : Aside _ := S
  clear S hc
  go_wp2
  go_end0
  exact ⟨rfl, d', P, Q, HS.out⟩
theorem sort_any (a : Option Addr) (n cap : Nat) (f : Nat → UInt64) (w : World) (hm : n < 17592186044416) (hr : Row a n f w) :
    Calls Try.prog 17 #[.slice a n cap] w fun e w' => e = .returned (.slice (some ⟨w.heap.size, 0, none⟩) n n) ∧ ∃ d, PermIn 0 n (arr n f) d ∧ SortedIn (ltOf cfF) 0 n d ∧ Holds encF w' w.heap.size 0 d ∧ w.heap.size < w'.heap.size ∧ Below w.heap.size w w' :=
  sort_of a n cap f w hm (stab_any n (by omega)) hr
end Go.Proofs.Ytcfmacpogmkadaa
