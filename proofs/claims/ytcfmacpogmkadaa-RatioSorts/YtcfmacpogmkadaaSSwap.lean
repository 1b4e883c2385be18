/-
  What slices.swapRangeCmpFunc and slices.rotateCmpFunc leave, as contracts: from a world of the sort's to a world of the sort's.
-/
import Derived.Test.YtcfmacpogmkadaaSMath
import Derived.Test.YtcfmacpogmkadaaChecked
import Derived.Test.YtcfmacpogmkadaaShelf
import Derived.WalkKit
import Derived.Deep.LoopGhost
namespace Go.Proofs.Ytcfmacpogmkadaa
open Go.Shelf Go.RowKit Go.Lib Go.Sort
variable {α : Type} [Inhabited α]

set_option maxHeartbeats 4000000 in
set_option maxRecDepth 1000000 in
theorem swapRange_s (enc : α → Value) (g : Nat) (cb : Array Value) (blk off cap a b n : Nat) (d0 d : Array α) (w0 w : World)
    (R : Row1 enc w0 blk off d0) (hs : d0.size = d.size) (S : SW enc w0 blk off d w) (hab : a + n ≤ b) (hb : b + n ≤ d.size) (hsz : d.size < 1152921504606846976) :
    Calls Try.prog 46 #[.slice (some ⟨blk, off, none⟩) d.size cap, .int .i64 a, .int .i64 b, .int .i64 n, .func (.func g) #[] cb] w fun e w' => e = .returned (.tuple #[]) ∧ SW enc w0 blk off (swr d a b n) w' := by
  have mixed : Try.prog.follows .mixedOrders = true := by kernel_rfl
  have hcl0 := R.hO.cells
  simp only [Value.cells] at hcl0
  have hst := R.hO.store Try.prog
  have S0 : Aside (SW enc w0 blk off d w) := S
  clear S
  go_enter Try.func46, Try.ntmps46
  go_wp2
  go_loopg [10] n (fun k vi wr => ∃ i : Nat, vi = .int .i64 i ∧ i ≤ n ∧ n - i ≤ k ∧ Aside (SW enc w0 blk off (swr d a b i) wr))
  case atStart => exact ⟨0, rfl, Nat.zero_le _, by omega, S0⟩
  case round =>
    clear S0
    obtain ⟨i, rfl, hin, hk, S1⟩ := hrel
    have hsk : (swr d a b i).size = d.size := size_swr d a b i
    by_cases hlt : i < n
    · have hltz : (i : Int) < (n : Int) := by omega
      obtain ⟨dk, hdk⟩ : ∃ dk, dk = swr d a b i := ⟨_, rfl⟩
      have HD : Aside (dk = swr d a b i) := hdk
      rw [← hdk] at S1 hsk
      clear hdk
      go_wp2_with fail
      obtain ⟨iNA, hiNA⟩ : ∃ q, q = a + i := ⟨_, rfl⟩
      obtain ⟨jNA, hjNA⟩ : ∃ q, q = b + i := ⟨_, rfl⟩
      have eaA : ((a : Int) + (i : Int)).toNat = iNA := by omega
      have paA : (0 : Int) ≤ (a : Int) + (i : Int) := by omega
      have baA : (a : Int) + (i : Int) < (d.size : Int) := by omega
      have raA : IntKind.i64.wrap ((a : Int) + (i : Int)) = (a : Int) + (i : Int) := by rw [IntKind.wrap_i64]; omega
      have ecA : ((b : Int) + (i : Int)).toNat = jNA := by omega
      have pcA : (0 : Int) ≤ (b : Int) + (i : Int) := by omega
      have bcA : (b : Int) + (i : Int) < (d.size : Int) := by omega
      have rcA : IntKind.i64.wrap ((b : Int) + (i : Int)) = (b : Int) + (i : Int) := by rw [IntKind.wrap_i64]; omega
      obtain ⟨xA, hxA⟩ : ∃ x, x = (dk)[a + i]! := ⟨_, rfl⟩
      obtain ⟨yA, hyA⟩ : ∃ x, x = (dk)[b + i]! := ⟨_, rfl⟩
      have S2 : Aside (SW enc w0 blk off (swp (dk) (a + i) (b + i)) ((wr.setCell ⟨blk, off + iNA, none⟩ (enc yA)).setCell ⟨blk, off + jNA, none⟩ (enc xA)).drew) := by rw [hiNA, hjNA, hxA, hyA]; exact S1.out.swapped R (a + i) (b + i) (by omega) (by omega)
      have cAa := S1.out.c1 R (by omega) (a + i) (by omega)
      have cAb := S1.out.c1 R (by omega) (b + i) (by omega)
      have fAa := S1.out.f1 R (by omega) (a + i) (by omega)
      have fAb := S1.out.f1 R (by omega) (b + i) (by omega)
      obtain ⟨uA, cAc⟩ := S1.out.c2 R (by omega) (a + i) (b + i) (by omega) (by omega) (enc yA)
      rw [← hjNA, ← hiNA] at cAc
      rw [← hxA, ← hiNA] at cAa
      rw [← hyA, ← hjNA] at cAb
      rw [← hiNA] at fAa
      rw [← hjNA] at fAb
      clear S1 hxA hyA hiNA hjNA
      go_wp2_with fail
      go_big_region_o
      clear cAa cAb cAc fAa fAb
      generalize ((wr.setCell ⟨blk, off + iNA, none⟩ (enc yA)).setCell ⟨blk, off + jNA, none⟩ (enc xA)).drew = w2 at S2 ⊢
      clear eaA ecA
      go_wp2
      go_roundg (n - (i + 1))
      case measure => omega
      case rel => exact ⟨i + 1, by first | rfl | go_num | (congr 1; omega), by omega, by omega, by rw [HD.out] at S2; exact S2⟩
    · have hltz : ¬ (i : Int) < (n : Int) := by omega
      have hin' : i = n := by omega
      go_wp2
      go_end0
      exact ⟨rfl, by rw [← hin']; exact S1.out⟩
end Go.Proofs.Ytcfmacpogmkadaa
