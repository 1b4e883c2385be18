/-
  The order of floats as one of whole numbers; ratio.Cmp as a comparison that a sort may take.
-/
import Derived.Test.YtcfmacpogmkadaaFCmp
import Derived.Test.YtcfmacpogmkadaaSMath
import Derived.Test.YtcfmacpogmkadaaShelf
import Derived.WalkKit
import Derived.Deep.LoopGhost
namespace Go.Proofs.Ytcfmacpogmkadaa
open Go.Shelf Go.RowKit Go.Lib Go.Sort

/-- Where a float stands, as a whole number. -/
def keyV (b : Nat) : Int := if INF < rung b then (W63 : Int) else placeV b
theorem cmp_key (a b : Nat) : cmpV a b = cmpI (keyV a) (keyV b) := by
  have hI := INF_lt
  have pl : ∀ x, ¬ INF < rung x → placeV x < (W63 : Int) := fun x h => by unfold placeV; split <;> omega
  unfold keyV
  by_cases ha : INF < rung a
  · by_cases hb : INF < rung b
    · rw [cmp_nn (kind_nan ha) (kind_nan hb), if_pos ha, if_pos hb]; unfold cmpI; rw [if_neg (by omega), if_neg (by omega)]
    · have kb : kindV b ≠ 6 := by
        rcases kind_cases b with ⟨k, n, r⟩ | ⟨k, n, r, s⟩ | ⟨k, n, r, s⟩ | ⟨k, n, r, s⟩ | ⟨k, n, r, s⟩ | ⟨k, n, r, r', s⟩ | ⟨k, n, r, r', s⟩
        · exact absurd r hb
        all_goals rw [k]; decide
      have := pl b hb
      rw [cmp_n1 (kind_nan ha) kb, if_pos ha, if_neg hb]; unfold cmpI; rw [if_neg (by omega), if_pos (by omega)]
  · have ka : kindV a ≠ 6 := by
      rcases kind_cases a with ⟨k, n, r⟩ | ⟨k, n, r, s⟩ | ⟨k, n, r, s⟩ | ⟨k, n, r, s⟩ | ⟨k, n, r, s⟩ | ⟨k, n, r, r', s⟩ | ⟨k, n, r, r', s⟩
      · exact absurd r ha
      all_goals rw [k]; decide
    by_cases hb : INF < rung b
    · have := pl a ha
      rw [cmp_1n ka (kind_nan hb), if_neg ha, if_pos hb]; unfold cmpI; rw [if_pos (by omega)]
    · have kb : kindV b ≠ 6 := by
        rcases kind_cases b with ⟨k, n, r⟩ | ⟨k, n, r, s⟩ | ⟨k, n, r, s⟩ | ⟨k, n, r, s⟩ | ⟨k, n, r, s⟩ | ⟨k, n, r, r', s⟩ | ⟨k, n, r, r', s⟩
        · exact absurd r hb
        all_goals rw [k]; decide
      rw [cmp_11 ka kb, if_neg ha, if_neg hb]; rfl

theorem cmpI_neg (x y : Int) : cmpI x y < 0 ↔ x < y := by unfold cmpI; split; simp [*]; split <;> omega
theorem cmpI_zero (x y : Int) : cmpI x y = 0 ↔ x = y := by unfold cmpI; split; omega; split <;> omega
theorem cmpI_le (x y : Int) : cmpI x y ≤ 0 ↔ x ≤ y := by unfold cmpI; split; omega; split <;> omega
theorem cmpI_pos (x y : Int) : 0 < cmpI x y ↔ y < x := by unfold cmpI; split; omega; split <;> omega
theorem cmpI_swap (x y : Int) : cmpI x y = -cmpI y x := by unfold cmpI; split <;> split <;> (try split) <;> omega

def encF (u : UInt64) : Value := .float .f64 u.toNat
def cfF (u v : UInt64) : Int := cmpV u.toNat v.toNat
theorem lt_key (u v : UInt64) : ltOf cfF u v = decide (keyV u.toNat < keyV v.toNat) := by
  unfold ltOf cfF
  rw [cmp_key, decide_eq_decide]
  exact cmpI_neg _ _
theorem swoF : SWO (ltOf cfF) := {
  irrefl := fun x => by rw [lt_key]; simp
  trans := fun x y z h1 h2 => by rw [lt_key] at *; simp at *; omega
  ntrans := fun x y z h1 h2 => by rw [lt_key] at *; simp at *; omega }
theorem oneF : OneCell encF := fun _ => rfl
theorem egF : ∀ args w, (callFunc 15 args).run Try.prog w = .ok (.enter 15 args) w := enters_of Try.func15 (by kernel_rfl) rfl
theorem cmpF (blk off size : Nat) (w : World) : CmpLays1 Try.prog 15 #[] encF cfF blk off size w := fun m os dk _ x y => by
  have h := cmp_any x.toNat y.toNat x.toNat_lt y.toNat_lt (sortWorld encF w blk off m dk os)
  exact h.mono fun e w' ⟨h1, h2⟩ => ⟨h1, 0, #[], by rw [h2, grow_empty]; rfl⟩

end Go.Proofs.Ytcfmacpogmkadaa
