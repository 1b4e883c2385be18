/-
  The functions that know their sign: seg.cutter, seg.joiner and what they make, as contracts.
-/
import Derived.Test.YtjidoificijcfaaDoorQText
namespace Go.Proofs.YtjidoificijcfaaDoor
open Go.RowKit

theorem add_off (b o j : Nat) : (⟨b, o, none⟩ : Addr).add j = ⟨b, o + j, none⟩ := by unfold Addr.add; split <;> simp_all
theorem conv1 (W : World) (c : UInt8) : (convert 65 9 (.slice (some ⟨W.heap.size, 0, none⟩) 1 1)).run Tryd.prog (W.alloc (.cells #[.int .u8 c.toNat] 5)) = .ok (.string (mk [c])) (W.alloc (.cells #[.int .u8 c.toNat] 5)) :=
  run_convert_bytes_back (P := Tryd.prog) (W.alloc (.cells #[.int .u8 (c.toNat : Int)] 5)) 65 9 5 ⟨W.heap.size, 0, none⟩ 1 [c] Tryd.underlying65 Tryd.underlying5 Tryd.underlying9 (fun j hj => by
    have : j = 0 := by simpa using hj
    subst this
    rw [add_off, World.cell?_alloc_new]
    rfl)
abbrev markW (c : UInt8) (w : World) : World := (w.alloc (.cells #[.int .u8 c.toNat] 5)).alloc (.cells #[.string (mk [c])] 9)

set_option maxHeartbeats 800000 in
theorem cutter_any (c : UInt8) (w : World) :
    Calls Tryd.prog 53 #[.int .u8 c.toNat] w fun e w' => e = .returned (.func (.func 67) #[] #[.pointer (some ⟨w.heap.size + 1, 0, none⟩)]) ∧ w' = markW c w := by
  have hc := conv1 w c
  generalize hm : mk [c] = m at hc
  have HM := Lib.hid hm
  clear hm
  go_enter Tryd.func53, Tryd.ntmps53
  go_wp2
  go_ret
  exact ⟨rfl, by rw [← HM.out]⟩
set_option maxHeartbeats 800000 in
theorem joiner_any (c : UInt8) (w : World) :
    Calls Tryd.prog 40 #[.int .u8 c.toNat] w fun e w' => e = .returned (.func (.func 60) #[] #[.pointer (some ⟨w.heap.size + 1, 0, none⟩)]) ∧ w' = markW c w := by
  have hc := conv1 w c
  generalize hm : mk [c] = m at hc
  have HM := Lib.hid hm
  clear hm
  go_enter Tryd.func40, Tryd.ntmps40
  go_wp2
  go_ret
  exact ⟨rfl, by rw [← HM.out]⟩
set_option maxHeartbeats 800000 in
theorem cut_any (s : ByteArray) (c : UInt8) (b : Nat) (w : World) (hb : w.cell? ⟨b, 0, none⟩ = some (.string (mk [c]))) (hT : Tab w) (hs : s.size ≤ 65536) :
    Calls Tryd.prog 67 #[.string s, .pointer (some ⟨b, 0, none⟩)] w fun e w' => ∃ v, e = .returned v ∧ TxAt (fun b => w.heap.size ≤ b) w' v (splitC c s.data.toList) ∧ Below w.heap.size w w' := by
  have h := strings_split s c w hT hs
  have HH := Lib.hid h
  clear h
  generalize hm : mk [c] = m at hb HH
  go_enter Tryd.func67, Tryd.ntmps67
  go_wp2_with (go_at_call 68; refine HH.out.mono ?_; rintro e w' ⟨v, rfl, h1, h2⟩; have H1 := Lib.hid h1; have H2 := Lib.hid h2; clear h1 h2)
  go_ret
  exact ⟨v, rfl, H1.out, H2.out⟩
set_option maxHeartbeats 800000 in
theorem join_any (v : Value) (xs : List Tx) (c : UInt8) (b : Nat) (w : World) (h : TxAt All w v xs) (hb : w.cell? ⟨b, 0, none⟩ = some (.string (mk [c]))) (hl : (joinC c xs).length ≤ 1000000) :
    Calls Tryd.prog 60 #[v, .pointer (some ⟨b, 0, none⟩)] w fun e w' => e = .returned (.string (mk (joinC c xs))) ∧ Below w.heap.size w w' := by
  have h := strings_join v xs c w h hl
  have HH := Lib.hid h
  clear h
  generalize hm : mk [c] = m at hb HH
  generalize mk (joinC c xs) = r at HH
  go_enter Tryd.func60, Tryd.ntmps60
  go_wp2_with (go_at_call 61; refine HH.out.mono ?_; rintro e w' ⟨rfl, h2⟩; have H2 := Lib.hid h2; clear h2)
  go_ret
  exact ⟨rfl, H2.out⟩
end Go.Proofs.YtjidoificijcfaaDoor
