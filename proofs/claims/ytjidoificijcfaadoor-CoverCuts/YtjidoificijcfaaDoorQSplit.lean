/-
  What seg.Split answers, as a contract: for every text and whatever signs.
-/
import Derived.Test.YtjidoificijcfaaDoorQRead
set_option linter.unusedSimpArgs false
namespace Go.Proofs.YtjidoificijcfaaDoor
open Go.RowKit
attribute [local go_sem ↓] Go.wp_at_zero Go.wp_at_succ

theorem spE_arg {e p s : UInt8} {l : Tx} (h : goodB e p s = false) : spE e p s l = 1 := by simp [spE, h]
theorem spE_long {e p s : UInt8} {l : Tx} (h : goodB e p s = true) (h2 : 65536 < l.length) : spE e p s l = 10 := by simp [spE, h, h2]
theorem spE_none {e p s : UInt8} (h : goodB e p s = true) : spE e p s [] = 0 ∧ spV e p s [] = [] := by
  have : spE e p s [] = 0 := by simp [spE, h]
  exact ⟨this, by simp [spV, this, ini_nil]⟩
theorem spE_end {e p s : UInt8} {l : Tx} (h : goodB e p s = true) (h2 : l.length ≤ 65536) (h3 : l ≠ []) (h4 : l.getLast? ≠ some s) : spE e p s l = 4 := by
  unfold spE
  rw [h]
  simp only [Bool.true_eq_false, if_false, if_neg (show ¬ 65536 < l.length by omega), if_neg h3, if_pos h4]
theorem spE_go {e p s : UInt8} {l : Tx} (h : goodB e p s = true) (h2 : l.length ≤ 65536) (h3 : l ≠ []) (h4 : l.getLast? = some s) : spE e p s l = rdE e p 0 (ini s l) ∧ spV e p s l = rdV e p (ini s l) := by
  have : spE e p s l = rdE e p 0 (ini s l) := by
    unfold spE
    rw [h]
    simp only [Bool.true_eq_false, if_false, if_neg (show ¬ 65536 < l.length by omega), if_neg h3]
    rw [if_neg (by simp [h4])]
  exact ⟨this, by unfold spV rdV; rw [this]⟩
theorem last_at (t : ByteArray) (n : Nat) (hlt : n < t.size) (h : t.size = n + 1) : t.data.toList.getLast? = some (t[n]'hlt) := by
  have hl : t.data.toList.length = n + 1 := by rw [← Lib.size_eq]; exact h
  rw [List.getLast?_eq_getElem?, hl, Nat.add_sub_cancel, List.getElem?_eq_getElem (by omega)]
  rfl
theorem init_at (t : ByteArray) (n : Nat) (hlt : n < t.size) (h : t.size = n + 1) (s : UInt8) (hs : t[n]'hlt = s) : splitC s (t.extract 0 n).data.toList = ini s t.data.toList := by
  obtain ⟨a, e1, e2⟩ := ini_last s t.data.toList (by rw [last_at t n hlt h, hs])
  rw [e2, Lib.extract_data, List.drop_zero, Nat.sub_zero, e1]
  have hl : t.data.toList.length = n + 1 := by rw [← Lib.size_eq]; exact h
  rw [e1, List.length_append] at hl
  simp only [List.length_singleton] at hl
  rw [List.take_append_of_le_length (by omega), List.take_of_length_le (by omega)]

set_option maxHeartbeats 1000000 in
theorem split_any (e p s : UInt8) (t : ByteArray) (w : World) (hT : Tab w) (hs : t.size ≤ maxLen) :
    Calls Tryd.prog 32 #[dv e p s, .string t] w fun x w' => (∃ u, x = .returned (.tuple #[u, .int .i64 (spE e p s t.data.toList)]) ∧ SgAt All w' u (spV e p s t.data.toList)) ∧ Below w.heap.size w w' := by
  unfold maxLen at hs
  have HTb := Lib.hid hT
  have HGD := Lib.hid (good_any e p s)
  have HL : Hid (t.data.toList.length = t.size) := (Lib.size_eq t).symm
  clear hT
  cases hg : goodB e p s
  · rw [hg] at HGD
    have HE := Lib.hid (spE_arg (l := t.data.toList) hg)
    have HVv := Lib.hid (sp_bad (l := t.data.toList) (by rw [spE_arg hg]; decide))
    clear hg
    go_enter Tryd.func32, Tryd.ntmps32
    go_wp2_with (go_at_call 20; refine (HGD.out _).mono ?_; rintro x w1 ⟨rfl, hb⟩; have HB1 := Lib.hid (below_trans (below_alloc w _) hb); clear hb)
    go_ret2
    exact ⟨⟨_, by rw [HE.out]; rfl, by rw [HVv.out]; exact SgAt.nil _ _⟩, HB1.out⟩
  rw [hg] at HGD
  have HG := Lib.hid hg
  clear hg
  by_cases hl : 65536 < t.size
  · have hl' : (65536 : Int) < (t.size : Int) := by omega
    have hE := spE_long (l := t.data.toList) HG.out (by rw [HL.out]; exact hl)
    have HE := Lib.hid hE
    have HVv := Lib.hid (sp_bad (l := t.data.toList) (by rw [hE]; decide))
    clear hl hE
    go_enter Tryd.func32, Tryd.ntmps32
    go_wp2_with (go_at_call 20; refine (HGD.out _).mono ?_; rintro x w1 ⟨rfl, hb⟩; have HB1 := Lib.hid (below_trans (below_alloc w _) hb); clear hb)
    go_ret2
    exact ⟨⟨_, by rw [HE.out]; rfl, by rw [HVv.out]; exact SgAt.nil _ _⟩, HB1.out⟩
  have hl' : ¬ (65536 : Int) < (t.size : Int) := by omega
  have HTL : Hid (t.toList = t.data.toList) := Lib.toList_data t
  by_cases h0 : t.size = 0
  · have hn : t.data.toList = [] := List.length_eq_zero_iff.1 (by rw [HL.out]; exact h0)
    have ht : t.toList = [] := by rw [HTL.out]; exact hn
    have HN := Lib.hid hn
    have hemp : t.toList.isEmpty = true := by rw [ht]; rfl
    clear hn h0 hl
    go_enter Tryd.func32, Tryd.ntmps32
    go_wp2_with (go_at_call 20; refine (HGD.out _).mono ?_; rintro x w1 ⟨rfl, hb⟩; have HB1 := Lib.hid (below_trans (below_alloc w _) hb); clear hb)
    go_ret2
    exact ⟨⟨_, by rw [HN.out, (spE_none HG.out).1]; rfl, by rw [HN.out, (spE_none HG.out).2]; exact SgAt.nil _ _⟩, HB1.out⟩
  obtain ⟨n, hn⟩ : ∃ n, t.size = n + 1 := ⟨t.size - 1, by omega⟩
  have hne : t.data.toList ≠ [] := fun e => h0 (by rw [← HL.out, e]; rfl)
  have ht : ¬ t.toList = [] := by rw [HTL.out]; exact hne
  have hemp : t.toList.isEmpty = false := by cases e : t.toList with
    | nil => exact absurd e ht
    | cons a b => rfl
  have HNE := Lib.hid hne
  have hlt : n < t.size := by omega
  have HLA := Lib.hid (last_at t n hlt hn)
  have hst : Hid (∀ o w1, Below (w.alloc o).heap.size (w.alloc o) w1 → Below w.heap.size w w1) := fun o w1 h => below_trans (below_alloc w o) h
  have h65 : n ≤ 65535 := by omega
  have hn1 : (t.size : Int) - 1 = (n : Int) := by omega
  have HNn := Lib.hid hn
  clear hne h0 hl
  cases hq : (t[n] == s)
  · have hb : ((t[n].toNat : Int) != (s.toNat : Int)) = true := by rw [u8_ne, bne, hq]; rfl
    have HE := Lib.hid (spE_end HG.out (l := t.data.toList) (by rw [HL.out]; omega) HNE.out (by rw [HLA.out]; intro e; have e2 := Option.some.inj e; rw [e2] at hq; simp at hq))
    have HVv := Lib.hid (sp_bad (l := t.data.toList) (by rw [HE.out]; decide))
    clear hq hn
    go_enter Tryd.func32, Tryd.ntmps32
    go_wp2_with (go_at_call 20; refine (HGD.out _).mono ?_; rintro x w1 ⟨rfl, hb⟩; have HB1 := Lib.hid (below_trans (below_alloc w _) hb); obtain ⟨-, d0, d1, d2⟩ := DBox.grw (DBox.new w e p s) hb; clear hb)
    go_quiet (fail)
    go_wp2
    go_ret2
    exact ⟨⟨_, by rw [HE.out]; rfl, by rw [HVv.out]; exact SgAt.nil _ _⟩, below_drewN HB1.out _⟩
  have hs0 : t[n] = s := by simpa using hq
  have hb : ((t[n].toNat : Int) != (s.toNat : Int)) = false := by rw [u8_ne, bne, hq]; rfl
  obtain ⟨g1, g2⟩ := spE_go HG.out (l := t.data.toList) (by rw [HL.out]; omega) HNE.out (by rw [HLA.out, hs0])
  have HI := Lib.hid (init_at t n hlt hn s hs0)
  have HG1 := Lib.hid g1
  have HG2 := Lib.hid g2
  have hxs : (t.extract 0 n).size = n := by rw [ByteArray.size_extract]; omega
  have hxl : (t.extract 0 n).data.toList.length = n := by rw [← Lib.size_eq]; exact hxs
  have hts1 := split_len s (t.extract 0 n).data.toList
  have hts2 := split_each s (t.extract 0 n).data.toList
  rw [HI.out] at hts1 hts2
  rw [hxl] at hts1 hts2
  have HC := Lib.hid fun W m hm hT => cut_any (t.extract 0 n) s m W hm hT (by rw [hxs]; omega)
  rw [HI.out] at HC
  have HR := Lib.hid fun W v hv hT => read_any e p s v (ini s t.data.toList) W hv hT (by omega) (fun x hx => Nat.le_trans (hts2 x hx) (by omega))
  clear hq hs0 g1 g2 hxs hxl hts1 hts2 hn
  have hi1 : (n : Int) ≤ (t.size : Int) := by omega
  have hi2 : (0 : Int) ≤ (n : Int) := by omega
  rw [HG1.out, HG2.out]
  generalize ini s t.data.toList = ts at *
  go_enter Tryd.func32, Tryd.ntmps32
  go_wp2_with (go_at_call 20; refine (HGD.out _).mono ?_; rintro x w1 ⟨rfl, hb⟩; have HB1 := Lib.hid (below_trans (below_alloc w _) hb); have HD := Lib.hid (DBox.grw (DBox.new w e p s) hb); obtain ⟨-, d0, d1, d2⟩ := HD.out; clear hb)
  go_quiet (fail)
  go_wp2_with fail
  have HBX : Hid (Below w.heap.size w (markW s (w1.drewN nq).drew)) := below_trans (below_drewN HB1.out nq).drew (below_mark s _)
  have HC1 := Lib.hid (HC.out (markW s (w1.drewN nq).drew) (w1.heap.size + 1) (Mark.new (w1.drewN nq).drew s).2 (tab_grw HTb.out HBX.out))
  have HDX : Hid (∀ W, Below (markW s (w1.drewN nq).drew).heap.size (markW s (w1.drewN nq).drew) W → DBox W w.heap.size e p s ∧ Below w.heap.size w W ∧ Tab W) := fun W hW => by
    have h1 : DBox (w1.drewN nq).drew w.heap.size e p s := HD.out
    exact ⟨DBox.grw (DBox.grw h1 (below_mark s _)) hW, below_trans HBX.out hW, tab_grw (tab_grw HTb.out HBX.out) hW⟩
  clear HC
  go_region_held3 (fun w' => w'.cell? ⟨w.heap.size, 0, none⟩ = some (.int .u8 e.toNat) ∧ w'.cell? ⟨w.heap.size, 1, none⟩ = some (.int .u8 p.toNat) ∧ w'.cell? ⟨w.heap.size, 2, none⟩ = some (.int .u8 s.toNat)) (go_keep) (first | (go_at_call 53; refine (cutter_any _ _).mono ?_; rintro x w' ⟨rfl, rfl⟩) | (go_at_call 67; refine HC1.out.mono ?_; rintro x w2 ⟨v2, rfl, ht2, hb2⟩; have HX2 := Lib.hid ht2; have HB2 := Lib.hid hb2; obtain ⟨⟨-, d02, d12, d22⟩, -, -⟩ := HDX.out _ hb2; clear hb2 ht2) | (go_at_call 52; refine (HR.out _ _ (TxAt.move HX2.out (moves_weak _ fun _ _ _ => trivial)) (HDX.out _ HB2.out).2.2).mono ?_; rintro x w3 ⟨⟨u, rfl, hsg⟩, hb3⟩; have HSG := Lib.hid hsg; obtain ⟨⟨-, d03, d13, d23⟩, -, -⟩ := HDX.out _ (below_trans HB2.out hb3); have HB3 := Lib.hid (below_trans (HDX.out _ HB2.out).2.1 hb3); clear hsg hb3))
  all_goals
    go_wp2
    go_ret2
    exact ⟨⟨u, rfl, HSG.out⟩, HB3.out⟩
end Go.Proofs.YtjidoificijcfaaDoor
