/-
  Texts put together (merge.py): XRPrint.
-/
import Derived.Test.YtgloihilnbjmeaaDoorMc38
import Derived.Test.YtgloihilnbjmeaaDoorMc46
import Derived.Test.YtgloihilnbjmeaaDoorMc47
import Derived.Test.YtgloihilnbjmeaaDoorMc34
/-
  A table as a text, as the reference says: Print, as a contract. (Written by gen_rprint.py.)
-/
section
set_option linter.unusedSimpArgs false
set_option linter.unusedVariables false
set_option maxRecDepth 100000
namespace Go.Proofs.YtgloihilnbjmeaaDoor.Ex
open Go.RowKit
open Wo (Wd WdsAt box_cell box_two keepB heap_far below_alloc below_trans mk_cat)

/-- Words, a blank ahead of each. -/
def bl (l : List Tx) : Tx := l.flatMap fun t => 32 :: t
theorem bl_nil : bl [] = [] := rfl
theorem bl_cons (t : Tx) (l : List Tx) : bl (t :: l) = 32 :: (t ++ bl l) := rfl
theorem bl_app (a b : List Tx) : bl (a ++ b) = bl a ++ bl b := by simp [bl]
theorem join_bl : ∀ (l : List Tx) (t : Tx), joinC 32 (t :: l) = t ++ bl l
  | [], t => by rw [joinC_one, bl_nil, List.append_nil]
  | x :: r, t => by rw [joinC_cons, join_bl r x, bl_cons]
theorem bl_join (l : List Tx) (h : l ≠ []) : bl l = 32 :: joinC 32 l := by
  cases l with
  | nil => exact absurd rfl h
  | cons t r => rw [join_bl, bl_cons]
theorem join_app2 (a b : List Tx) (ha : a ≠ []) (hb : b ≠ []) : joinC 32 (a ++ b) = joinC 32 a ++ 32 :: joinC 32 b := by
  cases a with
  | nil => exact absurd rfl ha
  | cons t r => rw [List.cons_append, join_bl, bl_app, bl_join b hb, join_bl, List.append_assoc]
theorem sz_mem : ∀ (l : List Tx) (t : Tx), t ∈ l → t.length ≤ Pl.szW l
  | [], t, h => by cases h
  | x :: r, t, h => by
    rw [Pl.sz_cons]
    rcases List.mem_cons.1 h with rfl | h
    · omega
    · have := sz_mem r t h; omega
theorem jn_uni (a t : Tx) : joinC 32 [tUni, a, t] = [117, 110, 105, 116, 115, 32] ++ (a ++ ([32] ++ t)) := by
  rw [join_bl]
  simp [Ex.bl, tUni]
theorem jn_eit (a b : Tx) : joinC 32 [tEit, a, b] = [101, 105, 116, 104, 101, 114, 32] ++ (a ++ ([32] ++ b)) := by
  rw [join_bl]
  simp [Ex.bl, tEit]
theorem jn_bun (a b t : Tx) : joinC 32 [tBun, a, b, t] = [98, 117, 110, 100, 108, 101, 32] ++ (a ++ ([32] ++ (b ++ ([32] ++ t)))) := by
  rw [join_bl]
  simp [Ex.bl, tBun]
theorem prT_step (l : List Ed) (n : Nat) (h : n < l.length) : prT (l.take (n + 1)) = (if n = 0 then prT (l.take n) else prT (l.take n) ++ [32]) ++ joinC 32 (edW l[n]) := by
  unfold prT
  rw [tab_take l n h]
  split
  · next h0 =>
    subst h0
    have e : tabW (l.take 0) = [] := rfl
    rw [e, List.nil_append]
    rfl
  · next h0 =>
    have hne : tabW (l.take n) ≠ [] := fun e => by
      cases hl : l.take n with
      | nil => have := congrArg List.length hl; rw [List.length_take, List.length_nil] at this; omega
      | cons x r =>
        rw [hl] at e
        simp only [tabW, List.flatMap_cons] at e
        exact edW_ne _ (List.append_eq_nil_iff.1 e).1
    rw [join_app2 _ _ hne (edW_ne _)]
    simp
theorem cat5 (a b c d e : Tx) : mk a ++ mk b ++ mk c ++ mk d ++ mk e = mk (a ++ (b ++ (c ++ (d ++ e)))) := by
  simp only [mk_cat, List.append_assoc]
theorem cat6 (a b c d e f : Tx) : mk a ++ mk b ++ mk c ++ mk d ++ mk e ++ mk f = mk (a ++ (b ++ (c ++ (d ++ (e ++ f))))) := by
  simp only [mk_cat, List.append_assoc]
theorem pr_sz (l : List Ed) (n : Nat) (h : ∀ f ∈ l, oneE f = 0) (h5 : l.length ≤ 256) : (prT (l.take n)).length ≤ 25600 := by
  have h1 := tab_size (l.take n) (fun f hf => h f (List.mem_of_mem_take hf))
  have h2 := Pl.join_size (tabW (l.take n))
  have h3 : (l.take n).length ≤ 256 := by rw [List.length_take]; omega
  unfold prT
  omega
set_option maxHeartbeats 16000000 in
theorem rprint_any (l : List Ed) (v : Value) (w : World) (h : EdsAt All w v l) (hok : ∀ f ∈ l, EdOk f) (hl : l.length ≤ 281474976710656) :
    Calls Tryd.prog 12 #[v] w fun e w' => e = .returned (.tuple #[.string (mk (prV l)), .int .i64 (checkE l)]) ∧ Below w.heap.size w w' := by
  have HCk := Lib.hid (rcheck_any l v w h hok hl)
  have HF := Lib.hid h
  obtain ⟨fa, fk, rfl, hm1, hm2⟩ := h.form
  clear h hok
  by_cases hce : checkE l = 0
  rotate_left
  · have HV : Hid (prV l = []) := by show _ = _; unfold prV; rw [if_neg hce]
    rw [HV.out]
    obtain ⟨ce, HCE⟩ : ∃ z, Hid (checkE l = z) := ⟨_, rfl⟩
    rw [HCE.out] at HCk hce ⊢
    have q1 : (ce != 0) = true := by simpa using hce
    clear hce
    go_enter Tryd.func12, Tryd.ntmps12
    go_wp2_with fail
    go_at_call 14
    refine HCk.out.mono ?_
    rintro e w1 ⟨rfl, hb1⟩
    have HB1 := Lib.hid hb1
    clear hb1
    go_wp2
    go_ret2
    exact ⟨rfl, HB1.out⟩
  obtain ⟨hc1, hc2⟩ := check_facts hce
  have HV : Hid (prV l = prT l) := by show _ = _; unfold prV; rw [if_pos hce]
  have HO1 := Lib.hid hc2
  have HSZ := Lib.hid fun n => pr_sz l n hc2 hc1
  rw [hce] at HCk ⊢
  rw [HV.out]
  clear hce hc2
  go_enter Tryd.func12, Tryd.ntmps12
  go_wp2_with fail
  go_at_call 14
  refine HCk.out.mono ?_
  rintro e w1 ⟨rfl, hb1⟩
  have HB1 := Lib.hid hb1
  clear hb1 HCk
  generalize hp : w.heap.size = p at *
  go_wp2
  go_loopg [5, 6] (l.length) (fun g s5 i wr => ∃ (n : Nat) (S : ByteArray), n ≤ l.length ∧ g = l.length - n ∧ s5 = .string S ∧ i = .int .i64 (n : Nat) ∧ S.size ≤ 25600 ∧ Hid (S = mk (prT (l.take n))) ∧ Hid (Below p w wr))
  case atStart => exact ⟨0, _, Nat.zero_le _, rfl, rfl, rfl, by first | decide | exact Nat.zero_le _, rfl, HB1.out⟩
  case round =>
    obtain ⟨n, S, hn, hgk, rfl, rfl, zS, HS, HBn⟩ := hrel
    by_cases hlt : n < l.length
    rotate_left
    · have hltz : ¬ (n : Int) < (l.length : Int) := by omega
      have HE : Hid (S = mk (prT l)) := by show _ = _; rw [HS.out, List.take_of_length_le (by omega)]
      clear HS
      go_wp2
      go_ret2
      exact ⟨by rw [← HE.out] <;> rfl, by first | exact HBn.out | (rw [hp]; exact HBn.out)⟩
    have hB' : Below w.heap.size w wr := by subst hp; exact HBn.out
    have hltz : (n : Int) < (l.length : Int) := by omega
    obtain ⟨bb, oo, rfl, hbs, -, hcc⟩ := EdsAt.get (HF.out.grw hB') n hlt
    have HSt := Lib.hid (prT_step l n hlt)
    have h1 := HO1.out l[n] (List.getElem_mem hlt)
    generalize l[n] = x at *
    obtain ⟨S1, hS1⟩ : ∃ z : ByteArray, z = if n = 0 then S else S ++ ⟨#[32]⟩ := ⟨_, rfl⟩
    have zS1 : S1.size ≤ 25601 := by rw [hS1]; split; (· omega); rw [ByteArray.size_append]; exact Nat.add_le_add zS (Nat.le_refl 1)
    have HS1e : Hid (S1 = mk (if n = 0 then prT (l.take n) else prT (l.take n) ++ [32])) := by
      show _ = _
      rw [hS1, HS.out]
      split
      · rfl
      · exact mk_cat _ [32]
    have HS1 := Lib.hid hS1
    clear hS1
    obtain ⟨k, a, b, y, m⟩ := x
    obtain ⟨ha, h2⟩ := one_facts h1
    simp only at ha h2 hcc
    have zA : (mk a).size ≤ 50 := by rw [mk_size, code5 ha]; decide
    have zB : (mk b).size ≤ 50 := by
      rw [mk_size]
      rcases h2 with ⟨-, rfl, -⟩ | ⟨-, -, hb, -⟩ | ⟨-, -, hb, -⟩
      · decide
      · rw [code5 hb]; decide
      · rw [code5 hb]; decide
    obtain ⟨c0, c1, c2, c3, c4⟩ := hcc
    have hb2 := below_alloc wr (.cells #[.int .i64 k, .string (mk a), .string (mk b), .bool y, .int .i64 m] 49)
    have HZ := Lib.hid (heap_alloc_new wr (.cells #[.int .i64 k, .string (mk a), .string (mk b), .bool y, .int .i64 m] 49))
    have HB2 := Lib.hid (HBn.out.trans (hb2.mono (by have := HBn.out.size; omega)))
    clear hB' hb2 ha h1
    go_upto_region 9 with fail
    generalize wr.alloc (.cells #[.int .i64 k, .string (mk a), .string (mk b), .bool y, .int .i64 m] 49) = W at *
    generalize wr.heap.size = q at *
    clear c0 c1 c2 c3 c4
    go_upto_if 24 with fail
    go_cut [5] (fun s5 wx => s5 = .string S1 ∧ wx = W)
    case first =>
      by_cases hm : n = 0
      · have e : Hid (S1 = S) := by show _ = _; rw [HS1.out, if_pos hm]
        have t1 : ¬ (0 : Int) < (n : Int) := by omega
        clear hm
        go_wp2
        go_meet
        exact ⟨by rw [e.out] <;> rfl, rfl⟩
      · have e : Hid (S1 = S ++ ⟨#[32]⟩) := by show _ = _; rw [HS1.out, if_neg hm]
        have t1 : (0 : Int) < (n : Int) := by omega
        have t2 : (S ++ (⟨#[32]⟩ : ByteArray)).size ≤ 25601 := by rw [ByteArray.size_append]; exact Nat.add_le_add zS (Nat.le_refl 1)
        clear hm
        go_wp2
        go_meet
        exact ⟨by rw [e.out] <;> rfl, rfl⟩
    case rest =>
    obtain ⟨rfl, hwc⟩ := hcut
    have hwc' := hwc.symm
    subst hwc'
    obtain ⟨c0, c1, c2, c3, c4⟩ := cells5 HZ.out
    rcases h2 with ⟨rfl, rfl, rfl, m1, m2⟩ | ⟨rfl, -, -, rfl⟩ | ⟨rfl, -, -, rfl, rfl⟩
    · have HSt : Hid (prT (l.take (n + 1)) = (if n = 0 then prT (l.take n) else prT (l.take n) ++ [32]) ++ joinC 32 [tUni, a, Lib.itoa m]) := HSt.out
      have hit := Pl.itoa_len (show 0 ≤ m by omega) (show m ≤ 99999 by omega)
      have zM : (mk (Lib.itoa m)).size ≤ 50 := by rw [mk_size]; omega
      have HIn : Hid (∀ W', Calls Tryd.prog 23 #[.int .i64 m] W' fun e w' => e = .returned (.string (mk (Lib.itoa m))) ∧ Below W'.heap.size W' w') := fun W' => Nu.rint_any m (by omega) (by omega) W'
      have HE : Hid (S1 ++ ⟨#[117, 110, 105, 116, 115, 32]⟩ ++ mk a ++ ⟨#[32]⟩ ++ mk (Lib.itoa m) = mk (prT (l.take (n + 1)))) := by
        show _ = _
        rw [HS1e.out, HSt.out, jn_uni]
        exact cat5 _ [117, 110, 105, 116, 115, 32] _ [32] _
      generalize mk (Lib.itoa m) = M at *
      clear HSt hit
      obtain ⟨T1, hT1⟩ : ∃ t : ByteArray, S1 ++ ⟨#[117, 110, 105, 116, 115, 32]⟩ = t := ⟨_, rfl⟩
      have zT1 : T1.size ≤ 25651 := by rw [← hT1, ByteArray.size_append]; first | omega | (have hz : ((⟨#[117, 110, 105, 116, 115, 32]⟩ : ByteArray)).size = 6 := rfl; omega)
      obtain ⟨T2, hT2⟩ : ∃ t : ByteArray, T1 ++ mk a = t := ⟨_, rfl⟩
      have zT2 : T2.size ≤ 25701 := by rw [← hT2, ByteArray.size_append]; first | omega | (have hz : ((mk a : ByteArray)).size = 50 := rfl; omega)
      obtain ⟨T3, hT3⟩ : ∃ t : ByteArray, T2 ++ ⟨#[32]⟩ = t := ⟨_, rfl⟩
      have zT3 : T3.size ≤ 25751 := by rw [← hT3, ByteArray.size_append]; first | omega | (have hz : ((⟨#[32]⟩ : ByteArray)).size = 1 := rfl; omega)
      obtain ⟨T4, hT4⟩ : ∃ t : ByteArray, T3 ++ M = t := ⟨_, rfl⟩
      have zT4 : T4.size ≤ 25801 := by rw [← hT4, ByteArray.size_append]; first | omega | (have hz : ((M : ByteArray)).size = 50 := rfl; omega)
      have HTT := Lib.hid (And.intro hT1 (And.intro hT2 (And.intro hT3 hT4)))
      have HE : Hid (T4 = mk (prT (l.take (n + 1)))) := by show _ = _; rw [← HE.out, ← hT4, ← hT3, ← hT2, ← hT1]
      have zN : T4.size ≤ 25600 := by rw [HE.out, mk_size]; exact HSZ.out (n + 1)
      clear hT1 hT2 hT3 hT4
      have HXK := Lib.hid fun W' (hW : Below W.heap.size W W') => cells5 (keepB HZ.out hW)
      have HD := Lib.hid (Below.drew (Below.refl W.heap.size W))
      go_upto_region 12 with fail
      clear c0 c1 c2 c3 c4
      refine Ri.wp_region_tailX 10 (by kernel_rfl) (by kernel_rfl) (by kernel_rfl) (by decide) (by kernel_rfl) (fun Wx => Below W.heap.size W Wx) (fun kz vs wz => (fun kx vx wx => match kx with | 0 => vx = .string S1 | 1 => vx = .string T1 | 2 => vx = .pointer (some ⟨q, 1, none⟩) | 3 => vx = .string (mk a) | 4 => vx = .string T2 | 5 => vx = .string T3 | 6 => vx = .pointer (some ⟨q, 4, none⟩) | 7 => vx = .int .i64 m | 8 => vx = .string M | 9 => vx = .string T4 | _ => True : Nat → Value → World → Prop) kz (vs kz) wz) (fun lst vs => lst 10 = false → vs 10 = .string S1) (fun kz => [kz]) (by kernel_rfl) (fun jz vs iz vz wz hiz hz => Ri.loc_own (F := (fun kx vx wx => match kx with | 0 => vx = .string S1 | 1 => vx = .string T1 | 2 => vx = .pointer (some ⟨q, 1, none⟩) | 3 => vx = .string (mk a) | 4 => vx = .string T2 | 5 => vx = .string T3 | 6 => vx = .pointer (some ⟨q, 4, none⟩) | 7 => vx = .int .i64 m | 8 => vx = .string M | 9 => vx = .string T4 | _ => True : Nat → Value → World → Prop)) jz vs iz vz wz hiz hz) HD.out ?_ ⟨⟨rfl, ?_⟩, ⟨rfl, ?_⟩, ⟨rfl, ?_⟩, ⟨rfl, ?_⟩, ⟨rfl, ?_⟩, ⟨rfl, ?_⟩, ⟨rfl, ?_⟩, ⟨rfl, ?_⟩, ⟨rfl, ?_⟩, ⟨rfl, ?_⟩, trivial⟩ ?_
      · intro vs hvs
        intro _
        have h1 := congrArg (fun a => a.tmps[5]?.getD undef) hvs
        exact (show vs 10 = _ by kernel_rfl).trans (h1.trans (show _ = Value.string S1 by kernel_rfl))
      · intro vs Wx A lst hA hB hls hX hno hpre K hK
        have e5 := ((hA 5).trans (show _ = vs 10 by kernel_rfl)).trans (hX (hno 10 (by decide)))
        clear hA hpre
        go_simp
        first | exact hK _ _ hB rfl (fun _ _ h => h) hX | exact hK _ _ hB trivial (fun _ _ h => h) hX | (rw [if_neg (by omega)]; go_simp; exact hK _ _ hB rfl (fun _ _ h => h) hX)
      · intro vs Wx A lst hA hB hls hX hno hpre K hK
        have e30 := ((hA 30).trans (show _ = vs 0 by kernel_rfl)).trans (by first | exact hpre.1 rfl | exact hpre.2.1 rfl | exact hpre.2.2.1 rfl | exact hpre.2.2.2.1 rfl | exact hpre.2.2.2.2.1 rfl | exact hpre.2.2.2.2.2.1 rfl | exact hpre.2.2.2.2.2.2.1 rfl | exact hpre.2.2.2.2.2.2.2.1 rfl | exact hpre.2.2.2.2.2.2.2.2.1 rfl | exact hpre.2.2.2.2.2.2.2.2.2.1 rfl)
        have hT := HTT.out.1
        clear hA hpre
        go_simp
        first | exact hK _ _ hB rfl (fun _ _ h => h) hX | exact hK _ _ hB trivial (fun _ _ h => h) hX | (rw [if_neg (by omega)]; go_simp; exact hK _ _ hB rfl (fun _ _ h => h) hX)
      · intro vs Wx A lst hA hB hls hX hno hpre K hK
        have e7 := (hA 7).trans (show _ = Value.pointer (some ⟨q, 0, none⟩) by kernel_rfl)
        clear hA hpre
        go_simp
        first | exact hK _ _ hB rfl (fun _ _ h => h) hX | exact hK _ _ hB trivial (fun _ _ h => h) hX | (rw [if_neg (by omega)]; go_simp; exact hK _ _ hB rfl (fun _ _ h => h) hX)
      · intro vs Wx A lst hA hB hls hX hno hpre K hK
        have e32 := ((hA 32).trans (show _ = vs 2 by kernel_rfl)).trans (by first | exact hpre.1 rfl | exact hpre.2.1 rfl | exact hpre.2.2.1 rfl | exact hpre.2.2.2.1 rfl | exact hpre.2.2.2.2.1 rfl | exact hpre.2.2.2.2.2.1 rfl | exact hpre.2.2.2.2.2.2.1 rfl | exact hpre.2.2.2.2.2.2.2.1 rfl | exact hpre.2.2.2.2.2.2.2.2.1 rfl | exact hpre.2.2.2.2.2.2.2.2.2.1 rfl)
        obtain ⟨y0, y1, y2, y3, y4⟩ := HXK.out Wx hB
        clear hA hpre
        go_simp
        first | exact hK _ _ hB rfl (fun _ _ h => h) hX | exact hK _ _ hB trivial (fun _ _ h => h) hX | (rw [if_neg (by omega)]; go_simp; exact hK _ _ hB rfl (fun _ _ h => h) hX)
      · intro vs Wx A lst hA hB hls hX hno hpre K hK
        have e31 := ((hA 31).trans (show _ = vs 1 by kernel_rfl)).trans (by first | exact hpre.1 rfl | exact hpre.2.1 rfl | exact hpre.2.2.1 rfl | exact hpre.2.2.2.1 rfl | exact hpre.2.2.2.2.1 rfl | exact hpre.2.2.2.2.2.1 rfl | exact hpre.2.2.2.2.2.2.1 rfl | exact hpre.2.2.2.2.2.2.2.1 rfl | exact hpre.2.2.2.2.2.2.2.2.1 rfl | exact hpre.2.2.2.2.2.2.2.2.2.1 rfl)
        have e33 := ((hA 33).trans (show _ = vs 3 by kernel_rfl)).trans (by first | exact hpre.1 rfl | exact hpre.2.1 rfl | exact hpre.2.2.1 rfl | exact hpre.2.2.2.1 rfl | exact hpre.2.2.2.2.1 rfl | exact hpre.2.2.2.2.2.1 rfl | exact hpre.2.2.2.2.2.2.1 rfl | exact hpre.2.2.2.2.2.2.2.1 rfl | exact hpre.2.2.2.2.2.2.2.2.1 rfl | exact hpre.2.2.2.2.2.2.2.2.2.1 rfl)
        have hT := HTT.out.2.1
        clear hA hpre
        go_simp
        first | exact hK _ _ hB rfl (fun _ _ h => h) hX | exact hK _ _ hB trivial (fun _ _ h => h) hX | (rw [if_neg (by omega)]; go_simp; exact hK _ _ hB rfl (fun _ _ h => h) hX)
      · intro vs Wx A lst hA hB hls hX hno hpre K hK
        have e34 := ((hA 34).trans (show _ = vs 4 by kernel_rfl)).trans (by first | exact hpre.1 rfl | exact hpre.2.1 rfl | exact hpre.2.2.1 rfl | exact hpre.2.2.2.1 rfl | exact hpre.2.2.2.2.1 rfl | exact hpre.2.2.2.2.2.1 rfl | exact hpre.2.2.2.2.2.2.1 rfl | exact hpre.2.2.2.2.2.2.2.1 rfl | exact hpre.2.2.2.2.2.2.2.2.1 rfl | exact hpre.2.2.2.2.2.2.2.2.2.1 rfl)
        have hT := HTT.out.2.2.1
        clear hA hpre
        go_simp
        first | exact hK _ _ hB rfl (fun _ _ h => h) hX | exact hK _ _ hB trivial (fun _ _ h => h) hX | (rw [if_neg (by omega)]; go_simp; exact hK _ _ hB rfl (fun _ _ h => h) hX)
      · intro vs Wx A lst hA hB hls hX hno hpre K hK
        have e7 := (hA 7).trans (show _ = Value.pointer (some ⟨q, 0, none⟩) by kernel_rfl)
        clear hA hpre
        go_simp
        first | exact hK _ _ hB rfl (fun _ _ h => h) hX | exact hK _ _ hB trivial (fun _ _ h => h) hX | (rw [if_neg (by omega)]; go_simp; exact hK _ _ hB rfl (fun _ _ h => h) hX)
      · intro vs Wx A lst hA hB hls hX hno hpre K hK
        have e36 := ((hA 36).trans (show _ = vs 6 by kernel_rfl)).trans (by first | exact hpre.1 rfl | exact hpre.2.1 rfl | exact hpre.2.2.1 rfl | exact hpre.2.2.2.1 rfl | exact hpre.2.2.2.2.1 rfl | exact hpre.2.2.2.2.2.1 rfl | exact hpre.2.2.2.2.2.2.1 rfl | exact hpre.2.2.2.2.2.2.2.1 rfl | exact hpre.2.2.2.2.2.2.2.2.1 rfl | exact hpre.2.2.2.2.2.2.2.2.2.1 rfl)
        obtain ⟨y0, y1, y2, y3, y4⟩ := HXK.out Wx hB
        clear hA hpre
        go_simp
        first | exact hK _ _ hB rfl (fun _ _ h => h) hX | exact hK _ _ hB trivial (fun _ _ h => h) hX | (rw [if_neg (by omega)]; go_simp; exact hK _ _ hB rfl (fun _ _ h => h) hX)
      · intro vs Wx A lst hA hB hls hX hno hpre K hK
        have e37 := ((hA 37).trans (show _ = vs 7 by kernel_rfl)).trans (by first | exact hpre.1 rfl | exact hpre.2.1 rfl | exact hpre.2.2.1 rfl | exact hpre.2.2.2.1 rfl | exact hpre.2.2.2.2.1 rfl | exact hpre.2.2.2.2.2.1 rfl | exact hpre.2.2.2.2.2.2.1 rfl | exact hpre.2.2.2.2.2.2.2.1 rfl | exact hpre.2.2.2.2.2.2.2.2.1 rfl | exact hpre.2.2.2.2.2.2.2.2.2.1 rfl)
        clear hA hpre
        go_simp
        go_at_call 23
        refine (HIn.out Wx).mono ?_
        rintro e w3 ⟨rfl, hb3⟩
        exact hK _ _ (below_trans hB hb3) rfl (fun _ _ h => h) hX
      · intro vs Wx A lst hA hB hls hX hno hpre K hK
        have e35 := ((hA 35).trans (show _ = vs 5 by kernel_rfl)).trans (by first | exact hpre.1 rfl | exact hpre.2.1 rfl | exact hpre.2.2.1 rfl | exact hpre.2.2.2.1 rfl | exact hpre.2.2.2.2.1 rfl | exact hpre.2.2.2.2.2.1 rfl | exact hpre.2.2.2.2.2.2.1 rfl | exact hpre.2.2.2.2.2.2.2.1 rfl | exact hpre.2.2.2.2.2.2.2.2.1 rfl | exact hpre.2.2.2.2.2.2.2.2.2.1 rfl)
        have e38 := ((hA 38).trans (show _ = vs 8 by kernel_rfl)).trans (by first | exact hpre.1 rfl | exact hpre.2.1 rfl | exact hpre.2.2.1 rfl | exact hpre.2.2.2.1 rfl | exact hpre.2.2.2.2.1 rfl | exact hpre.2.2.2.2.2.1 rfl | exact hpre.2.2.2.2.2.2.1 rfl | exact hpre.2.2.2.2.2.2.2.1 rfl | exact hpre.2.2.2.2.2.2.2.2.1 rfl | exact hpre.2.2.2.2.2.2.2.2.2.1 rfl)
        have hT := HTT.out.2.2.2
        clear hA hpre
        go_simp
        first | exact hK _ _ hB rfl (fun _ _ h => h) hX | exact hK _ _ hB trivial (fun _ _ h => h) hX | (rw [if_neg (by omega)]; go_simp; exact hK _ _ hB rfl (fun _ _ h => h) hX)
      · intro vs Wx lst hall hX hB hF
        refine fun A10 hA K10 hK10 => ?_
        have e39 := ((hA 39).trans (show _ = vs 9 by kernel_rfl)).trans (hF 9 (by decide))
        clear hA
        clear hF
        go_simp
        refine hK10 _ _ ?_
        have HBW := Lib.hid (HB2.out.trans (hB.mono (by have := HB2.out.size; have := HB1.out.size; omega)))
        clear hB hX hall
        simp only [Ri.Tail, Ri.puts]
        go_simp
        go_wp2
        go_roundg (l.length - (n + 1))
        case measure => omega
        case rel => exact ⟨n + 1, T4, by omega, rfl, by first | rfl | (go_simp; done), by first | rfl | go_num | (congr 1; omega), zN, HE.out, HBW.out⟩
    · cases y with
      | true =>
        have HSt : Hid (prT (l.take (n + 1)) = (if n = 0 then prT (l.take n) else prT (l.take n) ++ [32]) ++ joinC 32 [tBun, a, b, Pl.tYes]) := HSt.out
        have HE : Hid (S1 ++ ⟨#[98, 117, 110, 100, 108, 101, 32]⟩ ++ mk a ++ ⟨#[32]⟩ ++ mk b ++ ⟨#[32, 121, 101, 115]⟩ = mk (prT (l.take (n + 1)))) := by
          show _ = _
          rw [HS1e.out, HSt.out, jn_bun]
          exact cat6 _ [98, 117, 110, 100, 108, 101, 32] _ [32] _ [32, 121, 101, 115]
        clear HSt
        obtain ⟨T1, hT1⟩ : ∃ t : ByteArray, S1 ++ ⟨#[98, 117, 110, 100, 108, 101, 32]⟩ = t := ⟨_, rfl⟩
        have zT1 : T1.size ≤ 25651 := by rw [← hT1, ByteArray.size_append]; first | omega | (have hz : ((⟨#[98, 117, 110, 100, 108, 101, 32]⟩ : ByteArray)).size = 7 := rfl; omega)
        obtain ⟨T2, hT2⟩ : ∃ t : ByteArray, T1 ++ mk a = t := ⟨_, rfl⟩
        have zT2 : T2.size ≤ 25701 := by rw [← hT2, ByteArray.size_append]; first | omega | (have hz : ((mk a : ByteArray)).size = 50 := rfl; omega)
        obtain ⟨T3, hT3⟩ : ∃ t : ByteArray, T2 ++ ⟨#[32]⟩ = t := ⟨_, rfl⟩
        have zT3 : T3.size ≤ 25751 := by rw [← hT3, ByteArray.size_append]; first | omega | (have hz : ((⟨#[32]⟩ : ByteArray)).size = 1 := rfl; omega)
        obtain ⟨T4, hT4⟩ : ∃ t : ByteArray, T3 ++ mk b = t := ⟨_, rfl⟩
        have zT4 : T4.size ≤ 25801 := by rw [← hT4, ByteArray.size_append]; first | omega | (have hz : ((mk b : ByteArray)).size = 50 := rfl; omega)
        obtain ⟨T5, hT5⟩ : ∃ t : ByteArray, T4 ++ ⟨#[32, 121, 101, 115]⟩ = t := ⟨_, rfl⟩
        have zT5 : T5.size ≤ 25851 := by rw [← hT5, ByteArray.size_append]; first | omega | (have hz : ((⟨#[32, 121, 101, 115]⟩ : ByteArray)).size = 4 := rfl; omega)
        have HE : Hid (T5 = mk (prT (l.take (n + 1)))) := by show _ = _; rw [← HE.out, ← hT5, ← hT4, ← hT3, ← hT2, ← hT1]
        have zN : T5.size ≤ 25600 := by rw [HE.out, mk_size]; exact HSZ.out (n + 1)
        go_wp2
        go_roundg (l.length - (n + 1))
        case measure => omega
        case rel => exact ⟨n + 1, T5, by omega, rfl, by first | rfl | (go_simp; done), by first | rfl | go_num | (congr 1; omega), zN, HE.out, HB2.out⟩
      | false =>
        have HSt : Hid (prT (l.take (n + 1)) = (if n = 0 then prT (l.take n) else prT (l.take n) ++ [32]) ++ joinC 32 [tBun, a, b, Pl.tNo]) := HSt.out
        have HE : Hid (S1 ++ ⟨#[98, 117, 110, 100, 108, 101, 32]⟩ ++ mk a ++ ⟨#[32]⟩ ++ mk b ++ ⟨#[32, 110, 111]⟩ = mk (prT (l.take (n + 1)))) := by
          show _ = _
          rw [HS1e.out, HSt.out, jn_bun]
          exact cat6 _ [98, 117, 110, 100, 108, 101, 32] _ [32] _ [32, 110, 111]
        clear HSt
        obtain ⟨T1, hT1⟩ : ∃ t : ByteArray, S1 ++ ⟨#[98, 117, 110, 100, 108, 101, 32]⟩ = t := ⟨_, rfl⟩
        have zT1 : T1.size ≤ 25651 := by rw [← hT1, ByteArray.size_append]; first | omega | (have hz : ((⟨#[98, 117, 110, 100, 108, 101, 32]⟩ : ByteArray)).size = 7 := rfl; omega)
        obtain ⟨T2, hT2⟩ : ∃ t : ByteArray, T1 ++ mk a = t := ⟨_, rfl⟩
        have zT2 : T2.size ≤ 25701 := by rw [← hT2, ByteArray.size_append]; first | omega | (have hz : ((mk a : ByteArray)).size = 50 := rfl; omega)
        obtain ⟨T3, hT3⟩ : ∃ t : ByteArray, T2 ++ ⟨#[32]⟩ = t := ⟨_, rfl⟩
        have zT3 : T3.size ≤ 25751 := by rw [← hT3, ByteArray.size_append]; first | omega | (have hz : ((⟨#[32]⟩ : ByteArray)).size = 1 := rfl; omega)
        obtain ⟨T4, hT4⟩ : ∃ t : ByteArray, T3 ++ mk b = t := ⟨_, rfl⟩
        have zT4 : T4.size ≤ 25801 := by rw [← hT4, ByteArray.size_append]; first | omega | (have hz : ((mk b : ByteArray)).size = 50 := rfl; omega)
        obtain ⟨T5, hT5⟩ : ∃ t : ByteArray, T4 ++ ⟨#[32, 110, 111]⟩ = t := ⟨_, rfl⟩
        have zT5 : T5.size ≤ 25851 := by rw [← hT5, ByteArray.size_append]; first | omega | (have hz : ((⟨#[32, 110, 111]⟩ : ByteArray)).size = 3 := rfl; omega)
        have HE : Hid (T5 = mk (prT (l.take (n + 1)))) := by show _ = _; rw [← HE.out, ← hT5, ← hT4, ← hT3, ← hT2, ← hT1]
        have zN : T5.size ≤ 25600 := by rw [HE.out, mk_size]; exact HSZ.out (n + 1)
        go_wp2
        go_roundg (l.length - (n + 1))
        case measure => omega
        case rel => exact ⟨n + 1, T5, by omega, rfl, by first | rfl | (go_simp; done), by first | rfl | go_num | (congr 1; omega), zN, HE.out, HB2.out⟩
    · have HSt : Hid (prT (l.take (n + 1)) = (if n = 0 then prT (l.take n) else prT (l.take n) ++ [32]) ++ joinC 32 [tEit, a, b]) := HSt.out
      have HE : Hid (S1 ++ ⟨#[101, 105, 116, 104, 101, 114, 32]⟩ ++ mk a ++ ⟨#[32]⟩ ++ mk b = mk (prT (l.take (n + 1)))) := by
        show _ = _
        rw [HS1e.out, HSt.out, jn_eit]
        exact cat5 _ [101, 105, 116, 104, 101, 114, 32] _ [32] _
      clear HSt
      obtain ⟨T1, hT1⟩ : ∃ t : ByteArray, S1 ++ ⟨#[101, 105, 116, 104, 101, 114, 32]⟩ = t := ⟨_, rfl⟩
      have zT1 : T1.size ≤ 25651 := by rw [← hT1, ByteArray.size_append]; first | omega | (have hz : ((⟨#[101, 105, 116, 104, 101, 114, 32]⟩ : ByteArray)).size = 7 := rfl; omega)
      obtain ⟨T2, hT2⟩ : ∃ t : ByteArray, T1 ++ mk a = t := ⟨_, rfl⟩
      have zT2 : T2.size ≤ 25701 := by rw [← hT2, ByteArray.size_append]; first | omega | (have hz : ((mk a : ByteArray)).size = 50 := rfl; omega)
      obtain ⟨T3, hT3⟩ : ∃ t : ByteArray, T2 ++ ⟨#[32]⟩ = t := ⟨_, rfl⟩
      have zT3 : T3.size ≤ 25751 := by rw [← hT3, ByteArray.size_append]; first | omega | (have hz : ((⟨#[32]⟩ : ByteArray)).size = 1 := rfl; omega)
      obtain ⟨T4, hT4⟩ : ∃ t : ByteArray, T3 ++ mk b = t := ⟨_, rfl⟩
      have zT4 : T4.size ≤ 25801 := by rw [← hT4, ByteArray.size_append]; first | omega | (have hz : ((mk b : ByteArray)).size = 50 := rfl; omega)
      have HE : Hid (T4 = mk (prT (l.take (n + 1)))) := by show _ = _; rw [← HE.out, ← hT4, ← hT3, ← hT2, ← hT1]
      have zN : T4.size ≤ 25600 := by rw [HE.out, mk_size]; exact HSZ.out (n + 1)
      go_wp2
      go_roundg (l.length - (n + 1))
      case measure => omega
      case rel => exact ⟨n + 1, T4, by omega, rfl, by first | rfl | (go_simp; done), by first | rfl | go_num | (congr 1; omega), zN, HE.out, HB2.out⟩
end Go.Proofs.YtgloihilnbjmeaaDoor.Ex
end
