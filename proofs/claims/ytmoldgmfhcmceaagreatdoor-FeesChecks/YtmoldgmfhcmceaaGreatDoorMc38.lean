/-
  Texts put together (merge.py): ZRPrint.
-/
import Derived.Test.YtmoldgmfhcmceaaGreatDoorMc31
import Derived.Test.YtmoldgmfhcmceaaGreatDoorMc36
import Derived.Test.YtmoldgmfhcmceaaGreatDoorMc37
import Derived.Test.YtmoldgmfhcmceaaGreatDoorMc16
/-
  A table as a text, as the reference says: Print, as a contract. (Written by gen_rprint.py.)
-/
section
set_option linter.unusedSimpArgs false
set_option linter.unusedVariables false
set_option maxRecDepth 100000
namespace Go.Proofs.YtmoldgmfhcmceaaGreatDoor.Fe
open Go.RowKit
open Wo (Wd WdsAt box_cell box_two keepB heap_far below_alloc below_trans mk_cat)

/-- Words, a blank ahead of each. -/
def bl (l : List Tx) : Tx := l.flatMap fun t => 32 :: t
theorem bl_nil : bl [] = [] := rfl
theorem bl_cons (t : Tx) (l : List Tx) : bl (t :: l) = 32 :: (t ++ bl l) := rfl
theorem bl_app (a b : List Tx) : bl (a ++ b) = bl a ++ bl b := by simp [bl]
theorem join_bl : ∀ (l : List Tx) (t : Tx), joinC 32 (t :: l) = t ++ bl l
  | [], t => by rw [joinC_one, bl_nil, List.append_nil]
  | x :: r, t => by rw [joinC_cons, join_bl r x, bl_cons]
theorem bl_join (l : List Tx) (h : l ≠ []) : bl l = 32 :: joinC 32 l := by
  cases l with
  | nil => exact absurd rfl h
  | cons t r => rw [join_bl, bl_cons]
theorem join_app2 (a b : List Tx) (ha : a ≠ []) (hb : b ≠ []) : joinC 32 (a ++ b) = joinC 32 a ++ 32 :: joinC 32 b := by
  cases a with
  | nil => exact absurd rfl ha
  | cons t r => rw [List.cons_append, join_bl, bl_app, bl_join b hb, join_bl, List.append_assoc]
theorem fe_join (f : Fee) : joinC 32 (feW f) = [102, 101, 101, 32] ++ (f.proc ++ ([32] ++ ((if f.mod = [] then tNone else f.mod) ++ ((32 :: ((if f.net = 1 then tOut else tIn) ++ [32])) ++ (Lib.itoa f.frm ++ ([32] ++ Nu.moneyL f.cents)))))) := by
  unfold feW
  rw [join_bl]
  simp [bl, tFee]
theorem prT_step (l : List Fee) (n : Nat) (h : n < l.length) : prT (l.take (n + 1)) = (if n = 0 then prT (l.take n) else prT (l.take n) ++ [32]) ++ joinC 32 (feW l[n]) := by
  unfold prT
  rw [tab_take l n h]
  split
  · next h0 =>
    subst h0
    have e : tabW (l.take 0) = [] := rfl
    rw [e, List.nil_append]
    rfl
  · next h0 =>
    rw [join_app2 _ _ (fun e => by have := congrArg List.length e; rw [tabW_len, List.length_take] at this; simp at this; omega) (by simp [feW])]
    simp
theorem cat9 (a b c d e f g h i : Tx) : mk a ++ mk b ++ mk c ++ mk d ++ mk e ++ mk f ++ mk g ++ mk h ++ mk i = mk (a ++ (b ++ (c ++ (d ++ (e ++ (f ++ (g ++ (h ++ i)))))))) := by
  simp only [mk_cat, List.append_assoc]
theorem sz_mem : ∀ (l : List Tx) (t : Tx), t ∈ l → t.length ≤ Pl.szW l
  | [], t, h => by cases h
  | x :: r, t, h => by
    rw [Pl.sz_cons]
    rcases List.mem_cons.1 h with rfl | h
    · omega
    · have := sz_mem r t h; omega
theorem pr_sz (l : List Fee) (n : Nat) (h : ∀ f ∈ l, oneE f = 0) (h5 : l.length ≤ 512) : (prT (l.take n)).length ≤ 25600 := by
  have h1 := tab_size (l.take n) (fun f hf => h f (List.mem_of_mem_take hf))
  have h2 := Pl.join_size (tabW (l.take n))
  have h3 : (l.take n).length ≤ 512 := by rw [List.length_take]; omega
  unfold prT
  omega
set_option maxHeartbeats 16000000 in
theorem rprint_any (l : List Fee) (v : Value) (w : World) (h : FesAt All w v l) (hok : ∀ f ∈ l, FeOk f) (hl : l.length ≤ 281474976710656) :
    Calls Tryz.prog 10 #[v] w fun e w' => e = .returned (.tuple #[.string (mk (prV l)), .int .i64 (checkE l)]) ∧ Below w.heap.size w w' := by
  have HCk := Lib.hid (rcheck_any l v w h hok hl)
  have HF := Lib.hid h
  obtain ⟨fa, fk, rfl, hm1, hm2⟩ := h.form
  clear h hok
  by_cases hce : checkE l = 0
  rotate_left
  · have HV : Hid (prV l = []) := by show _ = _; unfold prV; rw [if_neg hce]
    rw [HV.out]
    obtain ⟨ce, HCE⟩ : ∃ z, Hid (checkE l = z) := ⟨_, rfl⟩
    rw [HCE.out] at HCk hce ⊢
    have q1 : (ce != 0) = true := by simpa using hce
    clear hce
    go_enter Tryz.func10, Tryz.ntmps10
    go_wp2_with fail
    go_at_call 12
    refine HCk.out.mono ?_
    rintro e w1 ⟨rfl, hb1⟩
    have HB1 := Lib.hid hb1
    clear hb1
    go_wp2
    go_ret2
    exact ⟨rfl, HB1.out⟩
  · obtain ⟨hc1, hc2, -⟩ := check_facts hce
    have HV : Hid (prV l = prT l) := by show _ = _; unfold prV; rw [if_pos hce]
    have HO1 := Lib.hid hc2
    have HSZ := Lib.hid fun n => pr_sz l n hc2 hc1
    rw [hce] at HCk ⊢
    rw [HV.out]
    clear hce hc2
    go_enter Tryz.func10, Tryz.ntmps10
    go_wp2_with fail
    go_at_call 12
    refine HCk.out.mono ?_
    rintro e w1 ⟨rfl, hb1⟩
    have HB1 := Lib.hid hb1
    clear hb1 HCk
    generalize hp : w.heap.size = p at *
    go_wp2
    go_loopg [5, 6] (l.length) (fun g s5 i wr => ∃ (n : Nat) (S : ByteArray), n ≤ l.length ∧ g = l.length - n ∧ s5 = .string S ∧ i = .int .i64 (n : Nat) ∧ S.size ≤ 25600 ∧ Hid (S = mk (prT (l.take n))) ∧ Hid (Below p w wr))
    case atStart => exact ⟨0, _, Nat.zero_le _, rfl, rfl, rfl, by first | decide | exact Nat.zero_le _, rfl, HB1.out⟩
    case round =>
      obtain ⟨n, S, hn, hgk, rfl, rfl, zS, HS, HBn⟩ := hrel
      by_cases hlt : n < l.length
      · have hB' : Below w.heap.size w wr := by subst hp; exact HBn.out
        have hltz : (n : Int) < (l.length : Int) := by omega
        obtain ⟨b, oo, rfl, hbs, -, hcc⟩ := FesAt.get (HF.out.grw hB') n hlt
        have HSt := Lib.hid (prT_step l n hlt)
        have h1 := HO1.out l[n] (List.getElem_mem hlt)
        have hok := ok_of_one h1
        have hfs := fe_size h1
        generalize l[n] = x at *
        have k0 := sz_mem (feW x) x.proc (by simp [feW])
        have k1 := sz_mem (feW x) (if x.mod = [] then tNone else x.mod) (by simp [feW])
        have k4 := sz_mem (feW x) (Lib.itoa x.frm) (by simp [feW])
        have k5 := sz_mem (feW x) (Nu.moneyL x.cents) (by simp [feW])
        have zP : (mk x.proc).size ≤ 50 := by rw [mk_size]; omega
        obtain ⟨-, -, ⟨f1, f2⟩, ⟨g1, g2⟩⟩ := hok
        have HIn : Hid (∀ W', Calls Tryz.prog 26 #[.int .i64 x.frm] W' fun e w' => e = .returned (.string (mk (Lib.itoa x.frm))) ∧ Below W'.heap.size W' w') := fun W' => Nu.rint_any x.frm f1 f2 W'
        have HMn : Hid (∀ W', Calls Tryz.prog 27 #[.int .i64 x.cents] W' fun e w' => e = .returned (.string (mk (Nu.moneyL x.cents))) ∧ Below W'.heap.size W' w') := fun W' => Nu.rmoney_any x.cents g1 g2 W'
        obtain ⟨S1, hS1⟩ : ∃ z : ByteArray, z = if n = 0 then S else S ++ ⟨#[32]⟩ := ⟨_, rfl⟩
        obtain ⟨M2, hM2⟩ : ∃ z : ByteArray, z = mk (if x.mod = [] then tNone else x.mod) := ⟨_, rfl⟩
        obtain ⟨M3, hM3⟩ : ∃ z : ByteArray, z = mk (32 :: ((if x.net = 1 then tOut else tIn) ++ [32])) := ⟨_, rfl⟩
        have zS1 : S1.size ≤ 25601 := by rw [hS1]; split; (· omega); rw [ByteArray.size_append]; exact Nat.add_le_add zS (Nat.le_refl 1)
        have z2 : M2.size ≤ 50 := by rw [hM2, mk_size]; omega
        have z3 : M3.size ≤ 50 := by rw [hM3, mk_size]; split <;> decide
        have z4 : (mk (Lib.itoa x.frm)).size ≤ 50 := by rw [mk_size]; omega
        have z5 : (mk (Nu.moneyL x.cents)).size ≤ 50 := by rw [mk_size]; omega
        have HE : Hid (S1 ++ ⟨#[102, 101, 101, 32]⟩ ++ mk x.proc ++ ⟨#[32]⟩ ++ M2 ++ M3 ++ mk (Lib.itoa x.frm) ++ ⟨#[32]⟩ ++ mk (Nu.moneyL x.cents) = mk (prT (l.take (n + 1)))) := by
          show _ = _
          have e : S1 = mk (if n = 0 then prT (l.take n) else prT (l.take n) ++ [32]) := by
            rw [hS1, HS.out]
            split
            · rfl
            · exact mk_cat _ [32]
          rw [e, hM2, hM3, HSt.out, fe_join]
          exact cat9 _ [102, 101, 101, 32] _ [32] _ _ _ [32] _
        have HM2 := Lib.hid hM2
        have HM3 := Lib.hid hM3
        have HS1 := Lib.hid hS1
        clear hS1 hM2 hM3 k0 k1 k4 k5 h1 hfs HSt
        generalize mk (Lib.itoa x.frm) = M4 at *
        generalize mk (Nu.moneyL x.cents) = M5 at *
        obtain ⟨c0, c1, c2, c3, c4⟩ := hcc
        have hb2 := below_alloc wr (.cells #[.string (mk x.proc), .string (mk x.mod), .int .i64 x.net, .int .i64 x.frm, .int .i64 x.cents] 45)
        have HZ := Lib.hid (heap_alloc_new wr (.cells #[.string (mk x.proc), .string (mk x.mod), .int .i64 x.net, .int .i64 x.frm, .int .i64 x.cents] 45))
        have HB2 := Lib.hid (HBn.out.trans (hb2.mono (by have := HBn.out.size; omega)))
        clear hB' hb2
        go_upto_region 9 with fail
        generalize wr.alloc (.cells #[.string (mk x.proc), .string (mk x.mod), .int .i64 x.net, .int .i64 x.frm, .int .i64 x.cents] 45) = W at *
        generalize wr.heap.size = q at *
        clear c0 c1 c2 c3 c4
        obtain ⟨c0, c1, c2, c3, c4⟩ := cells5 HZ.out
        obtain ⟨V8, t8⟩ : ∃ V, (mk x.mod).toList.isEmpty = V := ⟨_, rfl⟩
        obtain ⟨V9, t9⟩ : ∃ V, (x.net == 1) = V := ⟨_, rfl⟩
        have HM8 : Hid (M2 = if V8 = true then ⟨#[110, 111, 110, 101]⟩ else mk x.mod) := by
          show _ = _
          rw [HM2.out, ← t8, mk_emp]
          by_cases hm : x.mod = []
          · rw [if_pos hm, if_pos (decide_eq_true hm)]; rfl
          · rw [if_neg hm, if_neg (by simpa using hm)]
        have HM9 : Hid (M3 = if V9 = true then ⟨#[32, 111, 117, 116, 32]⟩ else ⟨#[32, 105, 110, 32]⟩) := by
          show _ = _
          rw [HM3.out, ← t9]
          by_cases hm : x.net = 1
          · rw [if_pos hm, if_pos (by rw [hm]; rfl)]; rfl
          · rw [if_neg hm, if_neg (by simpa using hm)]; rfl
        go_upto_if 28 with fail
        go_cut [8] (fun s8 wx => s8 = .string M2 ∧ wx = W)
        case first =>
          cases V8 with
          | true =>
            have e : Hid (M2 = ⟨#[110, 111, 110, 101]⟩) := HM8.out
            go_wp2
            go_meet
            exact ⟨by rw [e.out] <;> rfl, rfl⟩
          | false =>
            have e : Hid (M2 = mk x.mod) := HM8.out
            go_wp2
            go_meet
            exact ⟨by rw [e.out] <;> rfl, rfl⟩
        case rest =>
        obtain ⟨rfl, rfl⟩ := hcut
        go_upto_if 31 with fail
        go_cut [9] (fun s9 wx => s9 = .string M3 ∧ wx = wc)
        case first =>
          cases V9 with
          | true =>
            have e : Hid (M3 = ⟨#[32, 111, 117, 116, 32]⟩) := HM9.out
            go_wp2
            go_meet
            exact ⟨by rw [e.out] <;> rfl, rfl⟩
          | false =>
            have e : Hid (M3 = ⟨#[32, 105, 110, 32]⟩) := HM9.out
            go_wp2
            go_meet
            exact ⟨by rw [e.out] <;> rfl, rfl⟩
        case rest =>
        obtain ⟨rfl, rfl⟩ := hcut
        go_upto_if 33 with fail
        go_cut [5] (fun s5 wx => s5 = .string S1 ∧ wx = wc)
        case first =>
          by_cases hm : n = 0
          · have e : Hid (S1 = S) := by show _ = _; rw [HS1.out, if_pos hm]
            have t1 : ¬ (0 : Int) < (n : Int) := by omega
            clear hm
            go_wp2
            go_meet
            exact ⟨by rw [e.out] <;> rfl, rfl⟩
          · have e : Hid (S1 = S ++ ⟨#[32]⟩) := by show _ = _; rw [HS1.out, if_neg hm]
            have t1 : (0 : Int) < (n : Int) := by omega
            have t2 : (S ++ (⟨#[32]⟩ : ByteArray)).size ≤ 25601 := by rw [ByteArray.size_append]; exact Nat.add_le_add zS (Nat.le_refl 1)
            clear hm
            go_wp2
            go_meet
            exact ⟨by rw [e.out] <;> rfl, rfl⟩
        case rest =>
        obtain ⟨rfl, rfl⟩ := hcut
        clear c0 c1 c2 c3 c4
        obtain ⟨W0, hW0⟩ : ∃ x, x = wc := ⟨_, rfl⟩
        subst hW0
        have HXK := Lib.hid fun W' (hW : Below W0.heap.size W0 W') => cells5 (keepB HZ.out hW)
        have HD := Lib.hid (Below.drew (Below.refl W0.heap.size W0))
        go_upto_region 17 with fail
        obtain ⟨T1, hT1⟩ : ∃ t : ByteArray, S1 ++ ⟨#[102, 101, 101, 32]⟩ = t := ⟨_, rfl⟩
        have zT1 : T1.size ≤ 25651 := by rw [← hT1, ByteArray.size_append]; first | omega | (have hz : ((⟨#[102, 101, 101, 32]⟩ : ByteArray)).size = 4 := rfl; omega)
        obtain ⟨T2, hT2⟩ : ∃ t : ByteArray, T1 ++ mk x.proc = t := ⟨_, rfl⟩
        have zT2 : T2.size ≤ 25701 := by rw [← hT2, ByteArray.size_append]; first | omega | (have hz : ((mk x.proc : ByteArray)).size = 50 := rfl; omega)
        obtain ⟨T3, hT3⟩ : ∃ t : ByteArray, T2 ++ ⟨#[32]⟩ = t := ⟨_, rfl⟩
        have zT3 : T3.size ≤ 25751 := by rw [← hT3, ByteArray.size_append]; first | omega | (have hz : ((⟨#[32]⟩ : ByteArray)).size = 1 := rfl; omega)
        obtain ⟨T4, hT4⟩ : ∃ t : ByteArray, T3 ++ M2 = t := ⟨_, rfl⟩
        have zT4 : T4.size ≤ 25801 := by rw [← hT4, ByteArray.size_append]; first | omega | (have hz : ((M2 : ByteArray)).size = 50 := rfl; omega)
        obtain ⟨T5, hT5⟩ : ∃ t : ByteArray, T4 ++ M3 = t := ⟨_, rfl⟩
        have zT5 : T5.size ≤ 25851 := by rw [← hT5, ByteArray.size_append]; first | omega | (have hz : ((M3 : ByteArray)).size = 50 := rfl; omega)
        obtain ⟨T6, hT6⟩ : ∃ t : ByteArray, T5 ++ M4 = t := ⟨_, rfl⟩
        have zT6 : T6.size ≤ 25901 := by rw [← hT6, ByteArray.size_append]; first | omega | (have hz : ((M4 : ByteArray)).size = 50 := rfl; omega)
        obtain ⟨T7, hT7⟩ : ∃ t : ByteArray, T6 ++ ⟨#[32]⟩ = t := ⟨_, rfl⟩
        have zT7 : T7.size ≤ 25951 := by rw [← hT7, ByteArray.size_append]; first | omega | (have hz : ((⟨#[32]⟩ : ByteArray)).size = 1 := rfl; omega)
        obtain ⟨T8, hT8⟩ : ∃ t : ByteArray, T7 ++ M5 = t := ⟨_, rfl⟩
        have zT8 : T8.size ≤ 26001 := by rw [← hT8, ByteArray.size_append]; first | omega | (have hz : ((M5 : ByteArray)).size = 50 := rfl; omega)
        have HTT := Lib.hid (And.intro hT1 (And.intro hT2 (And.intro hT3 (And.intro hT4 (And.intro hT5 (And.intro hT6 (And.intro hT7 hT8)))))))
        have HE8 : Hid (T8 = mk (prT (l.take (n + 1)))) := by show _ = _; rw [← HE.out, ← hT8, ← hT7, ← hT6, ← hT5, ← hT4, ← hT3, ← hT2, ← hT1]
        have zN : T8.size ≤ 25600 := by rw [HE8.out, mk_size]; exact HSZ.out (n + 1)
        clear hT1 hT2 hT3 hT4 hT5 hT6 hT7 hT8 HE
        refine Ri.wp_region_tailX 19 (by kernel_rfl) (by kernel_rfl) (by kernel_rfl) (by decide) (by kernel_rfl) (fun Wx => Below W0.heap.size W0 Wx) (fun kz vs wz => (fun kx vx wx => match kx with | 0 => vx = .string S1 | 1 => vx = .string T1 | 2 => vx = .pointer (some ⟨q, 0, none⟩) | 3 => vx = .string (mk x.proc) | 4 => vx = .string T2 | 5 => vx = .string T3 | 6 => vx = .string M2 | 7 => vx = .string T4 | 8 => vx = .string M3 | 9 => vx = .string T5 | 10 => vx = .pointer (some ⟨q, 3, none⟩) | 11 => vx = .int .i64 x.frm | 12 => vx = .string M4 | 13 => vx = .string T6 | 14 => vx = .string T7 | 15 => vx = .pointer (some ⟨q, 4, none⟩) | 16 => vx = .int .i64 x.cents | 17 => vx = .string M5 | 18 => vx = .string T8 | _ => True : Nat → Value → World → Prop) kz (vs kz) wz) (fun lst vs => lst 19 = false → vs 19 = .string S1) (fun kz => [kz]) (by kernel_rfl) (fun jz vs iz vz wz hiz hz => Ri.loc_own (F := (fun kx vx wx => match kx with | 0 => vx = .string S1 | 1 => vx = .string T1 | 2 => vx = .pointer (some ⟨q, 0, none⟩) | 3 => vx = .string (mk x.proc) | 4 => vx = .string T2 | 5 => vx = .string T3 | 6 => vx = .string M2 | 7 => vx = .string T4 | 8 => vx = .string M3 | 9 => vx = .string T5 | 10 => vx = .pointer (some ⟨q, 3, none⟩) | 11 => vx = .int .i64 x.frm | 12 => vx = .string M4 | 13 => vx = .string T6 | 14 => vx = .string T7 | 15 => vx = .pointer (some ⟨q, 4, none⟩) | 16 => vx = .int .i64 x.cents | 17 => vx = .string M5 | 18 => vx = .string T8 | _ => True : Nat → Value → World → Prop)) jz vs iz vz wz hiz hz) HD.out ?_ ⟨⟨rfl, ?_⟩, ⟨rfl, ?_⟩, ⟨rfl, ?_⟩, ⟨rfl, ?_⟩, ⟨rfl, ?_⟩, ⟨rfl, ?_⟩, ⟨rfl, ?_⟩, ⟨rfl, ?_⟩, ⟨rfl, ?_⟩, ⟨rfl, ?_⟩, ⟨rfl, ?_⟩, ⟨rfl, ?_⟩, ⟨rfl, ?_⟩, ⟨rfl, ?_⟩, ⟨rfl, ?_⟩, ⟨rfl, ?_⟩, ⟨rfl, ?_⟩, ⟨rfl, ?_⟩, ⟨rfl, ?_⟩, trivial⟩ ?_
        · intro vs hvs
          intro _
          have h1 := congrArg (fun a => a.tmps[5]?.getD undef) hvs
          exact (show vs 19 = _ by kernel_rfl).trans (h1.trans (show _ = Value.string S1 by kernel_rfl))
        · intro vs Wx A lst hA hB hls hX hno hpre K hK
          have e5 := ((hA 5).trans (show _ = vs 19 by kernel_rfl)).trans (hX (hno 19 (by decide)))
          clear hA hpre
          go_simp
          first | exact hK _ _ hB rfl (fun _ _ h => h) hX | exact hK _ _ hB trivial (fun _ _ h => h) hX | (rw [if_neg (by omega)]; go_simp; exact hK _ _ hB rfl (fun _ _ h => h) hX)
        · intro vs Wx A lst hA hB hls hX hno hpre K hK
          have e36 := ((hA 36).trans (show _ = vs 0 by kernel_rfl)).trans (by first | exact hpre.1 rfl | exact hpre.2.1 rfl | exact hpre.2.2.1 rfl | exact hpre.2.2.2.1 rfl | exact hpre.2.2.2.2.1 rfl | exact hpre.2.2.2.2.2.1 rfl | exact hpre.2.2.2.2.2.2.1 rfl | exact hpre.2.2.2.2.2.2.2.1 rfl | exact hpre.2.2.2.2.2.2.2.2.1 rfl | exact hpre.2.2.2.2.2.2.2.2.2.1 rfl)
          have hT := HTT.out.1
          clear hA hpre
          go_simp
          first | exact hK _ _ hB rfl (fun _ _ h => h) hX | exact hK _ _ hB trivial (fun _ _ h => h) hX | (rw [if_neg (by omega)]; go_simp; exact hK _ _ hB rfl (fun _ _ h => h) hX)
        · intro vs Wx A lst hA hB hls hX hno hpre K hK
          have e7 := (hA 7).trans (show _ = Value.pointer (some ⟨q, 0, none⟩) by kernel_rfl)
          clear hA hpre
          go_simp
          first | exact hK _ _ hB rfl (fun _ _ h => h) hX | exact hK _ _ hB trivial (fun _ _ h => h) hX | (rw [if_neg (by omega)]; go_simp; exact hK _ _ hB rfl (fun _ _ h => h) hX)
        · intro vs Wx A lst hA hB hls hX hno hpre K hK
          have e38 := ((hA 38).trans (show _ = vs 2 by kernel_rfl)).trans (by first | exact hpre.1 rfl | exact hpre.2.1 rfl | exact hpre.2.2.1 rfl | exact hpre.2.2.2.1 rfl | exact hpre.2.2.2.2.1 rfl | exact hpre.2.2.2.2.2.1 rfl | exact hpre.2.2.2.2.2.2.1 rfl | exact hpre.2.2.2.2.2.2.2.1 rfl | exact hpre.2.2.2.2.2.2.2.2.1 rfl | exact hpre.2.2.2.2.2.2.2.2.2.1 rfl)
          obtain ⟨y0, y1, y2, y3, y4⟩ := HXK.out Wx hB
          clear hA hpre
          go_simp
          first | exact hK _ _ hB rfl (fun _ _ h => h) hX | exact hK _ _ hB trivial (fun _ _ h => h) hX | (rw [if_neg (by omega)]; go_simp; exact hK _ _ hB rfl (fun _ _ h => h) hX)
        · intro vs Wx A lst hA hB hls hX hno hpre K hK
          have e37 := ((hA 37).trans (show _ = vs 1 by kernel_rfl)).trans (by first | exact hpre.1 rfl | exact hpre.2.1 rfl | exact hpre.2.2.1 rfl | exact hpre.2.2.2.1 rfl | exact hpre.2.2.2.2.1 rfl | exact hpre.2.2.2.2.2.1 rfl | exact hpre.2.2.2.2.2.2.1 rfl | exact hpre.2.2.2.2.2.2.2.1 rfl | exact hpre.2.2.2.2.2.2.2.2.1 rfl | exact hpre.2.2.2.2.2.2.2.2.2.1 rfl)
          have e39 := ((hA 39).trans (show _ = vs 3 by kernel_rfl)).trans (by first | exact hpre.1 rfl | exact hpre.2.1 rfl | exact hpre.2.2.1 rfl | exact hpre.2.2.2.1 rfl | exact hpre.2.2.2.2.1 rfl | exact hpre.2.2.2.2.2.1 rfl | exact hpre.2.2.2.2.2.2.1 rfl | exact hpre.2.2.2.2.2.2.2.1 rfl | exact hpre.2.2.2.2.2.2.2.2.1 rfl | exact hpre.2.2.2.2.2.2.2.2.2.1 rfl)
          have hT := HTT.out.2.1
          clear hA hpre
          go_simp
          first | exact hK _ _ hB rfl (fun _ _ h => h) hX | exact hK _ _ hB trivial (fun _ _ h => h) hX | (rw [if_neg (by omega)]; go_simp; exact hK _ _ hB rfl (fun _ _ h => h) hX)
        · intro vs Wx A lst hA hB hls hX hno hpre K hK
          have e40 := ((hA 40).trans (show _ = vs 4 by kernel_rfl)).trans (by first | exact hpre.1 rfl | exact hpre.2.1 rfl | exact hpre.2.2.1 rfl | exact hpre.2.2.2.1 rfl | exact hpre.2.2.2.2.1 rfl | exact hpre.2.2.2.2.2.1 rfl | exact hpre.2.2.2.2.2.2.1 rfl | exact hpre.2.2.2.2.2.2.2.1 rfl | exact hpre.2.2.2.2.2.2.2.2.1 rfl | exact hpre.2.2.2.2.2.2.2.2.2.1 rfl)
          have hT := HTT.out.2.2.1
          clear hA hpre
          go_simp
          first | exact hK _ _ hB rfl (fun _ _ h => h) hX | exact hK _ _ hB trivial (fun _ _ h => h) hX | (rw [if_neg (by omega)]; go_simp; exact hK _ _ hB rfl (fun _ _ h => h) hX)
        · intro vs Wx A lst hA hB hls hX hno hpre K hK
          have e8 := (hA 8).trans (show _ = Value.string M2 by kernel_rfl)
          clear hA hpre
          go_simp
          first | exact hK _ _ hB rfl (fun _ _ h => h) hX | exact hK _ _ hB trivial (fun _ _ h => h) hX | (rw [if_neg (by omega)]; go_simp; exact hK _ _ hB rfl (fun _ _ h => h) hX)
        · intro vs Wx A lst hA hB hls hX hno hpre K hK
          have e41 := ((hA 41).trans (show _ = vs 5 by kernel_rfl)).trans (by first | exact hpre.1 rfl | exact hpre.2.1 rfl | exact hpre.2.2.1 rfl | exact hpre.2.2.2.1 rfl | exact hpre.2.2.2.2.1 rfl | exact hpre.2.2.2.2.2.1 rfl | exact hpre.2.2.2.2.2.2.1 rfl | exact hpre.2.2.2.2.2.2.2.1 rfl | exact hpre.2.2.2.2.2.2.2.2.1 rfl | exact hpre.2.2.2.2.2.2.2.2.2.1 rfl)
          have e42 := ((hA 42).trans (show _ = vs 6 by kernel_rfl)).trans (by first | exact hpre.1 rfl | exact hpre.2.1 rfl | exact hpre.2.2.1 rfl | exact hpre.2.2.2.1 rfl | exact hpre.2.2.2.2.1 rfl | exact hpre.2.2.2.2.2.1 rfl | exact hpre.2.2.2.2.2.2.1 rfl | exact hpre.2.2.2.2.2.2.2.1 rfl | exact hpre.2.2.2.2.2.2.2.2.1 rfl | exact hpre.2.2.2.2.2.2.2.2.2.1 rfl)
          have hT := HTT.out.2.2.2.1
          clear hA hpre
          go_simp
          first | exact hK _ _ hB rfl (fun _ _ h => h) hX | exact hK _ _ hB trivial (fun _ _ h => h) hX | (rw [if_neg (by omega)]; go_simp; exact hK _ _ hB rfl (fun _ _ h => h) hX)
        · intro vs Wx A lst hA hB hls hX hno hpre K hK
          have e9 := (hA 9).trans (show _ = Value.string M3 by kernel_rfl)
          clear hA hpre
          go_simp
          first | exact hK _ _ hB rfl (fun _ _ h => h) hX | exact hK _ _ hB trivial (fun _ _ h => h) hX | (rw [if_neg (by omega)]; go_simp; exact hK _ _ hB rfl (fun _ _ h => h) hX)
        · intro vs Wx A lst hA hB hls hX hno hpre K hK
          have e43 := ((hA 43).trans (show _ = vs 7 by kernel_rfl)).trans (by first | exact hpre.1 rfl | exact hpre.2.1 rfl | exact hpre.2.2.1 rfl | exact hpre.2.2.2.1 rfl | exact hpre.2.2.2.2.1 rfl | exact hpre.2.2.2.2.2.1 rfl | exact hpre.2.2.2.2.2.2.1 rfl | exact hpre.2.2.2.2.2.2.2.1 rfl | exact hpre.2.2.2.2.2.2.2.2.1 rfl | exact hpre.2.2.2.2.2.2.2.2.2.1 rfl)
          have e44 := ((hA 44).trans (show _ = vs 8 by kernel_rfl)).trans (by first | exact hpre.1 rfl | exact hpre.2.1 rfl | exact hpre.2.2.1 rfl | exact hpre.2.2.2.1 rfl | exact hpre.2.2.2.2.1 rfl | exact hpre.2.2.2.2.2.1 rfl | exact hpre.2.2.2.2.2.2.1 rfl | exact hpre.2.2.2.2.2.2.2.1 rfl | exact hpre.2.2.2.2.2.2.2.2.1 rfl | exact hpre.2.2.2.2.2.2.2.2.2.1 rfl)
          have hT := HTT.out.2.2.2.2.1
          clear hA hpre
          go_simp
          first | exact hK _ _ hB rfl (fun _ _ h => h) hX | exact hK _ _ hB trivial (fun _ _ h => h) hX | (rw [if_neg (by omega)]; go_simp; exact hK _ _ hB rfl (fun _ _ h => h) hX)
        · intro vs Wx A lst hA hB hls hX hno hpre K hK
          have e7 := (hA 7).trans (show _ = Value.pointer (some ⟨q, 0, none⟩) by kernel_rfl)
          clear hA hpre
          go_simp
          first | exact hK _ _ hB rfl (fun _ _ h => h) hX | exact hK _ _ hB trivial (fun _ _ h => h) hX | (rw [if_neg (by omega)]; go_simp; exact hK _ _ hB rfl (fun _ _ h => h) hX)
        · intro vs Wx A lst hA hB hls hX hno hpre K hK
          have e46 := ((hA 46).trans (show _ = vs 10 by kernel_rfl)).trans (by first | exact hpre.1 rfl | exact hpre.2.1 rfl | exact hpre.2.2.1 rfl | exact hpre.2.2.2.1 rfl | exact hpre.2.2.2.2.1 rfl | exact hpre.2.2.2.2.2.1 rfl | exact hpre.2.2.2.2.2.2.1 rfl | exact hpre.2.2.2.2.2.2.2.1 rfl | exact hpre.2.2.2.2.2.2.2.2.1 rfl | exact hpre.2.2.2.2.2.2.2.2.2.1 rfl)
          obtain ⟨y0, y1, y2, y3, y4⟩ := HXK.out Wx hB
          clear hA hpre
          go_simp
          first | exact hK _ _ hB rfl (fun _ _ h => h) hX | exact hK _ _ hB trivial (fun _ _ h => h) hX | (rw [if_neg (by omega)]; go_simp; exact hK _ _ hB rfl (fun _ _ h => h) hX)
        · intro vs Wx A lst hA hB hls hX hno hpre K hK
          have e47 := ((hA 47).trans (show _ = vs 11 by kernel_rfl)).trans (by first | exact hpre.1 rfl | exact hpre.2.1 rfl | exact hpre.2.2.1 rfl | exact hpre.2.2.2.1 rfl | exact hpre.2.2.2.2.1 rfl | exact hpre.2.2.2.2.2.1 rfl | exact hpre.2.2.2.2.2.2.1 rfl | exact hpre.2.2.2.2.2.2.2.1 rfl | exact hpre.2.2.2.2.2.2.2.2.1 rfl | exact hpre.2.2.2.2.2.2.2.2.2.1 rfl)
          clear hA hpre
          go_simp
          go_at_call 26
          refine (HIn.out Wx).mono ?_
          rintro e w3 ⟨rfl, hb3⟩
          exact hK _ _ (below_trans hB hb3) rfl (fun _ _ h => h) hX
        · intro vs Wx A lst hA hB hls hX hno hpre K hK
          have e45 := ((hA 45).trans (show _ = vs 9 by kernel_rfl)).trans (by first | exact hpre.1 rfl | exact hpre.2.1 rfl | exact hpre.2.2.1 rfl | exact hpre.2.2.2.1 rfl | exact hpre.2.2.2.2.1 rfl | exact hpre.2.2.2.2.2.1 rfl | exact hpre.2.2.2.2.2.2.1 rfl | exact hpre.2.2.2.2.2.2.2.1 rfl | exact hpre.2.2.2.2.2.2.2.2.1 rfl | exact hpre.2.2.2.2.2.2.2.2.2.1 rfl)
          have e48 := ((hA 48).trans (show _ = vs 12 by kernel_rfl)).trans (by first | exact hpre.1 rfl | exact hpre.2.1 rfl | exact hpre.2.2.1 rfl | exact hpre.2.2.2.1 rfl | exact hpre.2.2.2.2.1 rfl | exact hpre.2.2.2.2.2.1 rfl | exact hpre.2.2.2.2.2.2.1 rfl | exact hpre.2.2.2.2.2.2.2.1 rfl | exact hpre.2.2.2.2.2.2.2.2.1 rfl | exact hpre.2.2.2.2.2.2.2.2.2.1 rfl)
          have hT := HTT.out.2.2.2.2.2.1
          clear hA hpre
          go_simp
          first | exact hK _ _ hB rfl (fun _ _ h => h) hX | exact hK _ _ hB trivial (fun _ _ h => h) hX | (rw [if_neg (by omega)]; go_simp; exact hK _ _ hB rfl (fun _ _ h => h) hX)
        · intro vs Wx A lst hA hB hls hX hno hpre K hK
          have e49 := ((hA 49).trans (show _ = vs 13 by kernel_rfl)).trans (by first | exact hpre.1 rfl | exact hpre.2.1 rfl | exact hpre.2.2.1 rfl | exact hpre.2.2.2.1 rfl | exact hpre.2.2.2.2.1 rfl | exact hpre.2.2.2.2.2.1 rfl | exact hpre.2.2.2.2.2.2.1 rfl | exact hpre.2.2.2.2.2.2.2.1 rfl | exact hpre.2.2.2.2.2.2.2.2.1 rfl | exact hpre.2.2.2.2.2.2.2.2.2.1 rfl)
          have hT := HTT.out.2.2.2.2.2.2.1
          clear hA hpre
          go_simp
          first | exact hK _ _ hB rfl (fun _ _ h => h) hX | exact hK _ _ hB trivial (fun _ _ h => h) hX | (rw [if_neg (by omega)]; go_simp; exact hK _ _ hB rfl (fun _ _ h => h) hX)
        · intro vs Wx A lst hA hB hls hX hno hpre K hK
          have e7 := (hA 7).trans (show _ = Value.pointer (some ⟨q, 0, none⟩) by kernel_rfl)
          clear hA hpre
          go_simp
          first | exact hK _ _ hB rfl (fun _ _ h => h) hX | exact hK _ _ hB trivial (fun _ _ h => h) hX | (rw [if_neg (by omega)]; go_simp; exact hK _ _ hB rfl (fun _ _ h => h) hX)
        · intro vs Wx A lst hA hB hls hX hno hpre K hK
          have e51 := ((hA 51).trans (show _ = vs 15 by kernel_rfl)).trans (by first | exact hpre.1 rfl | exact hpre.2.1 rfl | exact hpre.2.2.1 rfl | exact hpre.2.2.2.1 rfl | exact hpre.2.2.2.2.1 rfl | exact hpre.2.2.2.2.2.1 rfl | exact hpre.2.2.2.2.2.2.1 rfl | exact hpre.2.2.2.2.2.2.2.1 rfl | exact hpre.2.2.2.2.2.2.2.2.1 rfl | exact hpre.2.2.2.2.2.2.2.2.2.1 rfl)
          obtain ⟨y0, y1, y2, y3, y4⟩ := HXK.out Wx hB
          clear hA hpre
          go_simp
          first | exact hK _ _ hB rfl (fun _ _ h => h) hX | exact hK _ _ hB trivial (fun _ _ h => h) hX | (rw [if_neg (by omega)]; go_simp; exact hK _ _ hB rfl (fun _ _ h => h) hX)
        · intro vs Wx A lst hA hB hls hX hno hpre K hK
          have e52 := ((hA 52).trans (show _ = vs 16 by kernel_rfl)).trans (by first | exact hpre.1 rfl | exact hpre.2.1 rfl | exact hpre.2.2.1 rfl | exact hpre.2.2.2.1 rfl | exact hpre.2.2.2.2.1 rfl | exact hpre.2.2.2.2.2.1 rfl | exact hpre.2.2.2.2.2.2.1 rfl | exact hpre.2.2.2.2.2.2.2.1 rfl | exact hpre.2.2.2.2.2.2.2.2.1 rfl | exact hpre.2.2.2.2.2.2.2.2.2.1 rfl)
          clear hA hpre
          go_simp
          go_at_call 27
          refine (HMn.out Wx).mono ?_
          rintro e w3 ⟨rfl, hb3⟩
          exact hK _ _ (below_trans hB hb3) rfl (fun _ _ h => h) hX
        · intro vs Wx A lst hA hB hls hX hno hpre K hK
          have e50 := ((hA 50).trans (show _ = vs 14 by kernel_rfl)).trans (by first | exact hpre.1 rfl | exact hpre.2.1 rfl | exact hpre.2.2.1 rfl | exact hpre.2.2.2.1 rfl | exact hpre.2.2.2.2.1 rfl | exact hpre.2.2.2.2.2.1 rfl | exact hpre.2.2.2.2.2.2.1 rfl | exact hpre.2.2.2.2.2.2.2.1 rfl | exact hpre.2.2.2.2.2.2.2.2.1 rfl | exact hpre.2.2.2.2.2.2.2.2.2.1 rfl)
          have e53 := ((hA 53).trans (show _ = vs 17 by kernel_rfl)).trans (by first | exact hpre.1 rfl | exact hpre.2.1 rfl | exact hpre.2.2.1 rfl | exact hpre.2.2.2.1 rfl | exact hpre.2.2.2.2.1 rfl | exact hpre.2.2.2.2.2.1 rfl | exact hpre.2.2.2.2.2.2.1 rfl | exact hpre.2.2.2.2.2.2.2.1 rfl | exact hpre.2.2.2.2.2.2.2.2.1 rfl | exact hpre.2.2.2.2.2.2.2.2.2.1 rfl)
          have hT := HTT.out.2.2.2.2.2.2.2
          clear hA hpre
          go_simp
          first | exact hK _ _ hB rfl (fun _ _ h => h) hX | exact hK _ _ hB trivial (fun _ _ h => h) hX | (rw [if_neg (by omega)]; go_simp; exact hK _ _ hB rfl (fun _ _ h => h) hX)
        · intro vs Wx lst hall hX hB hF
          refine fun A19 hA K19 hK19 => ?_
          have e54 := ((hA 54).trans (show _ = vs 18 by kernel_rfl)).trans (hF 18 (by decide))
          clear hA
          clear hF
          go_simp
          refine hK19 _ _ ?_
          have HBW := Lib.hid (HB2.out.trans (hB.mono (by have := HB2.out.size; have := HB1.out.size; omega)))
          clear hB hX hall
          simp only [Ri.Tail, Ri.puts]
          go_simp
          go_wp2
          go_roundg (l.length - (n + 1))
          case measure => omega
          case rel => exact ⟨n + 1, T8, by omega, rfl, by first | rfl | (go_simp; done), by first | rfl | go_num | (congr 1; omega), zN, HE8.out, HBW.out⟩
      · have hltz : ¬ (n : Int) < (l.length : Int) := by omega
        have HE : Hid (S = mk (prT l)) := by show _ = _; rw [HS.out, List.take_of_length_le (by omega)]
        clear HS
        go_wp2
        go_ret2
        exact ⟨by rw [← HE.out] <;> rfl, by first | exact HBn.out | (rw [hp]; exact HBn.out)⟩
end Go.Proofs.YtmoldgmfhcmceaaGreatDoor.Fe
end
