/-
  Texts put together (merge.py): PRPp.
-/
import Derived.Test.YtoibhgoaibjopaaGreatDoorMp32
import Derived.Test.YtoibhgoaibjopaaGreatDoorMp34
import Derived.Test.YtoibhgoaibjopaaGreatDoorMp35
/-
  A plan as a text, as the reference says: Print, as a contract. (Written by gen_rprint.py.)
-/
section
set_option linter.unusedSimpArgs false
set_option linter.unusedVariables false
set_option maxRecDepth 100000
namespace Go.Proofs.YtoibhgoaibjopaaGreatDoor.Pl
open Go.RowKit
open Wo (Wd WdsAt box_cell box_two keepB heap_far mk_cat)

theorem rules_take (l : List Ru) (j : Nat) (r : Ru) (h : l[j]? = some r) : (l.take (j + 1)).flatMap ruleW = (l.take j).flatMap ruleW ++ ruleW r := by
  rw [List.take_add_one, h]
  simp
theorem rules_sz (l : List Ru) (j : Nat) : szW ((l.take j).flatMap ruleW) ≤ szW (l.flatMap ruleW) := by
  have e : l.flatMap ruleW = (l.take j).flatMap ruleW ++ (l.drop j).flatMap ruleW := by rw [← List.flatMap_append, List.take_append_drop]
  rw [e, sz_app]
  omega
theorem rule_sz (l : List Ru) (r : Ru) (h : r ∈ l) : szW (ruleW r) ≤ szW (l.flatMap ruleW) := by
  induction l with
  | nil => cases h
  | cons x t ih =>
    rw [List.flatMap_cons, sz_app]
    rcases List.mem_cons.1 h with rfl | h
    · omega
    · have := ih h; omega
theorem cat8 (a b c d e f g h i : Tx) : mk a ++ mk b ++ mk c ++ mk d ++ mk e ++ mk f ++ mk g ++ mk h ++ mk i = mk (a ++ (b ++ (c ++ (d ++ (e ++ (f ++ (g ++ (h ++ i)))))))) := by
  simp only [mk_cat, List.append_assoc]
/-- What has been written behind so many rules. -/
def hdT (p : Pn) : Tx := joinC 32 (headW p)
theorem hd_size (p : Pn) : (hdT p).length ≤ szW (headW p) := join_size _
theorem prT_bl (p : Pn) : prT p = hdT p ++ bl (p.rules.flatMap ruleW) := by
  unfold prT planW hdT headW
  rw [List.cons_append, join_bl, join_bl, bl_app, List.append_assoc]
set_option maxHeartbeats 16000000 in
theorem rprint_any (p : Pn) (m : Value) (w : World) (h : RusAt All w m p.rules) (hok : PnOk p) (hsz : planB p = true → szW (planW p) ≤ 65536) :
    Calls Tryz.prog 8 #[pnv p m] w fun e w' => e = .returned (.tuple #[.string (mk (prV p)), .int .i64 (prE p)]) ∧ Below w.heap.size w w' := by
  have hb := below_alloc w (.cells #[.int .i64 p.mode, .int .i64 p.indDed, .int .i64 p.famDed, .int .i64 p.indOop, .int .i64 p.famOop, m] 24)
  have HB := Lib.hid hb
  have HX := Lib.hid (heap_alloc_new w (.cells #[.int .i64 p.mode, .int .i64 p.indDed, .int .i64 p.famDed, .int .i64 p.indOop, .int .i64 p.famOop, m] 24))
  have HRu := Lib.hid (h.grw hb)
  have HCk := Lib.hid (rcheck_any p m _ (h.grw hb))
  obtain ⟨ma, mc, rfl, hm1, hm2, hm3⟩ := h.form
  have hm3 : p.rules.length ≤ 281474976710656 := hm3
  obtain ⟨x0, x1, x2, x3, x4, x5⟩ := bsix HX.out
  by_cases hp : planB p = true
  case neg =>
    have hc : checkE p = 15 := by unfold checkE; rw [if_neg hp]
    have hE : prE p = 15 := by unfold prE; rw [if_neg hp]
    have hV : prV p = [] := by unfold prV; rw [hE]; rfl
    rw [hc] at HCk
    rw [hE, hV]
    clear hc hE hV hp hsz hb h
    go_enter Tryz.func8, Tryz.ntmps8
    go_wp2_with (go_at_call 9; refine HCk.out.mono ?_; rintro e w1 ⟨rfl, hb1⟩; have HB1 := Lib.hid (below_trans HB.out hb1); clear hb1)
    go_ret2
    exact ⟨rfl, HB1.out⟩
  have hs := hsz hp
  have hc : checkE p = 0 := by unfold checkE; rw [if_pos hp]
  rw [hc] at HCk
  have eT := prT_bl p
  have ePW : planW p = headW p ++ p.rules.flatMap ruleW := rfl
  rw [ePW, sz_app] at hs
  have hTl : (prT p).length ≤ 65536 := by rw [eT, List.length_append, bl_len]; have h1 : (hdT p).length ≤ szW (headW p) := hd_size p; omega
  have hE : prE p = 0 := by unfold prE; rw [if_pos hp, if_neg (by omega)]
  have hV : prV p = prT p := by unfold prV; rw [if_pos hE]
  rw [hE, hV]
  have HRB : Hid (∀ r ∈ p.rules, ruleB r = true) := by
    have h := hp
    unfold planB at h
    simp only [Bool.and_eq_true, List.all_eq_true] at h
    exact h.2.2.2
  obtain ⟨-, i1, i2, i3, i4⟩ := hok
  have HM1 := Lib.hid fun W => rmon_any p.indDed i1 W
  have HM2 := Lib.hid fun W => rmon_any p.indOop i3 W
  have HM3 := Lib.hid fun W => rmon_any p.famDed i2 W
  have HM4 := Lib.hid fun W => rmon_any p.famOop i4 W
  have zz : ∀ t ∈ headW p, (mk t).size ≤ 65536 := fun t ht => by rw [mk_size]; have h1 : t.length ≤ szW (headW p) := mem_sz _ t ht; omega
  have z1 := zz (Nu.moneyL p.indDed) (by simp [headW])
  have z2 := zz (Nu.moneyL p.indOop) (by simp [headW])
  have z3 := zz (Nu.moneyL p.famDed) (by simp [headW])
  have z4 := zz (Nu.moneyL p.famOop) (by simp [headW])
  have HSZ : Hid (∀ j, (hdT p ++ bl ((p.rules.take j).flatMap ruleW)).length ≤ 65536) := fun j => by
    rw [List.length_append, bl_len]
    have h1 : (hdT p).length ≤ szW (headW p) := hd_size p
    have h2 : szW ((p.rules.take j).flatMap ruleW) ≤ szW (p.rules.flatMap ruleW) := rules_sz p.rules j
    omega
  have HRS : Hid (∀ r ∈ p.rules, szW (ruleW r) ≤ 65536) := fun r hr => by have h1 : szW (ruleW r) ≤ szW (p.rules.flatMap ruleW) := rule_sz p.rules r hr; omega
  have HT := Lib.hid eT
  obtain ⟨S0, hS0⟩ : ∃ S0 : ByteArray, S0 = mk (tPlan ++ 32 :: (if p.mode = 1 then tAgg else tEmb)) := ⟨_, rfl⟩
  have zS0 : S0.size ≤ 20 := by rw [hS0, mk_size]; split <;> decide
  have HE1 : Hid (S0 ++ ⟨#[32, 109, 101, 109, 98, 101, 114, 32]⟩ ++ mk (Nu.moneyL p.indDed) ++ ⟨#[32]⟩ ++ mk (Nu.moneyL p.indOop) ++ ⟨#[32, 102, 97, 109, 105, 108, 121, 32]⟩ ++ mk (Nu.moneyL p.famDed) ++ ⟨#[32]⟩ ++ mk (Nu.moneyL p.famOop) = mk (hdT p)) := by
    show _ = _
    rw [hS0]
    refine (cat8 _ [32, 109, 101, 109, 98, 101, 114, 32] _ [32] _ [32, 102, 97, 109, 105, 108, 121, 32] _ [32] _).trans ?_
    unfold hdT headW
    rw [join_bl]
    simp [bl, tMem, tFam]
  have zH : (mk (hdT p)).size ≤ 65536 := by rw [mk_size]; have h1 : (hdT p).length ≤ szW (headW p) := hd_size p; omega
  have HS0 := Lib.hid hS0
  clear hb h hsz hs hc hE hV eT ePW hTl hp i1 i2 i3 i4 zz hS0
  generalize mk (Nu.moneyL p.indDed) = M1 at *
  generalize mk (Nu.moneyL p.indOop) = M2 at *
  generalize mk (Nu.moneyL p.famDed) = M3 at *
  generalize mk (Nu.moneyL p.famOop) = M4 at *
  obtain ⟨HD0, hHD0⟩ : ∃ HD0, HD0 = mk (hdT p) := ⟨_, rfl⟩
  rw [← hHD0] at HE1 zH
  have HHD := Lib.hid hHD0
  clear hHD0
  go_enter Tryz.func8, Tryz.ntmps8
  go_wp2_with fail
  go_at_call 9
  refine HCk.out.mono ?_
  rintro e w1 ⟨rfl, hb1⟩
  have HB1 := Lib.hid (below_trans HB.out hb1)
  have HX1 := Lib.hid (keepB HX.out hb1)
  have HR1 := Lib.hid (HRu.out.grw hb1)
  generalize hq : w.heap.size = q at *
  clear x0 x1 x2 x3 x4 x5 hb1 HB HX HRu HCk
  obtain ⟨x0, x1, x2, x3, x4, x5⟩ := bsix HX1.out
  go_upto_if 14 with fail
  go_cut [5] (fun s5 wx => s5 = .string S0 ∧ wx = w1)
  case first =>
    by_cases hmo : p.mode = 1
    · have HS9 : Hid (S0 = ⟨#[112, 108, 97, 110, 32, 97, 103, 103, 114, 101, 103, 97, 116, 101]⟩) := by show _ = _; rw [HS0.out, if_pos hmo]; rfl
      have b1 : (p.mode == 1) = true := by simpa using hmo
      clear hmo
      go_wp2
      go_meet
      exact ⟨by rw [HS9.out] <;> rfl, rfl⟩
    · have HS9 : Hid (S0 = ⟨#[112, 108, 97, 110, 32, 101, 109, 98, 101, 100, 100, 101, 100]⟩) := by show _ = _; rw [HS0.out, if_neg hmo]; rfl
      have b1 : (p.mode == 1) = false := by simpa using hmo
      clear hmo
      go_wp2
      go_meet
      exact ⟨by rw [HS9.out] <;> rfl, rfl⟩
  case rest =>
    obtain ⟨rfl, rfl⟩ := hcut
    obtain ⟨W0, hW0⟩ : ∃ x, x = wc := ⟨_, rfl⟩
    subst hW0
    have HXK := Lib.hid fun W (hW : Below W0.heap.size W0 W) => bsix (keepB HX1.out hW)
    have HD := Lib.hid (Below.drew (Below.refl W0.heap.size W0))
    clear x0 x1 x2 x3 x4 x5
    go_upto_region 7 with fail
    go_cut [5] (fun s5 wx => s5 = .string HD0 ∧ Hid (Below W0.heap.size W0 wx))
    case first =>
      obtain ⟨T1, hT1⟩ : ∃ t : ByteArray, S0 ++ ⟨#[32, 109, 101, 109, 98, 101, 114, 32]⟩ = t := ⟨_, rfl⟩
      have zT1 : T1.size ≤ 65556 := by rw [← hT1, ByteArray.size_append]; first | omega | (have hz : ((⟨#[32, 109, 101, 109, 98, 101, 114, 32]⟩ : ByteArray)).size = 8 := rfl; omega)
      obtain ⟨T2, hT2⟩ : ∃ t : ByteArray, T1 ++ M1 = t := ⟨_, rfl⟩
      have zT2 : T2.size ≤ 131092 := by rw [← hT2, ByteArray.size_append]; first | omega | (have hz : ((M1 : ByteArray)).size = 0 := rfl; omega)
      obtain ⟨T3, hT3⟩ : ∃ t : ByteArray, T2 ++ ⟨#[32]⟩ = t := ⟨_, rfl⟩
      have zT3 : T3.size ≤ 196628 := by rw [← hT3, ByteArray.size_append]; first | omega | (have hz : ((⟨#[32]⟩ : ByteArray)).size = 1 := rfl; omega)
      obtain ⟨T4, hT4⟩ : ∃ t : ByteArray, T3 ++ M2 = t := ⟨_, rfl⟩
      have zT4 : T4.size ≤ 262164 := by rw [← hT4, ByteArray.size_append]; first | omega | (have hz : ((M2 : ByteArray)).size = 0 := rfl; omega)
      obtain ⟨T5, hT5⟩ : ∃ t : ByteArray, T4 ++ ⟨#[32, 102, 97, 109, 105, 108, 121, 32]⟩ = t := ⟨_, rfl⟩
      have zT5 : T5.size ≤ 327700 := by rw [← hT5, ByteArray.size_append]; first | omega | (have hz : ((⟨#[32, 102, 97, 109, 105, 108, 121, 32]⟩ : ByteArray)).size = 8 := rfl; omega)
      obtain ⟨T6, hT6⟩ : ∃ t : ByteArray, T5 ++ M3 = t := ⟨_, rfl⟩
      have zT6 : T6.size ≤ 393236 := by rw [← hT6, ByteArray.size_append]; first | omega | (have hz : ((M3 : ByteArray)).size = 0 := rfl; omega)
      obtain ⟨T7, hT7⟩ : ∃ t : ByteArray, T6 ++ ⟨#[32]⟩ = t := ⟨_, rfl⟩
      have zT7 : T7.size ≤ 458772 := by rw [← hT7, ByteArray.size_append]; first | omega | (have hz : ((⟨#[32]⟩ : ByteArray)).size = 1 := rfl; omega)
      obtain ⟨T8, hT8⟩ : ∃ t : ByteArray, T7 ++ M4 = t := ⟨_, rfl⟩
      have zT8 : T8.size ≤ 524308 := by rw [← hT8, ByteArray.size_append]; first | omega | (have hz : ((M4 : ByteArray)).size = 0 := rfl; omega)
      have HTT := Lib.hid (And.intro hT1 (And.intro hT2 (And.intro hT3 (And.intro hT4 (And.intro hT5 (And.intro hT6 (And.intro hT7 hT8)))))))
      have HE8 : Hid (T8 = HD0) := by show _ = _; rw [← HE1.out, ← hT8, ← hT7, ← hT6, ← hT5, ← hT4, ← hT3, ← hT2, ← hT1]
      clear hT1 hT2 hT3 hT4 hT5 hT6 hT7 hT8 HE1
      refine Ri.wp_region_tailX 21 (by kernel_rfl) (by kernel_rfl) (by kernel_rfl) (by decide) (by kernel_rfl) (fun Wx => Below W0.heap.size W0 Wx) (fun kz vs wz => (fun kx vx wx => match kx with | 0 => vx = .string S0 | 1 => vx = .string T1 | 2 => vx = .pointer (some ⟨q, 1, none⟩) | 3 => vx = .int .i64 p.indDed | 4 => vx = .string M1 | 5 => vx = .string T2 | 6 => vx = .string T3 | 7 => vx = .pointer (some ⟨q, 3, none⟩) | 8 => vx = .int .i64 p.indOop | 9 => vx = .string M2 | 10 => vx = .string T4 | 11 => vx = .string T5 | 12 => vx = .pointer (some ⟨q, 2, none⟩) | 13 => vx = .int .i64 p.famDed | 14 => vx = .string M3 | 15 => vx = .string T6 | 16 => vx = .string T7 | 17 => vx = .pointer (some ⟨q, 4, none⟩) | 18 => vx = .int .i64 p.famOop | 19 => vx = .string M4 | 20 => vx = .string T8 | _ => True : Nat → Value → World → Prop) kz (vs kz) wz) (fun lst vs => lst 21 = false → vs 21 = .string S0) (fun kz => [kz]) (by kernel_rfl) (fun jz vs iz vz wz hiz hz => Ri.loc_own (F := (fun kx vx wx => match kx with | 0 => vx = .string S0 | 1 => vx = .string T1 | 2 => vx = .pointer (some ⟨q, 1, none⟩) | 3 => vx = .int .i64 p.indDed | 4 => vx = .string M1 | 5 => vx = .string T2 | 6 => vx = .string T3 | 7 => vx = .pointer (some ⟨q, 3, none⟩) | 8 => vx = .int .i64 p.indOop | 9 => vx = .string M2 | 10 => vx = .string T4 | 11 => vx = .string T5 | 12 => vx = .pointer (some ⟨q, 2, none⟩) | 13 => vx = .int .i64 p.famDed | 14 => vx = .string M3 | 15 => vx = .string T6 | 16 => vx = .string T7 | 17 => vx = .pointer (some ⟨q, 4, none⟩) | 18 => vx = .int .i64 p.famOop | 19 => vx = .string M4 | 20 => vx = .string T8 | _ => True : Nat → Value → World → Prop)) jz vs iz vz wz hiz hz) HD.out ?_ ⟨⟨rfl, ?_⟩, ⟨rfl, ?_⟩, ⟨rfl, ?_⟩, ⟨rfl, ?_⟩, ⟨rfl, ?_⟩, ⟨rfl, ?_⟩, ⟨rfl, ?_⟩, ⟨rfl, ?_⟩, ⟨rfl, ?_⟩, ⟨rfl, ?_⟩, ⟨rfl, ?_⟩, ⟨rfl, ?_⟩, ⟨rfl, ?_⟩, ⟨rfl, ?_⟩, ⟨rfl, ?_⟩, ⟨rfl, ?_⟩, ⟨rfl, ?_⟩, ⟨rfl, ?_⟩, ⟨rfl, ?_⟩, ⟨rfl, ?_⟩, ⟨rfl, ?_⟩, trivial⟩ ?_
      · intro vs hvs
        intro _
        have h1 := congrArg (fun a => a.tmps[5]?.getD undef) hvs
        exact (show vs 21 = _ by kernel_rfl).trans (h1.trans (show _ = Value.string S0 by kernel_rfl))
      · intro vs Wx A lst hA hB hls hX hno hpre K hK
        have e5 := ((hA 5).trans (show _ = vs 21 by kernel_rfl)).trans (hX (hno 21 (by decide)))
        clear hA hpre
        go_simp
        first | exact hK _ _ hB rfl (fun _ _ h => h) hX | exact hK _ _ hB trivial (fun _ _ h => h) hX | (rw [if_neg (by omega)]; go_simp; exact hK _ _ hB rfl (fun _ _ h => h) hX)
      · intro vs Wx A lst hA hB hls hX hno hpre K hK
        have e15 := ((hA 15).trans (show _ = vs 0 by kernel_rfl)).trans (by first | exact hpre.1 rfl | exact hpre.2.1 rfl | exact hpre.2.2.1 rfl | exact hpre.2.2.2.1 rfl | exact hpre.2.2.2.2.1 rfl | exact hpre.2.2.2.2.2.1 rfl | exact hpre.2.2.2.2.2.2.1 rfl | exact hpre.2.2.2.2.2.2.2.1 rfl | exact hpre.2.2.2.2.2.2.2.2.1 rfl | exact hpre.2.2.2.2.2.2.2.2.2.1 rfl)
        have hT := HTT.out.1
        clear hA hpre
        go_simp
        first | exact hK _ _ hB rfl (fun _ _ h => h) hX | exact hK _ _ hB trivial (fun _ _ h => h) hX | (rw [if_neg (by omega)]; go_simp; exact hK _ _ hB rfl (fun _ _ h => h) hX)
      · intro vs Wx A lst hA hB hls hX hno hpre K hK
        have e1 := (hA 1).trans (show _ = Value.pointer (some ⟨q, 0, none⟩) by kernel_rfl)
        clear hA hpre
        go_simp
        first | exact hK _ _ hB rfl (fun _ _ h => h) hX | exact hK _ _ hB trivial (fun _ _ h => h) hX | (rw [if_neg (by omega)]; go_simp; exact hK _ _ hB rfl (fun _ _ h => h) hX)
      · intro vs Wx A lst hA hB hls hX hno hpre K hK
        have e17 := ((hA 17).trans (show _ = vs 2 by kernel_rfl)).trans (by first | exact hpre.1 rfl | exact hpre.2.1 rfl | exact hpre.2.2.1 rfl | exact hpre.2.2.2.1 rfl | exact hpre.2.2.2.2.1 rfl | exact hpre.2.2.2.2.2.1 rfl | exact hpre.2.2.2.2.2.2.1 rfl | exact hpre.2.2.2.2.2.2.2.1 rfl | exact hpre.2.2.2.2.2.2.2.2.1 rfl | exact hpre.2.2.2.2.2.2.2.2.2.1 rfl)
        obtain ⟨y0, y1, y2, y3, y4, y5⟩ := HXK.out Wx hB
        clear hA hpre
        go_simp
        first | exact hK _ _ hB rfl (fun _ _ h => h) hX | exact hK _ _ hB trivial (fun _ _ h => h) hX | (rw [if_neg (by omega)]; go_simp; exact hK _ _ hB rfl (fun _ _ h => h) hX)
      · intro vs Wx A lst hA hB hls hX hno hpre K hK
        have e18 := ((hA 18).trans (show _ = vs 3 by kernel_rfl)).trans (by first | exact hpre.1 rfl | exact hpre.2.1 rfl | exact hpre.2.2.1 rfl | exact hpre.2.2.2.1 rfl | exact hpre.2.2.2.2.1 rfl | exact hpre.2.2.2.2.2.1 rfl | exact hpre.2.2.2.2.2.2.1 rfl | exact hpre.2.2.2.2.2.2.2.1 rfl | exact hpre.2.2.2.2.2.2.2.2.1 rfl | exact hpre.2.2.2.2.2.2.2.2.2.1 rfl)
        clear hA hpre
        go_simp
        go_at_call 18
        refine (HM1.out Wx).mono ?_
        rintro e w3 ⟨rfl, hb3⟩
        exact hK _ _ (below_trans hB hb3) rfl (fun _ _ h => h) hX
      · intro vs Wx A lst hA hB hls hX hno hpre K hK
        have e16 := ((hA 16).trans (show _ = vs 1 by kernel_rfl)).trans (by first | exact hpre.1 rfl | exact hpre.2.1 rfl | exact hpre.2.2.1 rfl | exact hpre.2.2.2.1 rfl | exact hpre.2.2.2.2.1 rfl | exact hpre.2.2.2.2.2.1 rfl | exact hpre.2.2.2.2.2.2.1 rfl | exact hpre.2.2.2.2.2.2.2.1 rfl | exact hpre.2.2.2.2.2.2.2.2.1 rfl | exact hpre.2.2.2.2.2.2.2.2.2.1 rfl)
        have e19 := ((hA 19).trans (show _ = vs 4 by kernel_rfl)).trans (by first | exact hpre.1 rfl | exact hpre.2.1 rfl | exact hpre.2.2.1 rfl | exact hpre.2.2.2.1 rfl | exact hpre.2.2.2.2.1 rfl | exact hpre.2.2.2.2.2.1 rfl | exact hpre.2.2.2.2.2.2.1 rfl | exact hpre.2.2.2.2.2.2.2.1 rfl | exact hpre.2.2.2.2.2.2.2.2.1 rfl | exact hpre.2.2.2.2.2.2.2.2.2.1 rfl)
        have hT := HTT.out.2.1
        clear hA hpre
        go_simp
        first | exact hK _ _ hB rfl (fun _ _ h => h) hX | exact hK _ _ hB trivial (fun _ _ h => h) hX | (rw [if_neg (by omega)]; go_simp; exact hK _ _ hB rfl (fun _ _ h => h) hX)
      · intro vs Wx A lst hA hB hls hX hno hpre K hK
        have e20 := ((hA 20).trans (show _ = vs 5 by kernel_rfl)).trans (by first | exact hpre.1 rfl | exact hpre.2.1 rfl | exact hpre.2.2.1 rfl | exact hpre.2.2.2.1 rfl | exact hpre.2.2.2.2.1 rfl | exact hpre.2.2.2.2.2.1 rfl | exact hpre.2.2.2.2.2.2.1 rfl | exact hpre.2.2.2.2.2.2.2.1 rfl | exact hpre.2.2.2.2.2.2.2.2.1 rfl | exact hpre.2.2.2.2.2.2.2.2.2.1 rfl)
        have hT := HTT.out.2.2.1
        clear hA hpre
        go_simp
        first | exact hK _ _ hB rfl (fun _ _ h => h) hX | exact hK _ _ hB trivial (fun _ _ h => h) hX | (rw [if_neg (by omega)]; go_simp; exact hK _ _ hB rfl (fun _ _ h => h) hX)
      · intro vs Wx A lst hA hB hls hX hno hpre K hK
        have e1 := (hA 1).trans (show _ = Value.pointer (some ⟨q, 0, none⟩) by kernel_rfl)
        clear hA hpre
        go_simp
        first | exact hK _ _ hB rfl (fun _ _ h => h) hX | exact hK _ _ hB trivial (fun _ _ h => h) hX | (rw [if_neg (by omega)]; go_simp; exact hK _ _ hB rfl (fun _ _ h => h) hX)
      · intro vs Wx A lst hA hB hls hX hno hpre K hK
        have e22 := ((hA 22).trans (show _ = vs 7 by kernel_rfl)).trans (by first | exact hpre.1 rfl | exact hpre.2.1 rfl | exact hpre.2.2.1 rfl | exact hpre.2.2.2.1 rfl | exact hpre.2.2.2.2.1 rfl | exact hpre.2.2.2.2.2.1 rfl | exact hpre.2.2.2.2.2.2.1 rfl | exact hpre.2.2.2.2.2.2.2.1 rfl | exact hpre.2.2.2.2.2.2.2.2.1 rfl | exact hpre.2.2.2.2.2.2.2.2.2.1 rfl)
        obtain ⟨y0, y1, y2, y3, y4, y5⟩ := HXK.out Wx hB
        clear hA hpre
        go_simp
        first | exact hK _ _ hB rfl (fun _ _ h => h) hX | exact hK _ _ hB trivial (fun _ _ h => h) hX | (rw [if_neg (by omega)]; go_simp; exact hK _ _ hB rfl (fun _ _ h => h) hX)
      · intro vs Wx A lst hA hB hls hX hno hpre K hK
        have e23 := ((hA 23).trans (show _ = vs 8 by kernel_rfl)).trans (by first | exact hpre.1 rfl | exact hpre.2.1 rfl | exact hpre.2.2.1 rfl | exact hpre.2.2.2.1 rfl | exact hpre.2.2.2.2.1 rfl | exact hpre.2.2.2.2.2.1 rfl | exact hpre.2.2.2.2.2.2.1 rfl | exact hpre.2.2.2.2.2.2.2.1 rfl | exact hpre.2.2.2.2.2.2.2.2.1 rfl | exact hpre.2.2.2.2.2.2.2.2.2.1 rfl)
        clear hA hpre
        go_simp
        go_at_call 18
        refine (HM2.out Wx).mono ?_
        rintro e w3 ⟨rfl, hb3⟩
        exact hK _ _ (below_trans hB hb3) rfl (fun _ _ h => h) hX
      · intro vs Wx A lst hA hB hls hX hno hpre K hK
        have e21 := ((hA 21).trans (show _ = vs 6 by kernel_rfl)).trans (by first | exact hpre.1 rfl | exact hpre.2.1 rfl | exact hpre.2.2.1 rfl | exact hpre.2.2.2.1 rfl | exact hpre.2.2.2.2.1 rfl | exact hpre.2.2.2.2.2.1 rfl | exact hpre.2.2.2.2.2.2.1 rfl | exact hpre.2.2.2.2.2.2.2.1 rfl | exact hpre.2.2.2.2.2.2.2.2.1 rfl | exact hpre.2.2.2.2.2.2.2.2.2.1 rfl)
        have e24 := ((hA 24).trans (show _ = vs 9 by kernel_rfl)).trans (by first | exact hpre.1 rfl | exact hpre.2.1 rfl | exact hpre.2.2.1 rfl | exact hpre.2.2.2.1 rfl | exact hpre.2.2.2.2.1 rfl | exact hpre.2.2.2.2.2.1 rfl | exact hpre.2.2.2.2.2.2.1 rfl | exact hpre.2.2.2.2.2.2.2.1 rfl | exact hpre.2.2.2.2.2.2.2.2.1 rfl | exact hpre.2.2.2.2.2.2.2.2.2.1 rfl)
        have hT := HTT.out.2.2.2.1
        clear hA hpre
        go_simp
        first | exact hK _ _ hB rfl (fun _ _ h => h) hX | exact hK _ _ hB trivial (fun _ _ h => h) hX | (rw [if_neg (by omega)]; go_simp; exact hK _ _ hB rfl (fun _ _ h => h) hX)
      · intro vs Wx A lst hA hB hls hX hno hpre K hK
        have e25 := ((hA 25).trans (show _ = vs 10 by kernel_rfl)).trans (by first | exact hpre.1 rfl | exact hpre.2.1 rfl | exact hpre.2.2.1 rfl | exact hpre.2.2.2.1 rfl | exact hpre.2.2.2.2.1 rfl | exact hpre.2.2.2.2.2.1 rfl | exact hpre.2.2.2.2.2.2.1 rfl | exact hpre.2.2.2.2.2.2.2.1 rfl | exact hpre.2.2.2.2.2.2.2.2.1 rfl | exact hpre.2.2.2.2.2.2.2.2.2.1 rfl)
        have hT := HTT.out.2.2.2.2.1
        clear hA hpre
        go_simp
        first | exact hK _ _ hB rfl (fun _ _ h => h) hX | exact hK _ _ hB trivial (fun _ _ h => h) hX | (rw [if_neg (by omega)]; go_simp; exact hK _ _ hB rfl (fun _ _ h => h) hX)
      · intro vs Wx A lst hA hB hls hX hno hpre K hK
        have e1 := (hA 1).trans (show _ = Value.pointer (some ⟨q, 0, none⟩) by kernel_rfl)
        clear hA hpre
        go_simp
        first | exact hK _ _ hB rfl (fun _ _ h => h) hX | exact hK _ _ hB trivial (fun _ _ h => h) hX | (rw [if_neg (by omega)]; go_simp; exact hK _ _ hB rfl (fun _ _ h => h) hX)
      · intro vs Wx A lst hA hB hls hX hno hpre K hK
        have e27 := ((hA 27).trans (show _ = vs 12 by kernel_rfl)).trans (by first | exact hpre.1 rfl | exact hpre.2.1 rfl | exact hpre.2.2.1 rfl | exact hpre.2.2.2.1 rfl | exact hpre.2.2.2.2.1 rfl | exact hpre.2.2.2.2.2.1 rfl | exact hpre.2.2.2.2.2.2.1 rfl | exact hpre.2.2.2.2.2.2.2.1 rfl | exact hpre.2.2.2.2.2.2.2.2.1 rfl | exact hpre.2.2.2.2.2.2.2.2.2.1 rfl)
        obtain ⟨y0, y1, y2, y3, y4, y5⟩ := HXK.out Wx hB
        clear hA hpre
        go_simp
        first | exact hK _ _ hB rfl (fun _ _ h => h) hX | exact hK _ _ hB trivial (fun _ _ h => h) hX | (rw [if_neg (by omega)]; go_simp; exact hK _ _ hB rfl (fun _ _ h => h) hX)
      · intro vs Wx A lst hA hB hls hX hno hpre K hK
        have e28 := ((hA 28).trans (show _ = vs 13 by kernel_rfl)).trans (by first | exact hpre.1 rfl | exact hpre.2.1 rfl | exact hpre.2.2.1 rfl | exact hpre.2.2.2.1 rfl | exact hpre.2.2.2.2.1 rfl | exact hpre.2.2.2.2.2.1 rfl | exact hpre.2.2.2.2.2.2.1 rfl | exact hpre.2.2.2.2.2.2.2.1 rfl | exact hpre.2.2.2.2.2.2.2.2.1 rfl | exact hpre.2.2.2.2.2.2.2.2.2.1 rfl)
        clear hA hpre
        go_simp
        go_at_call 18
        refine (HM3.out Wx).mono ?_
        rintro e w3 ⟨rfl, hb3⟩
        exact hK _ _ (below_trans hB hb3) rfl (fun _ _ h => h) hX
      · intro vs Wx A lst hA hB hls hX hno hpre K hK
        have e26 := ((hA 26).trans (show _ = vs 11 by kernel_rfl)).trans (by first | exact hpre.1 rfl | exact hpre.2.1 rfl | exact hpre.2.2.1 rfl | exact hpre.2.2.2.1 rfl | exact hpre.2.2.2.2.1 rfl | exact hpre.2.2.2.2.2.1 rfl | exact hpre.2.2.2.2.2.2.1 rfl | exact hpre.2.2.2.2.2.2.2.1 rfl | exact hpre.2.2.2.2.2.2.2.2.1 rfl | exact hpre.2.2.2.2.2.2.2.2.2.1 rfl)
        have e29 := ((hA 29).trans (show _ = vs 14 by kernel_rfl)).trans (by first | exact hpre.1 rfl | exact hpre.2.1 rfl | exact hpre.2.2.1 rfl | exact hpre.2.2.2.1 rfl | exact hpre.2.2.2.2.1 rfl | exact hpre.2.2.2.2.2.1 rfl | exact hpre.2.2.2.2.2.2.1 rfl | exact hpre.2.2.2.2.2.2.2.1 rfl | exact hpre.2.2.2.2.2.2.2.2.1 rfl | exact hpre.2.2.2.2.2.2.2.2.2.1 rfl)
        have hT := HTT.out.2.2.2.2.2.1
        clear hA hpre
        go_simp
        first | exact hK _ _ hB rfl (fun _ _ h => h) hX | exact hK _ _ hB trivial (fun _ _ h => h) hX | (rw [if_neg (by omega)]; go_simp; exact hK _ _ hB rfl (fun _ _ h => h) hX)
      · intro vs Wx A lst hA hB hls hX hno hpre K hK
        have e30 := ((hA 30).trans (show _ = vs 15 by kernel_rfl)).trans (by first | exact hpre.1 rfl | exact hpre.2.1 rfl | exact hpre.2.2.1 rfl | exact hpre.2.2.2.1 rfl | exact hpre.2.2.2.2.1 rfl | exact hpre.2.2.2.2.2.1 rfl | exact hpre.2.2.2.2.2.2.1 rfl | exact hpre.2.2.2.2.2.2.2.1 rfl | exact hpre.2.2.2.2.2.2.2.2.1 rfl | exact hpre.2.2.2.2.2.2.2.2.2.1 rfl)
        have hT := HTT.out.2.2.2.2.2.2.1
        clear hA hpre
        go_simp
        first | exact hK _ _ hB rfl (fun _ _ h => h) hX | exact hK _ _ hB trivial (fun _ _ h => h) hX | (rw [if_neg (by omega)]; go_simp; exact hK _ _ hB rfl (fun _ _ h => h) hX)
      · intro vs Wx A lst hA hB hls hX hno hpre K hK
        have e1 := (hA 1).trans (show _ = Value.pointer (some ⟨q, 0, none⟩) by kernel_rfl)
        clear hA hpre
        go_simp
        first | exact hK _ _ hB rfl (fun _ _ h => h) hX | exact hK _ _ hB trivial (fun _ _ h => h) hX | (rw [if_neg (by omega)]; go_simp; exact hK _ _ hB rfl (fun _ _ h => h) hX)
      · intro vs Wx A lst hA hB hls hX hno hpre K hK
        have e32 := ((hA 32).trans (show _ = vs 17 by kernel_rfl)).trans (by first | exact hpre.1 rfl | exact hpre.2.1 rfl | exact hpre.2.2.1 rfl | exact hpre.2.2.2.1 rfl | exact hpre.2.2.2.2.1 rfl | exact hpre.2.2.2.2.2.1 rfl | exact hpre.2.2.2.2.2.2.1 rfl | exact hpre.2.2.2.2.2.2.2.1 rfl | exact hpre.2.2.2.2.2.2.2.2.1 rfl | exact hpre.2.2.2.2.2.2.2.2.2.1 rfl)
        obtain ⟨y0, y1, y2, y3, y4, y5⟩ := HXK.out Wx hB
        clear hA hpre
        go_simp
        first | exact hK _ _ hB rfl (fun _ _ h => h) hX | exact hK _ _ hB trivial (fun _ _ h => h) hX | (rw [if_neg (by omega)]; go_simp; exact hK _ _ hB rfl (fun _ _ h => h) hX)
      · intro vs Wx A lst hA hB hls hX hno hpre K hK
        have e33 := ((hA 33).trans (show _ = vs 18 by kernel_rfl)).trans (by first | exact hpre.1 rfl | exact hpre.2.1 rfl | exact hpre.2.2.1 rfl | exact hpre.2.2.2.1 rfl | exact hpre.2.2.2.2.1 rfl | exact hpre.2.2.2.2.2.1 rfl | exact hpre.2.2.2.2.2.2.1 rfl | exact hpre.2.2.2.2.2.2.2.1 rfl | exact hpre.2.2.2.2.2.2.2.2.1 rfl | exact hpre.2.2.2.2.2.2.2.2.2.1 rfl)
        clear hA hpre
        go_simp
        go_at_call 18
        refine (HM4.out Wx).mono ?_
        rintro e w3 ⟨rfl, hb3⟩
        exact hK _ _ (below_trans hB hb3) rfl (fun _ _ h => h) hX
      · intro vs Wx A lst hA hB hls hX hno hpre K hK
        have e31 := ((hA 31).trans (show _ = vs 16 by kernel_rfl)).trans (by first | exact hpre.1 rfl | exact hpre.2.1 rfl | exact hpre.2.2.1 rfl | exact hpre.2.2.2.1 rfl | exact hpre.2.2.2.2.1 rfl | exact hpre.2.2.2.2.2.1 rfl | exact hpre.2.2.2.2.2.2.1 rfl | exact hpre.2.2.2.2.2.2.2.1 rfl | exact hpre.2.2.2.2.2.2.2.2.1 rfl | exact hpre.2.2.2.2.2.2.2.2.2.1 rfl)
        have e34 := ((hA 34).trans (show _ = vs 19 by kernel_rfl)).trans (by first | exact hpre.1 rfl | exact hpre.2.1 rfl | exact hpre.2.2.1 rfl | exact hpre.2.2.2.1 rfl | exact hpre.2.2.2.2.1 rfl | exact hpre.2.2.2.2.2.1 rfl | exact hpre.2.2.2.2.2.2.1 rfl | exact hpre.2.2.2.2.2.2.2.1 rfl | exact hpre.2.2.2.2.2.2.2.2.1 rfl | exact hpre.2.2.2.2.2.2.2.2.2.1 rfl)
        have hT := HTT.out.2.2.2.2.2.2.2
        clear hA hpre
        go_simp
        first | exact hK _ _ hB rfl (fun _ _ h => h) hX | exact hK _ _ hB trivial (fun _ _ h => h) hX | (rw [if_neg (by omega)]; go_simp; exact hK _ _ hB rfl (fun _ _ h => h) hX)
      · intro vs Wx lst hall hX hB hF
        refine fun A21 hA K21 hK21 => ?_
        have e35 := ((hA 35).trans (show _ = vs 20 by kernel_rfl)).trans (hF 20 (by decide))
        clear hA
        clear hF
        go_simp
        refine hK21 _ _ ?_
        have HBW := Lib.hid hB
        clear hB hX hall
        simp only [Ri.Tail, Ri.puts]
        go_simp
        go_wp2_with fail
        go_meet
        exact ⟨by first | (rw [← HE8.out]; done) | (rw [← HE8.out]; rfl) | (go_simp; rw [← HE8.out]), HBW.out⟩
    case rest =>
      obtain ⟨rfl, HBx⟩ := hcut
      obtain ⟨wa, hwa⟩ : ∃ x, x = wc := ⟨_, rfl⟩
      subst hwa
      have HBa : Hid (Below q w wa) := below_tr hq (by first | exact HB1.out | (rw [← hq]; exact HB1.out)) HBx.out
      have HRa := Lib.hid (HR1.out.grw HBx.out)
      have HXa := Lib.hid (keepB HX1.out HBx.out)
      obtain ⟨x0, x1, x2, x3, x4, x5⟩ := bsix HXa.out
      have HW0 := Lib.hid (Below.refl wa.heap.size wa)
      have HJ0 : Hid (HD0 = mk (hdT p ++ bl ((p.rules.take 0).flatMap ruleW))) := by show _ = _; rw [HHD.out]; simp [bl]
      clear HE1 HM1 HM2 HM3 HM4 HXK HD HX1 HR1 HB1 HBx HS0 HHD z1 z2 z3 z4 zS0
      go_wp2
      go_loopg [5, 6] (p.rules.length) (fun g s5 i wr => ∃ (j : Nat) (S : ByteArray), j ≤ p.rules.length ∧ g = p.rules.length - j ∧ s5 = .string S ∧ i = .int .i64 j ∧ S.size ≤ 65536 ∧ Hid (S = mk (hdT p ++ bl ((p.rules.take j).flatMap ruleW))) ∧ Hid (Below wa.heap.size wa wr))
      case atStart => exact ⟨0, _, Nat.zero_le _, rfl, rfl, rfl, zH, HJ0.out, HW0.out⟩
      case round =>
        clear HW0 HJ0 zH x0 x1 x2 x3 x4 x5
        obtain ⟨j, S, hj, hg, rfl, rfl, hS, HSJ, HBr⟩ := hrel
        obtain ⟨x0, x1, x2, x3, x4, x5⟩ := bsix (keepB HXa.out HBr.out)
        by_cases hlt : j < p.rules.length
        case neg =>
          have HF : Hid (S = mk (prT p)) := by
            show _ = _
            rw [HSJ.out, List.take_of_length_le (by omega), HT.out]
          have hlt' : ¬ (j : Int) < (p.rules.length : Int) := by omega
          have hS6 : ¬ (65536 : Int) < ((S.size : Nat) : Int) := by omega
          have HBF : Hid (Below q w wr) := below_tr hq HBa.out HBr.out
          clear HSJ HSZ HT
          go_wp2
          go_ret2
          exact ⟨by rw [← HF.out] <;> rfl, by first | exact HBF.out | (rw [hq]; exact HBF.out)⟩
        obtain ⟨b, o, kv, uv, sv, rfl, hbs, hx, hcc, hin⟩ := RusAt.get (HRa.out.grw HBr.out) j hlt
        obtain ⟨y0, y1, y2, y3, y4, y5, y6, y7⟩ := hcc
        obtain ⟨-, -, -, hk1, hk2, hk3⟩ := id hin
        obtain ⟨ka, kc, rfl, -, -⟩ := hk1.form
        obtain ⟨ua, uc, rfl, -, -⟩ := hk2.form
        obtain ⟨sa, sc, rfl, -, -, -⟩ := hk3.form
        have hmem : p.rules[j] ∈ p.rules := List.getElem_mem hlt
        have HO := Lib.hid (rone_any p.rules[j] _ _ _ _ (HRB.out _ hmem) (HRS.out _ hmem) hin)
        have zV : (mk (bl (ruleW p.rules[j]))).size ≤ 65536 := by rw [mk_size, bl_len]; exact HRS.out _ hmem
        have HNE : Hid (S ++ mk (bl (ruleW p.rules[j])) = mk (hdT p ++ bl ((p.rules.take (j + 1)).flatMap ruleW))) := by
          show _ = _
          rw [HSJ.out, rules_take p.rules j _ hx, bl_app, ← List.append_assoc]
          exact mk_cat _ _
        have zX : (S ++ mk (bl (ruleW p.rules[j]))).size ≤ 65536 := by rw [HNE.out, mk_size]; exact HSZ.out (j + 1)
        clear hx hin hk1 hk2 hk3 hmem HSJ
        generalize mk (bl (ruleW p.rules[j])) = V at *
        generalize p.rules[j] = ru at *
        go_wp2_with (go_at_call 19; refine HO.out.mono ?_; rintro e w3 ⟨rfl, hb3⟩; have HB3 := Lib.hid hb3; clear hb3)
        go_roundg (p.rules.length - (j + 1))
        case rel => exact ⟨j + 1, S ++ V, by omega, rfl, by first | rfl | go_num, by go_num, zX, HNE.out, below_trans HBr.out HB3.out⟩
        case measure => omega
end Go.Proofs.YtoibhgoaibjopaaGreatDoor.Pl
end
