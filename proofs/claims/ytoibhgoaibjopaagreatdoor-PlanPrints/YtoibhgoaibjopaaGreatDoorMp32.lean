/-
  Texts put together (merge.py): PRPo, CRefs.
-/
import Derived.Test.YtoibhgoaibjopaaGreatDoorMp31
import Derived.Test.YtoibhgoaibjopaaGreatDoorMp13
import Derived.Test.YtoibhgoaibjopaaGreatDoorMp11
/-
  A rule's words, a blank ahead of each: the reference's one, as a contract. (Written by gen_rone.py.)
-/
section
set_option linter.unusedSimpArgs false
set_option linter.unusedVariables false
set_option maxRecDepth 100000
namespace Go.Proofs.YtoibhgoaibjopaaGreatDoor.Pl
open Go.RowKit
open Wo (Wd WdsAt box_cell box_two keepB heap_far mk_cat)

/-- Words, a blank ahead of each. -/
def bl (l : List Tx) : Tx := l.flatMap fun t => 32 :: t
theorem bl_nil : bl [] = [] := rfl
theorem bl_cons (t : Tx) (l : List Tx) : bl (t :: l) = 32 :: (t ++ bl l) := rfl
theorem bl_app (a b : List Tx) : bl (a ++ b) = bl a ++ bl b := by simp [bl]
theorem join_bl : ∀ (l : List Tx) (t : Tx), joinC 32 (t :: l) = t ++ bl l
  | [], t => by rw [joinC_one, bl_nil, List.append_nil]
  | x :: r, t => by rw [joinC_cons, join_bl r x, bl_cons]
theorem bl_join (l : List Tx) (h : l ≠ []) : bl l = 32 :: joinC 32 l := by
  cases l with
  | nil => exact absurd rfl h
  | cons t r => rw [join_bl, bl_cons]
theorem bl_len : ∀ l : List Tx, (bl l).length = szW l
  | [] => rfl
  | t :: r => by rw [bl_cons, sz_cons, List.length_cons, List.length_append, bl_len r]; omega
theorem unl_one (l : List Cd) (h : l.length = 1) : unlW l = tUnl :: condW 16 (l[0]'(by omega)) := by
  match l, h with
  | [a], _ => rfl
theorem ryes_b (n : Int) (w : World) : Calls Tryz.prog 38 #[.int .i64 n] w fun e w' => e = .returned (.string (mk (yesW n))) ∧ Below w.heap.size w w' :=
  (ryes_any n w).mono fun e w' h => ⟨h.1, by rw [h.2]; exact Below.refl _ _⟩
theorem sets_take (l : List St) (j : Nat) (s : St) (h : l[j]? = some s) : setsW (l.take (j + 1)) = setsW (l.take j) ++ setW s := by
  rw [List.take_add_one, h]
  simp [setsW]
theorem sets_le (l : List St) (j : Nat) : szW (setsW (l.take j)) ≤ szW (setsW l) := by
  have e : setsW l = setsW (l.take j) ++ setsW (l.drop j) := by unfold setsW; rw [← List.flatMap_append, List.take_append_drop]
  rw [e, sz_app]
  omega
set_option maxHeartbeats 16000000 in
theorem rone_any (r : Ru) (k u s : Value) (w : World) (hr : ruleB r = true) (hsz : szW (ruleW r) ≤ 65536) (h : RuIn All w r k u s) :
    Calls Tryz.prog 19 #[ruv r k u s] w fun e w' => e = .returned (.string (mk (bl (ruleW r)))) ∧ Below w.heap.size w w' := by
  rw [ruleB_eq] at hr
  simp only [Bool.and_eq_true, decide_eq_true_eq] at hr
  obtain ⟨⟨hr0, hr1⟩, hc, hul1, hua, hs1, hss⟩ := hr
  obtain ⟨h64, hok, hul, hk, hu, hs⟩ := h
  have HSB := Lib.hid (sets_all r.sets [] hss)
  have eW : ruleW r = ([tRule, Lib.itoa r.rank, tIf] ++ condW 16 r.cif) ++ (unlW r.unl ++ ([tSet] ++ (setsW r.sets ++ [tEnd]))) := by unfold ruleW; simp
  have hz0 := hsz
  rw [eW, sz_app, sz_app, sz_app, sz_app, sz_app] at hz0
  have HW := Lib.hid eW
  have hb := below_alloc w (.cells #[.int .i64 r.rank, .int .i64 r.cif.kind, .string (mk r.cif.lo), .string (mk r.cif.hi), .int .i64 r.cif.n, k, u, s] 35)
  have HB := Lib.hid hb
  have HX := Lib.hid (heap_alloc_new w (.cells #[.int .i64 r.rank, .int .i64 r.cif.kind, .string (mk r.cif.lo), .string (mk r.cif.hi), .int .i64 r.cif.n, k, u, s] 35))
  have HU := Lib.hid (hu.grw hb)
  have HS := Lib.hid (hs.grw hb)
  have HN := Lib.hid fun W => rnm_any r.rank h64 W
  obtain ⟨ka, kc, rfl, -, -⟩ := hk.form
  obtain ⟨ua, uc, rfl, hu1, hu2⟩ := hu.form
  obtain ⟨sa, sc, rfl, hsl1, hsl2, hs3⟩ := hs.form
  have hul2 : r.unl.length ≤ 281474976710656 := hul
  have hsl3 : r.sets.length ≤ 281474976710656 := hs3
  have HC := Lib.hid fun W (hW : Below (w.alloc (.cells #[.int .i64 r.rank, .int .i64 r.cif.kind, .string (mk r.cif.lo), .string (mk r.cif.hi), .int .i64 r.cif.n, .slice ka r.cif.kids.length kc, .slice ua r.unl.length uc, .slice sa r.sets.length sc] 35)).heap.size (w.alloc (.cells #[.int .i64 r.rank, .int .i64 r.cif.kind, .string (mk r.cif.lo), .string (mk r.cif.hi), .int .i64 r.cif.n, .slice ka r.cif.kids.length kc, .slice ua r.unl.length uc, .slice sa r.sets.length sc] 35)) W) => rc_any 16 r.cif (.slice ka r.cif.kids.length kc) W hc (by omega) (hk.grw (below_trans hb hW)) hok
  unfold RcV at HC
  have zN : (mk (Lib.itoa r.rank)).size ≤ 65536 := by
    rw [mk_size]
    have := mem_sz [tRule, Lib.itoa r.rank, tIf] (Lib.itoa r.rank) (by simp)
    omega
  have zC : (mk (joinC 32 (condW 16 r.cif))).size ≤ 65536 := by rw [mk_size]; exact join_le _ _ (by omega)
  have HE1 : Hid ((⟨#[32, 114, 117, 108, 101, 32]⟩ : ByteArray) ++ mk (Lib.itoa r.rank) ++ ⟨#[32, 105, 102, 32]⟩ ++ mk (joinC 32 (condW 16 r.cif)) = mk (bl ([tRule, Lib.itoa r.rank, tIf] ++ condW 16 r.cif))) := by
    show _ = _
    rw [bl_app, bl_join (condW 16 r.cif) (condW_ne 15 r.cif)]
    refine (cat4 [32, 114, 117, 108, 101, 32] _ [32, 105, 102, 32] _).trans ?_
    simp [bl, tRule, tIf]
  have zL1 : (mk (bl ([tRule, Lib.itoa r.rank, tIf] ++ condW 16 r.cif))).size ≤ 65536 := by rw [mk_size, bl_len, sz_app]; omega
  have HXK0 := Lib.hid fun W (hW : Below (w.alloc (.cells #[.int .i64 r.rank, .int .i64 r.cif.kind, .string (mk r.cif.lo), .string (mk r.cif.hi), .int .i64 r.cif.n, .slice ka r.cif.kids.length kc, .slice ua r.unl.length uc, .slice sa r.sets.length sc] 35)).heap.size (w.alloc (.cells #[.int .i64 r.rank, .int .i64 r.cif.kind, .string (mk r.cif.lo), .string (mk r.cif.hi), .int .i64 r.cif.n, .slice ka r.cif.kids.length kc, .slice ua r.unl.length uc, .slice sa r.sets.length sc] 35)) W) => beight (keepB HX.out hW)
  obtain ⟨L1, hL1⟩ : ∃ L1, L1 = [tRule, Lib.itoa r.rank, tIf] ++ condW 16 r.cif := ⟨_, rfl⟩
  rw [← hL1] at HW HE1 zL1
  have HL1 : Hid (szW L1 + (szW (unlW r.unl) + (szW [tSet] + (szW (setsW r.sets) + szW [tEnd]))) ≤ 65536) := by show _ ≤ _; rw [hL1, sz_app]; exact hz0
  clear hb hk hu hs h64 hok hul hsz hz0 eW hL1 hc hr0 hr1 hss hs3
  generalize ruleW r = RW at *
  generalize mk (joinC 32 (condW 16 r.cif)) = C at *
  generalize mk (Lib.itoa r.rank) = N at *
  obtain ⟨S1, hS1⟩ : ∃ S1, S1 = mk (bl L1) := ⟨_, rfl⟩
  rw [← hS1] at HE1 zL1
  have HS1 := Lib.hid hS1
  clear hS1
  go_enter Tryz.func19, Tryz.ntmps19
  go_upto_region 1 with fail
  generalize w.alloc (.cells #[.int .i64 r.rank, .int .i64 r.cif.kind, .string (mk r.cif.lo), .string (mk r.cif.hi), .int .i64 r.cif.n, .slice ka r.cif.kids.length kc, .slice ua r.unl.length uc, .slice sa r.sets.length sc] 35) = W0 at *
  generalize hq : w.heap.size = q at *
  have HXK := HXK0
  clear HXK0
  have HD := Lib.hid (Below.drew (Below.refl W0.heap.size W0))
  go_cut [3] (fun s3 wx => s3 = .string S1 ∧ Hid (Below W0.heap.size W0 wx))
  case first =>
    refine Ri.wp_region_lasting (by kernel_rfl) (by kernel_rfl) (by kernel_rfl) (fun Wx => Below W0.heap.size W0 Wx) (fun kz vs wz => (fun kx vx _ => match kx with | 0 => vx = Value.pointer (some ⟨q, 0, none⟩) | 1 => vx = Value.int IntKind.i64 r.rank | 2 => vx = Value.string N | 3 => vx = Value.string (⟨#[32, 114, 117, 108, 101, 32]⟩ ++ N) | 4 => vx = Value.string (⟨#[32, 114, 117, 108, 101, 32]⟩ ++ N ++ ⟨#[32, 105, 102, 32]⟩) | 5 => vx = Value.pointer (some ⟨q, 1, none⟩) | 6 => vx = Value.agg #[Value.int IntKind.i64 r.cif.kind, Value.string (mk r.cif.lo), Value.string (mk r.cif.hi), Value.int IntKind.i64 r.cif.n, Value.slice ka r.cif.kids.length kc] | 7 => vx = Value.string C | 8 => vx = Value.string (⟨#[32, 114, 117, 108, 101, 32]⟩ ++ N ++ ⟨#[32, 105, 102, 32]⟩ ++ C) | 9 => vx = Value.string (⟨#[32, 114, 117, 108, 101, 32]⟩ ++ N ++ ⟨#[32, 105, 102, 32]⟩ ++ C) | _ => True : Nat → Value → World → Prop) kz (vs kz) wz) (fun kz => [kz]) (by kernel_rfl) (fun jz vs iz vz wz hiz hz => Ri.loc_own (F := (fun kx vx _ => match kx with | 0 => vx = Value.pointer (some ⟨q, 0, none⟩) | 1 => vx = Value.int IntKind.i64 r.rank | 2 => vx = Value.string N | 3 => vx = Value.string (⟨#[32, 114, 117, 108, 101, 32]⟩ ++ N) | 4 => vx = Value.string (⟨#[32, 114, 117, 108, 101, 32]⟩ ++ N ++ ⟨#[32, 105, 102, 32]⟩) | 5 => vx = Value.pointer (some ⟨q, 1, none⟩) | 6 => vx = Value.agg #[Value.int IntKind.i64 r.cif.kind, Value.string (mk r.cif.lo), Value.string (mk r.cif.hi), Value.int IntKind.i64 r.cif.n, Value.slice ka r.cif.kids.length kc] | 7 => vx = Value.string C | 8 => vx = Value.string (⟨#[32, 114, 117, 108, 101, 32]⟩ ++ N ++ ⟨#[32, 105, 102, 32]⟩ ++ C) | 9 => vx = Value.string (⟨#[32, 114, 117, 108, 101, 32]⟩ ++ N ++ ⟨#[32, 105, 102, 32]⟩ ++ C) | _ => True : Nat → Value → World → Prop)) jz vs iz vz wz hiz hz) HD.out ⟨⟨rfl, ?_⟩, ⟨rfl, ?_⟩, ⟨rfl, ?_⟩, ⟨rfl, ?_⟩, ⟨rfl, ?_⟩, ⟨rfl, ?_⟩, ⟨rfl, ?_⟩, ⟨rfl, ?_⟩, ⟨rfl, ?_⟩, ⟨rfl, ?_⟩, trivial⟩ ?_
    · intro vs Wx A hA hB hpre K hK
      have e1 := (hA 1).trans (show _ = Value.pointer (some ⟨q, 0, none⟩) by kernel_rfl)
      clear hA
      go_simp
      first | exact hK _ _ hB rfl (fun _ _ h => h) | (rw [if_neg (by omega)]; go_simp; exact hK _ _ hB rfl (fun _ _ h => h))
    · intro vs Wx A hA hB hpre K hK
      have e6 := ((hA 6).trans (show _ = vs 0 by kernel_rfl)).trans (by first | exact hpre.1 rfl | exact hpre.2.1 rfl | exact hpre.2.2.1 rfl | exact hpre.2.2.2.1 rfl | exact hpre.2.2.2.2.1 rfl | exact hpre.2.2.2.2.2.1 rfl | exact hpre.2.2.2.2.2.2.1 rfl | exact hpre.2.2.2.2.2.2.2.1 rfl | exact hpre.2.2.2.2.2.2.2.2.1 rfl | exact hpre.2.2.2.2.2.2.2.2.2.1 rfl)
      obtain ⟨y0, y1, y2, y3, y4, y5, y6, y7⟩ := HXK.out Wx hB
      clear hA hpre
      go_simp
      first | exact hK _ _ hB rfl (fun _ _ h => h) | (rw [if_neg (by omega)]; go_simp; exact hK _ _ hB rfl (fun _ _ h => h))
    · intro vs Wx A hA hB hpre K hK
      have e7 := ((hA 7).trans (show _ = vs 1 by kernel_rfl)).trans (by first | exact hpre.1 rfl | exact hpre.2.1 rfl | exact hpre.2.2.1 rfl | exact hpre.2.2.2.1 rfl | exact hpre.2.2.2.2.1 rfl | exact hpre.2.2.2.2.2.1 rfl | exact hpre.2.2.2.2.2.2.1 rfl | exact hpre.2.2.2.2.2.2.2.1 rfl | exact hpre.2.2.2.2.2.2.2.2.1 rfl | exact hpre.2.2.2.2.2.2.2.2.2.1 rfl)
      clear hA hpre
      go_simp
      refine (HN.out Wx).mono ?_
      rintro e w1 ⟨rfl, hb⟩
      exact hK _ _ (below_trans hB hb) rfl (fun _ _ h => h)
    · intro vs Wx A hA hB hpre K hK
      have e8 := ((hA 8).trans (show _ = vs 2 by kernel_rfl)).trans (by first | exact hpre.1 rfl | exact hpre.2.1 rfl | exact hpre.2.2.1 rfl | exact hpre.2.2.2.1 rfl | exact hpre.2.2.2.2.1 rfl | exact hpre.2.2.2.2.2.1 rfl | exact hpre.2.2.2.2.2.2.1 rfl | exact hpre.2.2.2.2.2.2.2.1 rfl | exact hpre.2.2.2.2.2.2.2.2.1 rfl | exact hpre.2.2.2.2.2.2.2.2.2.1 rfl)
      clear hA hpre
      go_simp
      first | exact hK _ _ hB rfl (fun _ _ h => h) | (rw [if_neg (by omega)]; go_simp; exact hK _ _ hB rfl (fun _ _ h => h))
    · intro vs Wx A hA hB hpre K hK
      have e9 := ((hA 9).trans (show _ = vs 3 by kernel_rfl)).trans (by first | exact hpre.1 rfl | exact hpre.2.1 rfl | exact hpre.2.2.1 rfl | exact hpre.2.2.2.1 rfl | exact hpre.2.2.2.2.1 rfl | exact hpre.2.2.2.2.2.1 rfl | exact hpre.2.2.2.2.2.2.1 rfl | exact hpre.2.2.2.2.2.2.2.1 rfl | exact hpre.2.2.2.2.2.2.2.2.1 rfl | exact hpre.2.2.2.2.2.2.2.2.2.1 rfl)
      clear hA hpre
      go_simp
      first | exact hK _ _ hB rfl (fun _ _ h => h) | (rw [if_neg (by omega)]; go_simp; exact hK _ _ hB rfl (fun _ _ h => h))
    · intro vs Wx A hA hB hpre K hK
      have e1 := (hA 1).trans (show _ = Value.pointer (some ⟨q, 0, none⟩) by kernel_rfl)
      clear hA
      go_simp
      first | exact hK _ _ hB rfl (fun _ _ h => h) | (rw [if_neg (by omega)]; go_simp; exact hK _ _ hB rfl (fun _ _ h => h))
    · intro vs Wx A hA hB hpre K hK
      have e11 := ((hA 11).trans (show _ = vs 5 by kernel_rfl)).trans (by first | exact hpre.1 rfl | exact hpre.2.1 rfl | exact hpre.2.2.1 rfl | exact hpre.2.2.2.1 rfl | exact hpre.2.2.2.2.1 rfl | exact hpre.2.2.2.2.2.1 rfl | exact hpre.2.2.2.2.2.2.1 rfl | exact hpre.2.2.2.2.2.2.2.1 rfl | exact hpre.2.2.2.2.2.2.2.2.1 rfl | exact hpre.2.2.2.2.2.2.2.2.2.1 rfl)
      obtain ⟨y0, y1, y2, y3, y4, y5, y6, y7⟩ := HXK.out Wx hB
      clear hA hpre
      go_simp
      first | exact hK _ _ hB rfl (fun _ _ h => h) | (rw [if_neg (by omega)]; go_simp; exact hK _ _ hB rfl (fun _ _ h => h))
    · intro vs Wx A hA hB hpre K hK
      have e12 := ((hA 12).trans (show _ = vs 6 by kernel_rfl)).trans (by first | exact hpre.1 rfl | exact hpre.2.1 rfl | exact hpre.2.2.1 rfl | exact hpre.2.2.2.1 rfl | exact hpre.2.2.2.2.1 rfl | exact hpre.2.2.2.2.2.1 rfl | exact hpre.2.2.2.2.2.2.1 rfl | exact hpre.2.2.2.2.2.2.2.1 rfl | exact hpre.2.2.2.2.2.2.2.2.1 rfl | exact hpre.2.2.2.2.2.2.2.2.2.1 rfl)
      clear hA hpre
      go_simp
      refine (HC.out Wx hB).mono ?_
      rintro e w1 ⟨rfl, hb⟩
      exact hK _ _ (below_trans hB hb) rfl (fun _ _ h => h)
    · intro vs Wx A hA hB hpre K hK
      have e10 := ((hA 10).trans (show _ = vs 4 by kernel_rfl)).trans (by first | exact hpre.1 rfl | exact hpre.2.1 rfl | exact hpre.2.2.1 rfl | exact hpre.2.2.2.1 rfl | exact hpre.2.2.2.2.1 rfl | exact hpre.2.2.2.2.2.1 rfl | exact hpre.2.2.2.2.2.2.1 rfl | exact hpre.2.2.2.2.2.2.2.1 rfl | exact hpre.2.2.2.2.2.2.2.2.1 rfl | exact hpre.2.2.2.2.2.2.2.2.2.1 rfl)
      have e13 := ((hA 13).trans (show _ = vs 7 by kernel_rfl)).trans (by first | exact hpre.1 rfl | exact hpre.2.1 rfl | exact hpre.2.2.1 rfl | exact hpre.2.2.2.1 rfl | exact hpre.2.2.2.2.1 rfl | exact hpre.2.2.2.2.2.1 rfl | exact hpre.2.2.2.2.2.2.1 rfl | exact hpre.2.2.2.2.2.2.2.1 rfl | exact hpre.2.2.2.2.2.2.2.2.1 rfl | exact hpre.2.2.2.2.2.2.2.2.2.1 rfl)
      clear hA hpre
      go_simp
      first | exact hK _ _ hB rfl (fun _ _ h => h) | (rw [if_neg (by omega)]; go_simp; exact hK _ _ hB rfl (fun _ _ h => h))
    · intro vs Wx A hA hB hpre K hK
      have e14 := ((hA 14).trans (show _ = vs 8 by kernel_rfl)).trans (by first | exact hpre.1 rfl | exact hpre.2.1 rfl | exact hpre.2.2.1 rfl | exact hpre.2.2.2.1 rfl | exact hpre.2.2.2.2.1 rfl | exact hpre.2.2.2.2.2.1 rfl | exact hpre.2.2.2.2.2.2.1 rfl | exact hpre.2.2.2.2.2.2.2.1 rfl | exact hpre.2.2.2.2.2.2.2.2.1 rfl | exact hpre.2.2.2.2.2.2.2.2.2.1 rfl)
      clear hA hpre
      go_simp
      first | exact hK _ _ hB rfl (fun _ _ h => h) | (rw [if_neg (by omega)]; go_simp; exact hK _ _ hB rfl (fun _ _ h => h))
    · intro vs Wx hB hF
      have h9 : vs 9 = Value.string (⟨#[32, 114, 117, 108, 101, 32]⟩ ++ N ++ ⟨#[32, 105, 102, 32]⟩ ++ C) := hF 9 (by decide)
      have HBW := Lib.hid hB
      clear hF hB
      simp only [Ri.puts]
      go_simp
      go_wp2_with fail
      go_meet
      exact ⟨by rw [← HE1.out, ← h9] <;> rfl, HBW.out⟩
  case rest =>
    obtain ⟨rfl, HBx⟩ := hcut
    obtain ⟨wa, hwa⟩ : ∃ x, x = wc := ⟨_, rfl⟩
    subst hwa
    have HBa : Hid (Below q w wa) := below_tr hq HB.out HBx.out
    have HUa := Lib.hid (HU.out.grw HBx.out)
    have HSa := Lib.hid (HS.out.grw HBx.out)
    have HXa := Lib.hid (keepB HX.out HBx.out)
    obtain ⟨x0, x1, x2, x3, x4, x5, x6, x7⟩ := beight HXa.out
    have zL2 : (mk (bl (L1 ++ unlW r.unl))).size ≤ 65536 := by rw [mk_size, bl_len, sz_app]; have := HL1.out; omega
    obtain ⟨S2, hS2⟩ : ∃ S2, S2 = mk (bl (L1 ++ unlW r.unl)) := ⟨_, rfl⟩
    rw [← hS2] at zL2
    have HS2 := Lib.hid hS2
    clear hS2 HB HU HS HX HXK HC HN HE1 HD HBx
    go_upto_if 18 with fail
    go_cut [3] (fun s3 wx => s3 = .string S2 ∧ Hid (Below wa.heap.size wa wx))
    case first =>
      by_cases hz : r.unl.length = 1
      · obtain ⟨b, o, mv, rfl, hbs, hx, hcc, hkk, hok⟩ := KsAt.get HUa.out 0 (by omega)
        obtain ⟨y0, y1, y2, y3, y4⟩ := hcc
        obtain ⟨ma, mc, rfl, -, -⟩ := hkk.form
        simp only [Nat.zero_mul, Nat.add_zero] at y0 y1 y2 y3 y4
        have eu : unlW r.unl = tUnl :: condW 16 r.unl[0] := unl_one r.unl hz
        have hc0 : condB 16 r.unl[0] = true := List.all_eq_true.1 hua _ (List.getElem_mem _)
        have hsz0 : szW (condW 16 r.unl[0]) ≤ 65536 := by have := HL1.out; rw [eu, sz_cons] at this; omega
        have HC2 := Lib.hid (rc_any 16 r.unl[0] _ wa hc0 hsz0 hkk hok)
        unfold RcV at HC2
        have zC2 : (mk (joinC 32 (condW 16 r.unl[0]))).size ≤ 65536 := by rw [mk_size]; exact join_le _ _ hsz0
        have HE2 : Hid (S1 ++ ⟨#[32, 117, 110, 108, 101, 115, 115, 32]⟩ ++ mk (joinC 32 (condW 16 r.unl[0])) = S2) := by
          show _ = _
          rw [HS1.out, HS2.out, eu, bl_app, bl_cons, bl_join (condW 16 r.unl[0]) (condW_ne 15 _)]
          refine (cat3 _ [32, 117, 110, 108, 101, 115, 115, 32] _).trans ?_
          simp [tUnl]
        clear hx hkk hok eu hc0 hsz0 hua
        generalize r.unl[0] = kd at *
        generalize mk (joinC 32 (condW 16 kd)) = C2 at *
        have hb1 : (((r.unl.length : Nat) : Int) == 1) = true := by rw [hz]; rfl
        have hi0 : (0 : Int) < ((r.unl.length : Nat) : Int) := by omega
        have hi1 : 0 < r.unl.length := by omega
        clear hz
        go_wp2_with (go_at_call 37; refine HC2.out.mono ?_; rintro e w1 ⟨rfl, hb1⟩; have HB1 := Lib.hid hb1; clear hb1)
        go_meet
        exact ⟨by rw [← HE2.out] <;> rfl, HB1.out⟩
      · have eu : unlW r.unl = [] := by unfold unlW; rw [if_neg hz]
        have HE2 : Hid (S1 = S2) := by show _ = _; rw [HS1.out, HS2.out, eu, List.append_nil]
        have hb1 : (((r.unl.length : Nat) : Int) == 1) = false := by simp; omega
        clear eu hua
        go_wp2
        go_meet
        exact ⟨by rw [← HE2.out] <;> rfl, Below.refl _ _⟩
    case rest =>
      obtain ⟨rfl, HBy⟩ := hcut
      obtain ⟨wb, hwb⟩ : ∃ x, x = wc := ⟨_, rfl⟩
      subst hwb
      have HBb : Hid (Below q w wb) := below_tr hq HBa.out HBy.out
      have HSb := Lib.hid (HSa.out.grw HBy.out)
      have HXb := Lib.hid (keepB HXa.out HBy.out)
      obtain ⟨x0, x1, x2, x3, x4, x5, x6, x7⟩ := beight HXb.out
      have HW0 := Lib.hid (Below.refl wb.heap.size wb)
      have HE3 : Hid (S2 ++ ⟨#[32, 115, 101, 116]⟩ = mk (bl (L1 ++ unlW r.unl ++ [tSet] ++ setsW (r.sets.take 0)))) := by
        show _ = _
        rw [HS2.out, show setsW (r.sets.take 0) = [] from rfl, List.append_nil, bl_app (L1 ++ unlW r.unl)]
        exact mk_cat _ [32, 115, 101, 116]
      have zL3 : (S2 ++ (⟨#[32, 115, 101, 116]⟩ : ByteArray)).size ≤ 65536 := by
        rw [HE3.out, mk_size, bl_len, sz_app, sz_app, sz_app]
        have := HL1.out
        have e : szW (setsW (r.sets.take 0)) = 0 := rfl
        omega
      have HEN : Hid (mk (bl (L1 ++ unlW r.unl ++ [tSet] ++ setsW r.sets)) ++ ⟨#[32, 101, 110, 100]⟩ = mk (bl RW)) := by
        show _ = _
        rw [HW.out]
        refine (mk_cat _ [32, 101, 110, 100]).trans ?_
        simp only [bl_app, List.append_assoc]
        rfl
      have HZJ : Hid (∀ j, (bl (L1 ++ unlW r.unl ++ [tSet] ++ setsW (r.sets.take j))).length ≤ 65536 - szW [tEnd]) := fun j => by
        rw [bl_len, sz_app, sz_app, sz_app]
        have := HL1.out
        have := sets_le r.sets j
        omega
      obtain ⟨L3, hL3⟩ : ∃ L3, L3 = L1 ++ unlW r.unl ++ [tSet] := ⟨_, rfl⟩
      rw [← hL3] at HE3 HEN HZJ
      clear hL3 HUa HSa HXa HBa HBy HW HL1 HS1 HS2 zL1 zC zN hua
      generalize hz9 : r.sets = ss at *
      clear hz9
      go_wp2
      go_loopg [3, 4] (ss.length) (fun g s3 i wr => ∃ (j : Nat) (S : ByteArray), j ≤ ss.length ∧ g = ss.length - j ∧ s3 = .string S ∧ i = .int .i64 j ∧ S.size ≤ 65536 ∧ Hid (S = mk (bl (L3 ++ setsW (ss.take j)))) ∧ Hid (Below wb.heap.size wb wr))
      case atStart => exact ⟨0, _, Nat.zero_le _, rfl, rfl, rfl, zL3, HE3.out, HW0.out⟩
      case round =>
        clear HW0 HE3 zL3 x0 x1 x2 x3 x4 x5 x6 x7
        obtain ⟨j, S, hj, hg, rfl, rfl, hS, HSJ, HBr⟩ := hrel
        obtain ⟨x0, x1, x2, x3, x4, x5, x6, x7⟩ := beight (keepB HXb.out HBr.out)
        by_cases hlt : j < ss.length
        case neg =>
          have HF : Hid (S ++ ⟨#[32, 101, 110, 100]⟩ = mk (bl RW)) := by
            show _ = _
            rw [HSJ.out, List.take_of_length_le (by omega)]
            exact HEN.out
          have hlt' : ¬ (j : Int) < (ss.length : Int) := by omega
          have HBF : Hid (Below q w wr) := below_tr hq HBb.out HBr.out
          clear HSJ HEN HZJ
          go_wp2
          go_ret
          exact ⟨by rw [← HF.out] <;> rfl, by first | exact HBF.out | (rw [hq]; exact HBF.out)⟩
        obtain ⟨b, o, rfl, hbs, hx, y0, y1, hi1, hi2⟩ := StsAt.get (HSb.out.grw HBr.out) j hlt
        have hset := HSB.out _ (List.getElem_mem hlt)
        have HTK := Lib.hid (sets_take ss j _ hx)
        have HZ2 := Lib.hid (HZJ.out (j + 1))
        have HNX : Hid (∀ X : ByteArray, S ++ X = mk (bl (L3 ++ setsW (ss.take j))) ++ X) := fun X => by rw [HSJ.out]
        have h4 : ss[j].what = 1 ∨ ss[j].what = 2 ∨ ss[j].what = 3 ∨ ss[j].what = 4 := by
          unfold setB at hset
          simp only [Bool.and_eq_true] at hset
          have h2 := hset.2
          split at h2
          · omega
          · split at h2
            · omega
            · split at h2
              · omega
              · cases h2
        clear hx hset
        generalize ss[j] = st at *
        rcases h4 with e | e | e | e
        · have es : setW st = [tCover, yesW st.n] := by unfold setW; rw [if_pos e]
          have HV := Lib.hid fun W => ryes_b st.n W
          have HNE : Hid (S ++ (⟨#[32, 99, 111, 118, 101, 114, 32]⟩ : ByteArray) ++ mk (yesW st.n) = mk (bl (L3 ++ setsW (ss.take (j + 1))))) := by
            show _ = _
            rw [HSJ.out, HTK.out, es, ← List.append_assoc, bl_app (L3 ++ setsW (ss.take j))]
            refine (cat3 _ [32, 99, 111, 118, 101, 114, 32] _).trans ?_
            simp [bl, tCover]
          have zX : (S ++ (⟨#[32, 99, 111, 118, 101, 114, 32]⟩ : ByteArray) ++ mk (yesW st.n)).size ≤ 65536 := by rw [HNE.out, mk_size]; have := HZ2.out; omega
          have zV : (mk (yesW st.n)).size ≤ 65536 := by
            have h0 := zX
            rw [ByteArray.size_append] at h0
            omega
          have b1 : (st.what == 1) = true := by rw [e]; rfl
          clear e es HZ2 HTK HNX
          generalize mk (yesW st.n) = V at *
          go_wp2_with (go_at_call 38; refine (HV.out _).mono ?_; rintro e w1 ⟨rfl, hb1⟩; have HB1 := Lib.hid hb1; clear hb1)
          go_roundg (ss.length - (j + 1))
          case rel => exact ⟨j + 1, S ++ (⟨#[32, 99, 111, 118, 101, 114, 32]⟩ : ByteArray) ++ V, by omega, rfl, by first | rfl | go_num, by go_num, zX, HNE.out, below_trans HBr.out HB1.out⟩
          case measure => omega
        · have es : setW st = [tDed, yesW st.n] := by unfold setW; rw [if_neg (by omega), if_pos e]
          have HV := Lib.hid fun W => ryes_b st.n W
          have HNE : Hid (S ++ (⟨#[32, 100, 101, 100, 117, 99, 116, 32]⟩ : ByteArray) ++ mk (yesW st.n) = mk (bl (L3 ++ setsW (ss.take (j + 1))))) := by
            show _ = _
            rw [HSJ.out, HTK.out, es, ← List.append_assoc, bl_app (L3 ++ setsW (ss.take j))]
            refine (cat3 _ [32, 100, 101, 100, 117, 99, 116, 32] _).trans ?_
            simp [bl, tDed]
          have zX : (S ++ (⟨#[32, 100, 101, 100, 117, 99, 116, 32]⟩ : ByteArray) ++ mk (yesW st.n)).size ≤ 65536 := by rw [HNE.out, mk_size]; have := HZ2.out; omega
          have zV : (mk (yesW st.n)).size ≤ 65536 := by
            have h0 := zX
            rw [ByteArray.size_append] at h0
            omega
          have b1 : (st.what == 1) = false := by rw [e]; rfl
          have b2 : (st.what == 2) = true := by rw [e]; rfl
          clear e es HZ2 HTK HNX
          generalize mk (yesW st.n) = V at *
          go_wp2_with (go_at_call 38; refine (HV.out _).mono ?_; rintro e w1 ⟨rfl, hb1⟩; have HB1 := Lib.hid hb1; clear hb1)
          go_roundg (ss.length - (j + 1))
          case rel => exact ⟨j + 1, S ++ (⟨#[32, 100, 101, 100, 117, 99, 116, 32]⟩ : ByteArray) ++ V, by omega, rfl, by first | rfl | go_num, by go_num, zX, HNE.out, below_trans HBr.out HB1.out⟩
          case measure => omega
        · have es : setW st = [tCopay, Nu.moneyL st.n] := by unfold setW; rw [if_neg (by omega), if_neg (by omega), if_pos e]
          have HV := Lib.hid fun W => rmon_any st.n hi2 W
          have HNE : Hid (S ++ (⟨#[32, 99, 111, 112, 97, 121, 32]⟩ : ByteArray) ++ mk (Nu.moneyL st.n) = mk (bl (L3 ++ setsW (ss.take (j + 1))))) := by
            show _ = _
            rw [HSJ.out, HTK.out, es, ← List.append_assoc, bl_app (L3 ++ setsW (ss.take j))]
            refine (cat3 _ [32, 99, 111, 112, 97, 121, 32] _).trans ?_
            simp [bl, tCopay]
          have zX : (S ++ (⟨#[32, 99, 111, 112, 97, 121, 32]⟩ : ByteArray) ++ mk (Nu.moneyL st.n)).size ≤ 65536 := by rw [HNE.out, mk_size]; have := HZ2.out; omega
          have zV : (mk (Nu.moneyL st.n)).size ≤ 65536 := by
            have h0 := zX
            rw [ByteArray.size_append] at h0
            omega
          have b1 : (st.what == 1) = false := by rw [e]; rfl
          have b2 : (st.what == 2) = false := by rw [e]; rfl
          have b3 : (st.what == 3) = true := by rw [e]; rfl
          clear e es HZ2 HTK HNX
          generalize mk (Nu.moneyL st.n) = V at *
          go_wp2_with (go_at_call 18; refine (HV.out _).mono ?_; rintro e w1 ⟨rfl, hb1⟩; have HB1 := Lib.hid hb1; clear hb1)
          go_roundg (ss.length - (j + 1))
          case rel => exact ⟨j + 1, S ++ (⟨#[32, 99, 111, 112, 97, 121, 32]⟩ : ByteArray) ++ V, by omega, rfl, by first | rfl | go_num, by go_num, zX, HNE.out, below_trans HBr.out HB1.out⟩
          case measure => omega
        · have es : setW st = [tCoins, Lib.itoa st.n] := by unfold setW; rw [if_neg (by omega), if_neg (by omega), if_neg (by omega)]
          have HV := Lib.hid fun W => rnm_any st.n hi2 W
          have HNE : Hid (S ++ (⟨#[32, 99, 111, 105, 110, 115, 32]⟩ : ByteArray) ++ mk (Lib.itoa st.n) = mk (bl (L3 ++ setsW (ss.take (j + 1))))) := by
            show _ = _
            rw [HSJ.out, HTK.out, es, ← List.append_assoc, bl_app (L3 ++ setsW (ss.take j))]
            refine (cat3 _ [32, 99, 111, 105, 110, 115, 32] _).trans ?_
            simp [bl, tCoins]
          have zX : (S ++ (⟨#[32, 99, 111, 105, 110, 115, 32]⟩ : ByteArray) ++ mk (Lib.itoa st.n)).size ≤ 65536 := by rw [HNE.out, mk_size]; have := HZ2.out; omega
          have zV : (mk (Lib.itoa st.n)).size ≤ 65536 := by
            have h0 := zX
            rw [ByteArray.size_append] at h0
            omega
          have b1 : (st.what == 1) = false := by rw [e]; rfl
          have b2 : (st.what == 2) = false := by rw [e]; rfl
          have b3 : (st.what == 3) = false := by rw [e]; rfl
          clear e es HZ2 HTK HNX
          generalize mk (Lib.itoa st.n) = V at *
          go_wp2_with (go_at_call 36; refine (HV.out _).mono ?_; rintro e w1 ⟨rfl, hb1⟩; have HB1 := Lib.hid hb1; clear hb1)
          go_roundg (ss.length - (j + 1))
          case rel => exact ⟨j + 1, S ++ (⟨#[32, 99, 111, 105, 110, 115, 32]⟩ : ByteArray) ++ V, by omega, rfl, by first | rfl | go_num, by go_num, zX, HNE.out, below_trans HBr.out HB1.out⟩
          case measure => omega
end Go.Proofs.YtoibhgoaibjopaaGreatDoor.Pl
end

/-
  What the reference's Good answers, as contracts: for every int64.
-/
section
namespace Go.Proofs.YtoibhgoaibjopaaGreatDoor.Ce
open Go.RowKit

theorem rgood_any (a : Int) (w : World) :
    Calls Tryz.prog 20 #[.int .i64 a] w fun e w' => e = .returned (.bool (good a)) ∧ w' = w := by
  by_cases h0 : a < 0
  · have g : good a = false := (good_not a).2 (by omega)
    rw [g]
    go_enter Tryz.func20, Tryz.ntmps20
    go_wp2
    go_ret
    exact ⟨rfl, rfl⟩
  · by_cases h1 : 10000000000000 < a
    · have g : good a = false := (good_not a).2 (by omega)
      rw [g]
      go_enter Tryz.func20, Tryz.ntmps20
      go_wp2
      go_ret
      exact ⟨rfl, rfl⟩
    · have g : good a = true := (good_iff a).2 (by omega)
      rw [g]
      go_enter Tryz.func20, Tryz.ntmps20
      go_wp2
      go_ret
      exact ⟨rfl, rfl⟩

end Go.Proofs.YtoibhgoaibjopaaGreatDoor.Ce
end
