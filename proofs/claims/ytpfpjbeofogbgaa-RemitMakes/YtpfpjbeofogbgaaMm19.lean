/-
  Texts put together (merge.py): MMake.
-/
import Derived.Laws.Small
import Derived.Test.YtpfpjbeofogbgaaMm16
import Derived.Test.YtpfpjbeofogbgaaMm18
import Derived.Test.YtpfpjbeofogbgaaMm10
import Derived.Test.YtpfpjbeofogbgaaMm3
set_option linter.unusedSimpArgs false
set_option linter.unusedVariables false
section
set_option maxRecDepth 100000
namespace Go.Proofs.Ytpfpjbeofogbgaa.Re
open Go.RowKit
open Sv (Ca Sr Cp SvsAt CasAt CpsAt CpCells cpv cpe cp0 four six CpOk checkE Bd Sm I64 put4_heap put4_below put4_keep put4_far put4_size)
open Bk (En EnsAt EnOk keepB heap_far below_alloc below_trans alloc_new heap_set add_lit)
theorem frz4 {w : World} {b : Nat} {cs : Array Value} {T : TypeId} (h : w.heap[b]? = some (.cells cs T (0, 0))) : w.frozen? ⟨b, 0, none⟩ = false ∧ w.frozen? ⟨b, 1, none⟩ = false ∧ w.frozen? ⟨b, 2, none⟩ = false ∧ w.frozen? ⟨b, 3, none⟩ = false := by
 refine ⟨?_, ?_, ?_, ?_⟩ <;> simp [World.frozen?, h]
theorem grown_put4 {W W' : World} {b : Nat} (h : W.grownBy W' (some b)) (a0 a1 a2 a3 : Value) : W.grownBy ((((W'.setCell ⟨b, 0, none⟩ a0).setCell ⟨b, 1, none⟩ a1).setCell ⟨b, 2, none⟩ a2).setCell ⟨b, 3, none⟩ a3) (some b) :=
 ⟨h.os, h.tape, h.output, by rw [put4_size]; exact h.size, fun k hk hne => (put4_keep (fun e => hne (by rw [e])) a0 a1 a2 a3).trans (h.block k hk hne)⟩
theorem cps_far {K : Nat → Prop} {w w' : World} {v : Value} {l : List Cp} (h : CpsAt K w v l) (hs : w.heap.size ≤ w'.heap.size) (hk : ∀ b, K b → w'.heap[b]? = w.heap[b]?) : CpsAt K w' v l := Sv.CpsAt.move h ⟨hs, fun b _ k => ⟨k, hk b k⟩⟩
set_option maxHeartbeats 16000000 in
theorem make_any (n : Int) (told : List Cp) (l : List En) (held : Int) (vt v : Value) (w : World) (ht : CpsAt All w vt told) (hl : EnsAt All w v l) (hzt : ∀ x ∈ told, CpOk x) (hz : ∀ y ∈ l, EnOk y) (hs : ∀ y ∈ l, Sm y.cl y.outs) (hlt : told.length ≤ 1000) (hll : l.length ≤ 1000) (hh : I64 held) :
  Calls Try.prog 11 #[.int .i64 n, vt, v, .int .i64 held] w fun e w' => MkV n told l held w e w' := by
 obtain ⟨ta, tc, rfl, t1, t2⟩ := ht.form
 obtain ⟨a, cap, rfl, f1, f2⟩ := hl.form
 have hb0 := below_alloc w (.cells (#[.int .i64 0, .int .i64 0, .int .i64 0, .slice none 0 0] : Array Value) 27)
 have HB := Lib.hid hb0
 have HY := Lib.hid (alloc_new w (#[.int .i64 0, .int .i64 0, .int .i64 0, .slice none 0 0] : Array Value) 27)
 have HMY := Lib.hid fun W => may_any n W
 have HS0 : Hid ((w.alloc (.cells (#[.int .i64 0, .int .i64 0, .int .i64 0, .slice none 0 0] : Array Value) 27)).heap.size = w.heap.size + 1) := by show _ = _; simp
 have HBI : Hid (Calls Try.prog 25 #[.slice ta told.length tc] (w.alloc (.cells (#[.int .i64 0, .int .i64 0, .int .i64 0, .slice none 0 0] : Array Value) 27)) fun e w' => ByV told (w.alloc (.cells (#[.int .i64 0, .int .i64 0, .int .i64 0, .slice none 0 0] : Array Value) 27)) e w') := byId_any told _ _ (ht.grw hb0) hzt hlt
 have HLO : Hid (∀ W, Below w.heap.size w W → EnsAt (fun b => b < w.heap.size) W (.slice a l.length cap) l) := fun W hW => hl.move ⟨hW.size, fun b hb _ => ⟨hb, hW.block b hb⟩⟩
 have HZ := Lib.hid hz
 have HSm := Lib.hid hs
 have HZT := Lib.hid hzt
 have HNO : Hid (∀ E w', makeE n told l held = E → E ≠ 0 → Below w.heap.size w w' → MkV n told l held w (.returned (.tuple #[rmv rm0 (.slice none 0 0), .slice none 0 0, .int .i64 0, .int .i64 E])) w') := fun E w' h hE hb => mk_no h hE hb
 have HYS : Hid (∀ w' m v, makeE n told l held = 0 → Below w.heap.size w w' → CpsAt (fun b => w.heap.size ≤ b) w' m (mkO told l) → CpsAt (fun b => w.heap.size ≤ b) w' v (mkN l) → MkV n told l held w (.returned (.tuple #[rmv ⟨n, paidV (sum (mkO told l)) held, heldV (sum (mkO told l)) held, mkO told l⟩ m, v, .int .i64 (restV (sum (mkO told l)) held), .int .i64 0])) w') := fun w' m v h hb h1 h2 => mk_yes h hb h1 h2
 obtain ⟨hh1, hh2⟩ := hh
 clear ht hl hzt hz hs hb0
 by_cases hc : (0 ≤ n ∧ n ≤ 999999999) ∧ 0 ≤ held ∧ held ≤ 1152921504606846976
 case neg =>
  have hE := make_1 (told := told) (l := l) hc
  have HQ := Lib.hid fun w' => HNO.out 1 w' hE (by decide)
  clear hE HNO HYS HBI HLO HZ HSm HZT
  go_enter Try.func11, Try.ntmps11
  go_upto_region 1 with fail
  generalize (w.alloc (.cells (#[.int .i64 0, .int .i64 0, .int .i64 0, .slice none 0 0] : Array Value) 27)) = W at *
  generalize hp : w.heap.size = p at *
  obtain ⟨y0, y1, y2, y3⟩ := four HY.out
  obtain ⟨z0, z1, z2, z3⟩ := frz4 HY.out
  cases qm : mayB n
  case false =>
   go_wp2_with (first | (go_at_call 24; refine (HMY.out _).mono ?_; rintro e w9 ⟨rfl, hw⟩; rw [hw, qm]; clear hw w9))
   have HYF := Lib.hid (put4_heap HY.out (.int .i64 0) (.int .i64 0) (.int .i64 0) (.slice none 0 0))
   have HBF : Hid (Below p w ((((W.setCell ⟨p, 0, none⟩ (.int .i64 0)).setCell ⟨p, 1, none⟩ (.int .i64 0)).setCell ⟨p, 2, none⟩ (.int .i64 0)).setCell ⟨p, 3, none⟩ (.slice none 0 0))) := put4_below HB.out p (Nat.le_refl p) (.int .i64 0) (.int .i64 0) (.int .i64 0) (.slice none 0 0)
   generalize ((((W.setCell ⟨p, 0, none⟩ (.int .i64 0)).setCell ⟨p, 1, none⟩ (.int .i64 0)).setCell ⟨p, 2, none⟩ (.int .i64 0)).setCell ⟨p, 3, none⟩ (.slice none 0 0)) = WF at *
   obtain ⟨n0, n1, n2, n3⟩ := four HYF.out
   refine bodyPost_ret (v := .tuple #[.agg (#[.int .i64 0, .int .i64 0, .int .i64 0, .slice none 0 0] : Array Value), .slice none 0 0, .int .i64 0, .int .i64 1]) (by simp [results, Try.results11, go_sem, n0, n1, n2, n3]) rfl ?_
   first | exact HQ.out _ HBF.out | exact HQ.out _ (by rw [hp]; exact HBF.out)
  have hn : 0 ≤ n ∧ n ≤ 999999999 := by simpa [mayB] using qm
  by_cases q1 : held < 0
  ·go_wp2_with (first | (go_at_call 24; refine (HMY.out _).mono ?_; rintro e w9 ⟨rfl, hw⟩; rw [hw, qm]; clear hw w9))
   have HYF := Lib.hid (put4_heap HY.out (.int .i64 0) (.int .i64 0) (.int .i64 0) (.slice none 0 0))
   have HBF : Hid (Below p w ((((W.setCell ⟨p, 0, none⟩ (.int .i64 0)).setCell ⟨p, 1, none⟩ (.int .i64 0)).setCell ⟨p, 2, none⟩ (.int .i64 0)).setCell ⟨p, 3, none⟩ (.slice none 0 0))) := put4_below HB.out p (Nat.le_refl p) (.int .i64 0) (.int .i64 0) (.int .i64 0) (.slice none 0 0)
   generalize ((((W.setCell ⟨p, 0, none⟩ (.int .i64 0)).setCell ⟨p, 1, none⟩ (.int .i64 0)).setCell ⟨p, 2, none⟩ (.int .i64 0)).setCell ⟨p, 3, none⟩ (.slice none 0 0)) = WF at *
   obtain ⟨n0, n1, n2, n3⟩ := four HYF.out
   refine bodyPost_ret (v := .tuple #[.agg (#[.int .i64 0, .int .i64 0, .int .i64 0, .slice none 0 0] : Array Value), .slice none 0 0, .int .i64 0, .int .i64 1]) (by simp [results, Try.results11, go_sem, n0, n1, n2, n3]) rfl ?_
   first | exact HQ.out _ HBF.out | exact HQ.out _ (by rw [hp]; exact HBF.out)
  have q2 : 1152921504606846976 < held := by omega
  go_wp2_with (first | (go_at_call 24; refine (HMY.out _).mono ?_; rintro e w9 ⟨rfl, hw⟩; rw [hw, qm]; clear hw w9))
  have HYF := Lib.hid (put4_heap HY.out (.int .i64 0) (.int .i64 0) (.int .i64 0) (.slice none 0 0))
  have HBF : Hid (Below p w ((((W.setCell ⟨p, 0, none⟩ (.int .i64 0)).setCell ⟨p, 1, none⟩ (.int .i64 0)).setCell ⟨p, 2, none⟩ (.int .i64 0)).setCell ⟨p, 3, none⟩ (.slice none 0 0))) := put4_below HB.out p (Nat.le_refl p) (.int .i64 0) (.int .i64 0) (.int .i64 0) (.slice none 0 0)
  generalize ((((W.setCell ⟨p, 0, none⟩ (.int .i64 0)).setCell ⟨p, 1, none⟩ (.int .i64 0)).setCell ⟨p, 2, none⟩ (.int .i64 0)).setCell ⟨p, 3, none⟩ (.slice none 0 0)) = WF at *
  obtain ⟨n0, n1, n2, n3⟩ := four HYF.out
  refine bodyPost_ret (v := .tuple #[.agg (#[.int .i64 0, .int .i64 0, .int .i64 0, .slice none 0 0] : Array Value), .slice none 0 0, .int .i64 0, .int .i64 1]) (by simp [results, Try.results11, go_sem, n0, n1, n2, n3]) rfl ?_
  first | exact HQ.out _ HBF.out | exact HQ.out _ (by rw [hp]; exact HBF.out)
 have qm : mayB n = true := by simp [mayB, hc.1.1, hc.1.2]
 obtain ⟨-, hd1, hd2⟩ := id hc
 have q1 : ¬ held < 0 := by omega
 have q2 : ¬ 1152921504606846976 < held := by omega
 by_cases hT : toldE [] told = 0
 case neg =>
  have hE := make_2 (l := l) hc hT
  have HQ := Lib.hid fun w' => HNO.out _ w' hE hT
  have hTb : (toldE [] told != 0) = true := by simpa using hT
  unfold ByV at HBI
  generalize toldE [] told = ET at *
  clear hE HNO HYS HLO HZ HSm HZT
  go_enter Try.func11, Try.ntmps11
  go_upto_region 1 with fail
  generalize (w.alloc (.cells (#[.int .i64 0, .int .i64 0, .int .i64 0, .slice none 0 0] : Array Value) 27)) = W at *
  generalize hp : w.heap.size = p at *
  have HYK : Hid (∀ w3, Below W.heap.size W w3 → w3.heap[p]? = some (.cells (#[.int .i64 0, .int .i64 0, .int .i64 0, .slice none 0 0] : Array Value) 27 (0, 0)) ∧ Below p w w3) := fun w3 hb => ⟨keepB HY.out hb, HB.out.trans (hb.mono (by have := HS0.out; omega))⟩
  obtain ⟨y0, y1, y2, y3⟩ := four HY.out
  obtain ⟨z0, z1, z2, z3⟩ := frz4 HY.out
  go_wp2_with (first
   | (go_at_call 24; refine (HMY.out _).mono ?_; rintro e w9 ⟨rfl, hw⟩; rw [hw, qm]; clear hw w9)
   | (go_at_call 25; refine HBI.out.mono ?_; rintro e w3 ⟨⟨mv, rfl, -, -⟩, hb3⟩; have HY3 := Lib.hid (HYK.out w3 hb3).1; have HB3 := Lib.hid (HYK.out w3 hb3).2; clear hb3; obtain ⟨y0, y1, y2, y3⟩ := four HY3.out; obtain ⟨z0, z1, z2, z3⟩ := frz4 HY3.out))
  have HYF := Lib.hid (put4_heap HY3.out (.int .i64 0) (.int .i64 0) (.int .i64 0) (.slice none 0 0))
  have HBF : Hid (Below p w ((((w3.setCell ⟨p, 0, none⟩ (.int .i64 0)).setCell ⟨p, 1, none⟩ (.int .i64 0)).setCell ⟨p, 2, none⟩ (.int .i64 0)).setCell ⟨p, 3, none⟩ (.slice none 0 0))) := put4_below HB3.out p (Nat.le_refl p) (.int .i64 0) (.int .i64 0) (.int .i64 0) (.slice none 0 0)
  generalize ((((w3.setCell ⟨p, 0, none⟩ (.int .i64 0)).setCell ⟨p, 1, none⟩ (.int .i64 0)).setCell ⟨p, 2, none⟩ (.int .i64 0)).setCell ⟨p, 3, none⟩ (.slice none 0 0)) = WF at *
  obtain ⟨n0, n1, n2, n3⟩ := four HYF.out
  refine bodyPost_ret (v := .tuple #[.agg (#[.int .i64 0, .int .i64 0, .int .i64 0, .slice none 0 0] : Array Value), .slice none 0 0, .int .i64 0, .int .i64 ET]) (by simp [results, Try.results11, go_sem, n0, n1, n2, n3]) rfl ?_
  first | exact HQ.out _ HBF.out | exact HQ.out _ (by rw [hp]; exact HBF.out)
 have hM3 := make_3 (l := l) hc hT
 have HM3 := Lib.hid hM3
 have HTD := Lib.hid (told_of hT)
 unfold ByV at HBI
 rw [hT] at HBI
 have hTb : (toldE [] told != 0) = false := by simpa using hT
 have HCH : Hid (∀ W q nm, w.heap.size < q → Below w.heap.size w W → MpIs (fun b => b < w.heap.size + 1) W q nm told → Calls Try.prog 26 #[.map (some q), .slice a l.length cap] W fun e w' => ChV told l q W e w') := fun W q nm hq hb hm => by
  refine changes_any told l q nm _ W ?_ HTD.out.1 (fun x hx => ⟨HZT.out x hx, (HTD.out.2 x hx).2⟩) ((HLO.out W hb).move (moves_weak W fun b _ hlt => by omega)) HZ.out HSm.out hll
  obtain ⟨D, r1, r2, r3, r4⟩ := hm
  exact ⟨D, r1, r2, r3, fun s => by obtain ⟨m, u1, u2⟩ := r4 s; exact ⟨m, u1, u2.move (moves_weak W fun b _ hlt => by omega)⟩⟩
 by_cases hE2 : mkE told l = 0
 case neg =>
  have HQ := Lib.hid fun w' => HNO.out _ w' (hM3) hE2
  have hEb : (mkE told l != 0) = true := by simpa using hE2
  unfold ChV at HCH
  generalize mkE told l = EM at *
  clear hM3 HM3 HNO HYS HLO HZ HSm HZT
  go_enter Try.func11, Try.ntmps11
  go_upto_region 1 with fail
  generalize (w.alloc (.cells (#[.int .i64 0, .int .i64 0, .int .i64 0, .slice none 0 0] : Array Value) 27)) = W at *
  generalize hp : w.heap.size = p at *
  rw [HS0.out] at HBI
  have HYK : Hid (∀ w3, Below (p + 1) W w3 → w3.heap[p]? = some (.cells (#[.int .i64 0, .int .i64 0, .int .i64 0, .slice none 0 0] : Array Value) 27 (0, 0)) ∧ Below p w w3) := fun w3 hb => ⟨(hb.block p (by omega)).trans HY.out, HB.out.trans (hb.mono (by omega))⟩
  obtain ⟨y0, y1, y2, y3⟩ := four HY.out
  obtain ⟨z0, z1, z2, z3⟩ := frz4 HY.out
  go_wp2_with (first
   | (go_at_call 24; refine (HMY.out _).mono ?_; rintro e w9 ⟨rfl, hw⟩; rw [hw, qm]; clear hw w9)
   | (go_at_call 25; refine HBI.out.mono ?_; rintro e w3 ⟨⟨mv, rfl, hmv, -⟩, hb3⟩; obtain ⟨q, nm, rfl, hq, -, hmp⟩ := hmv (by first | rfl | trivial); have HCC := Lib.hid (HCH.out w3 q nm (by omega) (HYK.out w3 hb3).2 hmp); have HW3 := Lib.hid hb3; have HQ3 := Lib.hid hq; clear hb3 hq hmp hmv)
   | (go_at_call 26; refine HCC.out.mono ?_; rintro e w4 ⟨⟨v1, v2, rfl, -, hvv⟩, hb4⟩; obtain ⟨rfl, rfl⟩ := hvv hE2; have hb5 : Below (p + 1) W w4 := HW3.out.trans (hb4.mono HQ3.out); have HY4 := Lib.hid (HYK.out w4 hb5).1; have HB4 := Lib.hid (HYK.out w4 hb5).2; clear hb4 hb5 hvv; obtain ⟨y0, y1, y2, y3⟩ := four HY4.out; obtain ⟨z0, z1, z2, z3⟩ := frz4 HY4.out))
  have HYF := Lib.hid (put4_heap HY4.out (.int .i64 0) (.int .i64 0) (.int .i64 0) (.slice none 0 0))
  have HBF : Hid (Below p w ((((w4.setCell ⟨p, 0, none⟩ (.int .i64 0)).setCell ⟨p, 1, none⟩ (.int .i64 0)).setCell ⟨p, 2, none⟩ (.int .i64 0)).setCell ⟨p, 3, none⟩ (.slice none 0 0))) := put4_below HB4.out p (Nat.le_refl p) (.int .i64 0) (.int .i64 0) (.int .i64 0) (.slice none 0 0)
  generalize ((((w4.setCell ⟨p, 0, none⟩ (.int .i64 0)).setCell ⟨p, 1, none⟩ (.int .i64 0)).setCell ⟨p, 2, none⟩ (.int .i64 0)).setCell ⟨p, 3, none⟩ (.slice none 0 0)) = WF at *
  obtain ⟨n0, n1, n2, n3⟩ := four HYF.out
  refine bodyPost_ret (v := .tuple #[.agg (#[.int .i64 0, .int .i64 0, .int .i64 0, .slice none 0 0] : Array Value), .slice none 0 0, .int .i64 0, .int .i64 EM]) (by simp [results, Try.results11, go_sem, n0, n1, n2, n3]) rfl ?_
  first | exact HQ.out _ HBF.out | exact HQ.out _ (by rw [hp]; exact HBF.out)
 have HOB := Lib.hid (mkO_bd hT hE2)
 have HQ : Hid (∀ w' m v, Below w.heap.size w w' → CpsAt (fun b => w.heap.size ≤ b) w' m (mkO told l) → CpsAt (fun b => w.heap.size ≤ b) w' v (mkN l) → _) := fun w' m v hb h1 h2 => HYS.out w' m v (hM3.trans hE2) hb h1 h2
 obtain ⟨hs1, hs2⟩ := mkO_sum hT hE2 hll
 obtain ⟨⟨hv1, hv2⟩, hv3, hv4⟩ := held_bd hs1 hs2 hd1 hd2
 have HOL : Hid ((mkO told l).length ≤ 2000) := by have := mkO_len l told; show _ ≤ _; omega
 unfold ChV at HCH
 rw [hE2] at HCH
 have HHV : Hid (heldV (sum (mkO told l)) held = if sum (mkO told l) < held then sum (mkO told l) else held) := rfl
 clear hM3 HM3 HNO HYS HLO HZ HSm HZT HTD hT hTb hE2 hc
 generalize mkO told l = OO at *
 generalize mkN l = NN at *
 have HSU : Hid (∀ W m, CpsAt All W m OO → Calls Try.prog 19 #[rmv ⟨n, 0, 0, OO⟩ m] W fun e w' => e = .returned (.int .i64 (sum OO)) ∧ Below W.heap.size W w') := fun W m h => sum_any ⟨n, 0, 0, OO⟩ m W h HOL.out (fun x hx => (HOB.out x hx).2)
 generalize sum OO = S at *
 generalize heldV S held = HV at *
 generalize paidV S held = PV at *
 generalize restV S held = RV at *
 have hmin : (if S < held then S else held) = HV := HHV.out.symm
 clear HHV hs1 hs2
 go_enter Try.func11, Try.ntmps11
 go_upto_region 1 with fail
 generalize (w.alloc (.cells (#[.int .i64 0, .int .i64 0, .int .i64 0, .slice none 0 0] : Array Value) 27)) = W at *
 generalize hp : w.heap.size = p at *
 rw [HS0.out] at HBI
 have HYK : Hid (∀ w3, Below (p + 1) W w3 → w3.heap[p]? = some (.cells (#[.int .i64 0, .int .i64 0, .int .i64 0, .slice none 0 0] : Array Value) 27 (0, 0)) ∧ Below p w w3) := fun w3 hb => ⟨(hb.block p (by omega)).trans HY.out, HB.out.trans (hb.mono (by omega))⟩
 obtain ⟨y0, y1, y2, y3⟩ := four HY.out
 obtain ⟨z0, z1, z2, z3⟩ := frz4 HY.out
 go_upto_region 9 with (first
  | (go_at_call 24; refine (HMY.out _).mono ?_; rintro e w9 ⟨rfl, hw⟩; rw [hw, qm]; clear hw w9)
  | (go_at_call 25; refine HBI.out.mono ?_; rintro e w3 ⟨⟨mv, rfl, hmv, -⟩, hb3⟩; obtain ⟨q, nm, rfl, hq, -, hmp⟩ := hmv (by first | rfl | trivial); have HCC := Lib.hid (HCH.out w3 q nm (by omega) (HYK.out w3 hb3).2 hmp); have HL3 := Lib.hid hmp.lt; have HW3 := Lib.hid hb3; have HQ3 := Lib.hid hq; clear hb3 hq hmp hmv)
  | (go_at_call 26; refine HCC.out.mono ?_; rintro e w4 ⟨⟨v1, v2, rfl, hvv, -⟩, hb4⟩; obtain ⟨hc1, hc2⟩ := hvv (by first | rfl | trivial); obtain ⟨a1, k1, rfl, -, -⟩ := hc1.form; obtain ⟨a2, k2, rfl, -, -⟩ := hc2.form; have hb5 : Below (p + 1) W w4 := HW3.out.trans (hb4.mono HQ3.out); have HY4 := Lib.hid (HYK.out w4 hb5).1; have HB4 := Lib.hid (HYK.out w4 hb5).2; have HC1 : Hid (CpsAt (fun b => p + 1 ≤ b ∧ b < w4.heap.size) w4 (.slice a1 OO.length k1) OO) := (Sv.CpsAt.move hc1 (moves_weak w4 fun b hb k => ⟨by have h1 := HL3.out; have h2 := HQ3.out; omega, hb⟩)); have HC2 : Hid (CpsAt (fun b => p + 1 ≤ b ∧ b < w4.heap.size) w4 (.slice a2 NN.length k2) NN) := (Sv.CpsAt.move hc2 (moves_weak w4 fun b hb k => ⟨by have h1 := HL3.out; have h2 := HQ3.out; omega, hb⟩)); have HP4 : Hid (p + 1 ≤ w4.heap.size) := (by have h1 := hb5.size; have h2 := HS0.out; show _ ≤ _; omega); clear hb4 hb5 hvv hc1 hc2))
 have HX5 := Lib.hid (alloc_new w4 (#[.int .i64 n, .int .i64 0, .int .i64 0, (.slice a1 OO.length k1)] : Array Value) 27)
 have HSU5 := Lib.hid (HSU.out (w4.alloc (.cells (#[.int .i64 n, .int .i64 0, .int .i64 0, (.slice a1 OO.length k1)] : Array Value) 27)) (.slice a1 OO.length k1) (CpsAt.all (cps_far HC1.out (by simp) (fun b hb => (below_alloc w4 _).block b hb.2))))
 have HF7 : Hid (∀ w6, Below (w4.alloc (.cells (#[.int .i64 n, .int .i64 0, .int .i64 0, (.slice a1 OO.length k1)] : Array Value) 27)).heap.size (w4.alloc (.cells (#[.int .i64 n, .int .i64 0, .int .i64 0, (.slice a1 OO.length k1)] : Array Value) 27)) w6 → w6.heap[w4.heap.size]? = some (.cells (#[.int .i64 n, .int .i64 0, .int .i64 0, (.slice a1 OO.length k1)] : Array Value) 27 (0, 0)) ∧ ((w6.setCell ⟨w4.heap.size, 2, none⟩ (.int .i64 HV)).setCell ⟨w4.heap.size, 1, none⟩ (.int .i64 PV)).heap[w4.heap.size]? = some (.cells (#[.int .i64 n, .int .i64 PV, .int .i64 HV, (.slice a1 OO.length k1)] : Array Value) 27 (0, 0)) ∧ ((w6.setCell ⟨w4.heap.size, 2, none⟩ (.int .i64 HV)).setCell ⟨w4.heap.size, 1, none⟩ (.int .i64 PV)).heap[p]? = some (.cells (#[.int .i64 0, .int .i64 0, .int .i64 0, .slice none 0 0] : Array Value) 27 (0, 0)) ∧ Below p w ((w6.setCell ⟨w4.heap.size, 2, none⟩ (.int .i64 HV)).setCell ⟨w4.heap.size, 1, none⟩ (.int .i64 PV)) ∧ CpsAt (fun b => p + 1 ≤ b ∧ b < w4.heap.size) ((w6.setCell ⟨w4.heap.size, 2, none⟩ (.int .i64 HV)).setCell ⟨w4.heap.size, 1, none⟩ (.int .i64 PV)) (.slice a1 OO.length k1) OO ∧ CpsAt (fun b => p + 1 ≤ b ∧ b < w4.heap.size) ((w6.setCell ⟨w4.heap.size, 2, none⟩ (.int .i64 HV)).setCell ⟨w4.heap.size, 1, none⟩ (.int .i64 PV)) (.slice a2 NN.length k2) NN) := fun w6 hb => by
  have hp4 := HP4.out
  have h5 : Below w4.heap.size w4 w6 := below_trans (below_alloc w4 _) hb
  have h6 : w6.heap[w4.heap.size]? = some (.cells (#[.int .i64 n, .int .i64 0, .int .i64 0, (.slice a1 OO.length k1)] : Array Value) 27 (0, 0)) := keepB HX5.out hb
  have hsz : w4.heap.size ≤ ((w6.setCell ⟨w4.heap.size, 2, none⟩ (.int .i64 HV)).setCell ⟨w4.heap.size, 1, none⟩ (.int .i64 PV)).heap.size := by have := h5.size; simp; omega
  have hkp : ∀ b, b < w4.heap.size → ((w6.setCell ⟨w4.heap.size, 2, none⟩ (.int .i64 HV)).setCell ⟨w4.heap.size, 1, none⟩ (.int .i64 PV)).heap[b]? = w4.heap[b]? := fun b hlt => (Below.heap_setCell _ _ _ _ (show b ≠ w4.heap.size by omega)).trans ((Below.heap_setCell _ _ _ _ (show b ≠ w4.heap.size by omega)).trans (h5.block b hlt))
  refine ⟨h6, ?_, (hkp p (by omega)).trans HY4.out, HB4.out.trans (((h5.setCell (p := ⟨w4.heap.size, 2, none⟩) (Nat.le_refl _) _).setCell (p := ⟨w4.heap.size, 1, none⟩) (Nat.le_refl _) _).mono (by omega)), cps_far HC1.out hsz fun b hb => hkp b hb.2, cps_far HC2.out hsz fun b hb => hkp b hb.2⟩
  have e1 := heap_set (heap_set h6 2 (.int .i64 HV)) 1 (.int .i64 PV)
  rw [e1]; rfl
 go_upto_region 11 with (first
  | (go_at_call 19; refine HSU5.out.mono ?_; rintro e w6 ⟨rfl, hb6⟩; have HG := Lib.hid (HF7.out w6 hb6); clear hb6))
 clear HF7 HX5 HSU5 HC1 HC2 HY4 HB4 y0 y1 y2 y3 z0 z1 z2 z3
 generalize hpr : w4.heap.size = pr at *
 obtain ⟨x0, x1, x2, x3⟩ := four HG.out.1
 obtain ⟨u0, u1, u2, u3⟩ := frz4 HG.out.1
 go_upto_region 13 with (rw [hmin])
 generalize ((w6.setCell ⟨pr, 2, none⟩ (.int .i64 HV)).setCell ⟨pr, 1, none⟩ (.int .i64 PV)) = W7 at *
 obtain ⟨-, hx7, hy7, hb7, hc17, hc27⟩ := HG.out
 have HX7 := Lib.hid hx7
 have HY7 := Lib.hid hy7
 have HB7 := Lib.hid hb7
 have HC17 := Lib.hid hc17
 have HC27 := Lib.hid hc27
 have HPP : Hid (p < pr) := by have := HP4.out; show _ < _; omega
 have HDR : Hid (Below W7.heap.size W7 W7.drew) := Below.drew (Below.refl W7.heap.size W7)
 have HPL : Hid (pr < W7.heap.size) := (Array.getElem?_eq_some_iff.1 hx7).1
 have HXK : Hid (∀ Wx, W7.grownBy Wx (some p) → Wx.heap[pr]? = some (.cells (#[.int .i64 n, .int .i64 PV, .int .i64 HV, (.slice a1 OO.length k1)] : Array Value) 27 (0, 0))) := fun Wx hg => (hg.block pr HPL.out (fun e => by have := HPP.out; injection e with e; omega)).trans HX7.out
 clear x0 x1 x2 x3 u0 u1 u2 u3 hx7 hy7 hb7 hc17 hc27 HG hpr
 refine Ri.wp_region_lastingB (by kernel_rfl) (by kernel_rfl) (by kernel_rfl) (fun Wx => W7.grownBy Wx (some p) ∧ ∃ c0 c1 c2 c3 : Value, Wx.heap[p]? = some (.cells #[c0, c1, c2, c3] 27 (0, 0))) (fun kz vs wz => (fun kx vx wx => match kx with | 0 => vx = .agg (#[.int .i64 n, .int .i64 PV, .int .i64 HV, (.slice a1 OO.length k1)] : Array Value) | 1 => vx = (.slice a2 NN.length k2) | 2 => vx = .int .i64 held | 3 => vx = .pointer (some ⟨pr, 2, none⟩) | 4 => vx = .int .i64 HV | 5 => vx = .int .i64 RV | 6 => wx.heap[p]? = some (.cells (#[.int .i64 n, .int .i64 PV, .int .i64 HV, (.slice a1 OO.length k1)] : Array Value) 27 (0, 0)) | 7 => vx = (.slice a2 NN.length k2) | 8 => vx = .int .i64 RV | 9 => vx = .int .i64 0 | _ => True : Nat → Value → World → Prop) kz (vs kz) wz) (fun kz => [kz]) (by kernel_rfl) (fun jz vs iz vz wz hiz hz => Ri.loc_own (F := (fun kx vx wx => match kx with | 0 => vx = .agg (#[.int .i64 n, .int .i64 PV, .int .i64 HV, (.slice a1 OO.length k1)] : Array Value) | 1 => vx = (.slice a2 NN.length k2) | 2 => vx = .int .i64 held | 3 => vx = .pointer (some ⟨pr, 2, none⟩) | 4 => vx = .int .i64 HV | 5 => vx = .int .i64 RV | 6 => wx.heap[p]? = some (.cells (#[.int .i64 n, .int .i64 PV, .int .i64 HV, (.slice a1 OO.length k1)] : Array Value) 27 (0, 0)) | 7 => vx = (.slice a2 NN.length k2) | 8 => vx = .int .i64 RV | 9 => vx = .int .i64 0 | _ => True : Nat → Value → World → Prop)) jz vs iz vz wz hiz hz) ⟨grown_of HDR.out _, _, _, _, _, HY7.out⟩ ⟨⟨rfl, ?_⟩, ⟨rfl, ?_⟩, ⟨rfl, ?_⟩, ⟨rfl, ?_⟩, ⟨rfl, ?_⟩, ⟨rfl, ?_⟩, ⟨rfl, ?_⟩, ⟨rfl, ?_⟩, ⟨rfl, ?_⟩, ⟨rfl, ?_⟩, trivial⟩ ?_
 ·intro vs Wx A hA hB hpre K hK
  have e16 := (hA 16).trans (show _ = Value.pointer (some ⟨pr, 0, none⟩) by kernel_rfl)
  obtain ⟨x0, x1, x2, x3⟩ := four (HXK.out Wx hB.1)
  clear hA hpre
  go_simp
  first | exact hK _ _ hB (by trivial) (fun _ _ h => h) | (rw [if_neg (by omega)]; go_simp; exact hK _ _ hB rfl (fun _ _ h => h))
 ·intro vs Wx A hA hB hpre K hK
  have e15 := (hA 15).trans (show _ = Value.slice a2 NN.length k2 by kernel_rfl)
  clear hA hpre
  go_simp
  first | exact hK _ _ hB (by trivial) (fun _ _ h => h) | (rw [if_neg (by omega)]; go_simp; exact hK _ _ hB rfl (fun _ _ h => h))
 ·intro vs Wx A hA hB hpre K hK
  have e3 := (hA 3).trans (show _ = Value.int .i64 held by kernel_rfl)
  clear hA hpre
  go_simp
  first | exact hK _ _ hB (by trivial) (fun _ _ h => h) | (rw [if_neg (by omega)]; go_simp; exact hK _ _ hB rfl (fun _ _ h => h))
 ·intro vs Wx A hA hB hpre K hK
  have e16 := (hA 16).trans (show _ = Value.pointer (some ⟨pr, 0, none⟩) by kernel_rfl)
  clear hA hpre
  go_simp
  first | exact hK _ _ hB (by trivial) (fun _ _ h => h) | (rw [if_neg (by omega)]; go_simp; exact hK _ _ hB rfl (fun _ _ h => h))
 ·intro vs Wx A hA hB hpre K hK
  have e67 := ((hA 67).trans (show _ = vs 3 by kernel_rfl)).trans (by repeat first | exact hpre.1 rfl | replace hpre := hpre.2)
  obtain ⟨x0, x1, x2, x3⟩ := four (HXK.out Wx hB.1)
  clear hA hpre
  go_simp
  first | exact hK _ _ hB (by trivial) (fun _ _ h => h) | (rw [if_neg (by omega)]; go_simp; exact hK _ _ hB rfl (fun _ _ h => h))
 ·intro vs Wx A hA hB hpre K hK
  have e66 := ((hA 66).trans (show _ = vs 2 by kernel_rfl)).trans (by repeat first | exact hpre.1 rfl | replace hpre := hpre.2)
  have e68 := ((hA 68).trans (show _ = vs 4 by kernel_rfl)).trans (by repeat first | exact hpre.1 rfl | replace hpre := hpre.2)
  clear hA hpre
  go_simp
  first | exact hK _ _ hB (by trivial) (fun _ _ h => h) | (rw [if_neg (by omega)]; go_simp; exact hK _ _ hB rfl (fun _ _ h => h))
 ·intro vs Wx A hA hB hpre K hK
  have e8 := (hA 8).trans (show _ = Value.pointer (some ⟨p, 0, none⟩) by kernel_rfl)
  have e64 := ((hA 64).trans (show _ = vs 0 by kernel_rfl)).trans (by repeat first | exact hpre.1 rfl | replace hpre := hpre.2)
  have hcc := hB.2.choose_spec.choose_spec.choose_spec.choose_spec
  obtain ⟨y0, y1, y2, y3⟩ := four hcc
  obtain ⟨z0, z1, z2, z3⟩ := frz4 hcc
  clear hcc
  clear hA hpre
  go_simp
  refine hK undef ((((Wx.setCell ⟨p, 0, none⟩ (.int .i64 n)).setCell ⟨p, 1, none⟩ (.int .i64 PV)).setCell ⟨p, 2, none⟩ (.int .i64 HV)).setCell ⟨p, 3, none⟩ (.slice a1 OO.length k1)) ⟨grown_put4 hB.1 (.int .i64 n) (.int .i64 PV) (.int .i64 HV) (.slice a1 OO.length k1), _, _, _, _, put4_heap hB.2.choose_spec.choose_spec.choose_spec.choose_spec (.int .i64 n) (.int .i64 PV) (.int .i64 HV) (.slice a1 OO.length k1)⟩ (put4_heap hB.2.choose_spec.choose_spec.choose_spec.choose_spec (.int .i64 n) (.int .i64 PV) (.int .i64 HV) (.slice a1 OO.length k1)) (fun jz hj hz => ?_)
  match jz, hj, hz with
  | 0, _, hz => exact hz
  | 1, _, hz => exact hz
  | 2, _, hz => exact hz
  | 3, _, hz => exact hz
  | 4, _, hz => exact hz
  | 5, _, hz => exact hz
  | 6, hj, _ => exact absurd rfl hj
  | 7, _, hz => exact hz
  | 8, _, hz => exact hz
  | 9, _, hz => exact hz
  | n + 10, _, hz => exact hz
 ·intro vs Wx A hA hB hpre K hK
  have e65 := ((hA 65).trans (show _ = vs 1 by kernel_rfl)).trans (by repeat first | exact hpre.1 rfl | replace hpre := hpre.2)
  clear hA hpre
  go_simp
  first | exact hK _ _ hB (by trivial) (fun _ _ h => h) | (rw [if_neg (by omega)]; go_simp; exact hK _ _ hB rfl (fun _ _ h => h))
 ·intro vs Wx A hA hB hpre K hK
  have e69 := ((hA 69).trans (show _ = vs 5 by kernel_rfl)).trans (by repeat first | exact hpre.1 rfl | replace hpre := hpre.2)
  clear hA hpre
  go_simp
  first | exact hK _ _ hB (by trivial) (fun _ _ h => h) | (rw [if_neg (by omega)]; go_simp; exact hK _ _ hB rfl (fun _ _ h => h))
 ·intro vs Wx A hA hB hpre K hK
  clear hA hpre
  go_simp
  first | exact hK _ _ hB (by trivial) (fun _ _ h => h) | (rw [if_neg (by omega)]; go_simp; exact hK _ _ hB rfl (fun _ _ h => h))
 intro vs Wx hB hF
 have h6 : Wx.heap[p]? = some (.cells (#[.int .i64 n, .int .i64 PV, .int .i64 HV, (.slice a1 OO.length k1)] : Array Value) 27 (0, 0)) := hF 6 (by decide)
 have h7 : vs 7 = (.slice a2 NN.length k2) := hF 7 (by decide)
 have h8 : vs 8 = .int .i64 RV := hF 8 (by decide)
 have h9 : vs 9 = .int .i64 0 := hF 9 (by decide)
 have hg := hB.1
 have hp4 := HP4.out
 have HBF : Hid (Below p w Wx) := HB7.out.trans ⟨hg.os, hg.tape, hg.output, hg.size, fun b hlt => hg.block b (by have h1 := HPL.out; have h2 := HPP.out; omega) (fun e => by injection e with e; omega)⟩
 have HC1 : Hid (CpsAt (fun b => p ≤ b) Wx (.slice a1 OO.length k1) OO) := Sv.CpsAt.move (cps_far HC17.out hg.size fun b hb => hg.block b (by have h1 := HPL.out; omega) (fun e => by injection e with e; omega)) (moves_weak Wx fun b _ k => by omega)
 have HC2 : Hid (CpsAt (fun b => p ≤ b) Wx (.slice a2 NN.length k2) NN) := Sv.CpsAt.move (cps_far HC27.out hg.size fun b hb => hg.block b (by have h1 := HPL.out; omega) (fun e => by injection e with e; omega)) (moves_weak Wx fun b _ k => by omega)
 obtain ⟨n0, n1, n2, n3⟩ := four h6
 clear hF hB hg h6
 simp only [Ri.puts]
 rw [h7, h8, h9]
 clear h7 h8 h9
 go_simp
 go_wp2
 refine bodyPost_ret (v := .tuple #[.agg (#[.int .i64 n, .int .i64 PV, .int .i64 HV, (.slice a1 OO.length k1)] : Array Value), (.slice a2 NN.length k2), .int .i64 RV, .int .i64 0]) (by simp [results, Try.results11, go_sem, n0, n1, n2, n3]) rfl ?_
 first | exact HQ.out Wx _ _ HBF.out HC1.out HC2.out | (have h1 := HC1.out; have h2 := HC2.out; have h3 := HBF.out; rw [← hp] at h1 h2 h3; exact HQ.out Wx _ _ h3 h1 h2)
end Go.Proofs.Ytpfpjbeofogbgaa.Re
end
