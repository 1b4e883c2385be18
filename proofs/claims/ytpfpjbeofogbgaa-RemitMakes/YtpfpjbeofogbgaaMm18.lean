/-
  Texts put together (merge.py): MChg.
-/
import Derived.BigQuiet
import Derived.Deep.Cut
import Derived.Test.YtpfpjbeofogbgaaMm16
import Derived.Test.YtpfpjbeofogbgaaMm17
import Derived.Test.YtpfpjbeofogbgaaMm4
import Derived.Test.YtpfpjbeofogbgaaMm11
import Derived.Test.YtpfpjbeofogbgaaMm8
import Derived.Test.YtpfpjbeofogbgaaMm12
set_option linter.unusedSimpArgs false
set_option linter.unusedVariables false
section
set_option maxRecDepth 100000
namespace Go.Proofs.Ytpfpjbeofogbgaa.Re
open Go.RowKit
open Sv (Ca Sr Cp SvsAt CasAt CpsAt CpCells cpv cpe cp0 four six CpOk checkE ofE ofV Sm)
open Bk (En EnsAt EnCells Cont EnOk OtsAt keepB heap_far below_alloc below_trans alloc_new heap_set add_lit ten)
open Cm (Ln Cl LnsAt clv ClOk)
open Sh (Ot)
def ChV (W : List Cp) (l : List En) (q : Nat) (w : World) (e : Ending) (w' : World) : Prop :=
 (∃ v1 v2, e = .returned (.tuple #[v1, v2, .int .i64 (mkE W l)]) ∧ (mkE W l = 0 → CpsAt (fun b => w.heap.size ≤ b) w' v1 (mkO W l) ∧ CpsAt (fun b => w.heap.size ≤ b) w' v2 (mkN l)) ∧ (mkE W l ≠ 0 → v1 = .slice none 0 0 ∧ v2 = .slice none 0 0)) ∧ Below q w w'
theorem grown_low {w w' : World} {v : Value} {B q : Nat} {L : List Cx} (ho : OwnC B w v L) (hg : w.grownBy w' v.ownBlock) (hq : q < B) (hs : q < w.heap.size) : Below q w w' ∧ w'.heap[q]? = w.heap[q]? :=
 ⟨⟨hg.os, hg.tape, hg.output, hg.size, fun k hk => hg.block k (by omega) (fun e => by have := (ho.lt e.symm).1; omega)⟩, hg.block q hs (fun e => by have := (ho.lt e.symm).1; omega)⟩
theorem grown_app {a b c d : World} {v u : Option Nat} (h : a.grownBy b v) (hb : Below b.heap.size b c) (hg : c.grownBy d u) (hl : ∀ g, u = some g → g < b.heap.size) (hu : u = v ∨ ∃ g, u = some g ∧ a.heap.size ≤ g) : a.grownBy d v := by
 refine ⟨hg.os.trans (hb.os.trans h.os), hg.tape.trans (hb.tape.trans h.tape), hg.output.trans (hb.output.trans h.output), Nat.le_trans h.size (Nat.le_trans hb.size hg.size), fun k hk hne => ?_⟩
 have h1 := h.size
 have h2 := hb.size
 refine (hg.block k (by omega) (fun e => ?_)).trans ((hb.block k (by omega)).trans (h.block k hk hne))
 rcases hu with r | ⟨g, r, hr⟩
 ·exact hne (r ▸ e)
 ·rw [r] at e; injection e with e; omega
theorem low_moves {q : Nat} {w w' : World} (h : Below q w w') : Moves (fun b => b < q) (fun b => b < q) w w' := ⟨h.size, fun b _ hlt => ⟨hlt, h.block b hlt⟩⟩
set_option maxHeartbeats 32000000 in
theorem changes_any (W : List Cp) (l : List En) (q n : Nat) (v : Value) (w : World) (hM : MpIs (fun b => b < q) w q n W) (hN : (ids W).Nodup) (hW : ∀ x ∈ W, CpOk x ∧ checkE x = 0) (hl : EnsAt (fun b => b < q) w v l) (hz : ∀ y ∈ l, EnOk y) (hs : ∀ y ∈ l, Sm y.cl y.outs) (hlen : l.length ≤ 1000) :
  Calls Try.prog 26 #[.map (some q), v] w fun e w' => ChV W l q w e w' := by
 have hlall := hl.all
 obtain ⟨a, cap, rfl, f1, f2⟩ := hl.form
 have hq0 := hM.lt
 obtain ⟨B, hB⟩ : ∃ B, B = w.heap.size := ⟨_, rfl⟩
 obtain ⟨E, hE⟩ : ∃ E, mkE W l = E := ⟨_, rfl⟩
 obtain ⟨O, hO⟩ : ∃ O, mkO W l = O := ⟨_, rfl⟩
 obtain ⟨NN, hNN⟩ : ∃ N, mkN l = N := ⟨_, rfl⟩
 have HL : Hid (∀ W', Below q w W' → EnsAt (fun b => b < q) W' (.slice a l.length cap) l) := fun W' hb => hl.move (low_moves hb)
 have HZ := Lib.hid hz
 have HSm := Lib.hid hs
 have HNO : Hid (∀ w', E ≠ 0 → Below q w w' → ChV W l q w (.returned (.tuple #[.slice none 0 0, .slice none 0 0, .int .i64 E])) w') := fun w' h0 hb => ⟨⟨_, _, by rw [hE], fun h => absurd (hE.symm.trans h) h0, fun _ => ⟨rfl, rfl⟩⟩, hb⟩
 have HYS : Hid (∀ w' v1 v2, E = 0 → Below q w w' → CpsAt (fun b => B ≤ b) w' v1 O → CpsAt (fun b => B ≤ b) w' v2 NN → ChV W l q w (.returned (.tuple #[v1, v2, .int .i64 0])) w') := fun w' v1 v2 h0 hb h1 h2 => by
  subst hB hO hNN
  exact ⟨⟨_, _, by rw [hE, h0], fun _ => ⟨h1, h2⟩, fun h => absurd (hE.trans h0) h⟩, hb⟩
 have HE0 : Hid (mkE W (l.drop 0) = E) := hE
 have HO0 : Hid (E = 0 → ([] : List Cx).map (·.c) ++ mkO W (l.drop 0) = O) := fun _ => hO
 have HN0 : Hid (E = 0 → ([] : List Cx).map (·.c) ++ mkN (l.drop 0) = NN) := fun _ => hNN
 have HM0 := Lib.hid hM
 have HNd0 := Lib.hid hN
 have HW0 := Lib.hid hW
 have HTw0 : Hid (Two B w (.slice none 0 0) (.slice none 0 0) [] []) := Two.nil B w
 have HqB : Hid (q < B) := by rw [hB]; exact hq0
 have HBR : Hid (Below q w w) := Below.refl _ _
 have HBS : Hid (∀ w', Below q w w' → B ≤ w'.heap.size) := fun w' hb => by rw [hB]; exact hb.size
 clear hlall hM hN hW hl hz hs hE hO hNN hq0 hB
 go_enter Try.func26, Try.ntmps26
 go_wp2
 go_loopg [4, 5, 16] (l.length) (fun gg t4 t5 t16 wr => ∃ (k : Nat) (a1 a2 : Option Addr) (n1 c1 n2 c2 nm : Nat) (L1 L2 : List Cx) (Wk : List Cp), k ≤ l.length ∧ gg = l.length - k ∧ t4 = .slice a1 n1 c1 ∧ t5 = .slice a2 n2 c2 ∧ t16 = .int .i64 k ∧ L1.length ≤ 2 * k ∧ L2.length ≤ k ∧ Hid (Two B wr (.slice a1 n1 c1) (.slice a2 n2 c2) L1 L2) ∧ Hid (MpIs (fun b => b < q) wr q nm Wk) ∧ Hid ((ids Wk).Nodup) ∧ Hid (∀ x ∈ Wk, CpOk x ∧ checkE x = 0) ∧ Hid (mkE Wk (l.drop k) = E) ∧ Hid (E = 0 → L1.map (·.c) ++ mkO Wk (l.drop k) = O) ∧ Hid (E = 0 → L2.map (·.c) ++ mkN (l.drop k) = NN) ∧ Hid (Below q w wr))
 case atStart => exact ⟨0, none, none, 0, 0, 0, 0, n, [], [], W, Nat.zero_le _, rfl, rfl, rfl, rfl, Nat.zero_le _, Nat.zero_le _, HTw0.out, HM0.out, HNd0.out, HW0.out, HE0.out, HO0.out, HN0.out, HBR.out⟩
 case round =>
  clear HTw0 HM0 HNd0 HW0 HE0 HO0 HN0 HBR
  obtain ⟨k, a1, a2, n1, c1, n2, c2, nm, L1, L2, Wk, hk, hg, rfl, rfl, rfl, hL1, hL2, HT, HM, HNd, HW, HE, HO, HN, HBk⟩ := hrel
  by_cases hlt : k < l.length
  case neg =>
   have hltz : ¬ (k : Int) < (l.length : Int) := by omega
   obtain ⟨hE2, hF⟩ := chg_end (by omega) HE.out HO.out HN.out
   by_cases hlen0 : Wk.length = 0
   ·rw [if_pos hlen0] at hE2
    have HFI := Lib.hid (HYS.out wr (.slice a1 n1 c1) (.slice a2 n2 c2) hE2 HBk.out (by rw [← (hF hE2).1]; exact HT.out.at1) (by rw [← (hF hE2).2]; exact HT.out.at2))
    have hz0 : ((Wk.length : Int)) = 0 := by omega
    clear hE2 hF
    go_wp2_with (first | (at_len; refine len_op rfl _ rfl (fun b => b < q) q nm Wk rfl HM.out ?_; rw [hz0]) | go_in)
    go_ret3
    exact HFI.out
   ·rw [if_neg hlen0] at hE2
    have HFI := Lib.hid (HNO.out wr (by omega) HBk.out)
    rw [hE2] at HFI
    have hz0 : (0 : Int) < (Wk.length : Int) := by omega
    clear hE2 hF
    generalize (Wk.length : Int) = wl at *
    go_wp2_with (first | (at_len; refine len_op rfl _ rfl (fun b => b < q) q nm Wk rfl HM.out ?_) | go_in)
    go_ret3
    exact HFI.out
  have hltz : (k : Int) < (l.length : Int) := by omega
  obtain ⟨b, o, ml, mo, rfl, hbl, hx, hcell, hcont⟩ := EnsAt.get (HL.out _ HBk.out) k hlt
  have HST := Lib.hid (chg_step hx HE.out HO.out HN.out)
  have HZy := Lib.hid (HZ.out _ (List.mem_of_getElem? hx))
  have HSy := Lib.hid (HSm.out _ (List.mem_of_getElem? hx))
  have hi1 : k < l.length := hlt
  generalize l[k] = y at *
  obtain ⟨hcl, hco⟩ : LnsAt (fun b => b < q) wr ml y.cl.lines ∧ OtsAt (fun b => b < q) wr mo y.outs := hcont
  obtain ⟨al, nl, cl, rfl⟩ : ∃ a n c, ml = .slice a n c := by
   obtain ⟨q1, q2, q3, -, -⟩ := Cm.LnsAt.form hcl
   exact ⟨q1, _, q2, q3⟩
  obtain ⟨ao, no, co, rfl⟩ : ∃ a n c, mo = .slice a n c := by
   obtain ⟨q1, q2, q3, -, -⟩ := hco.form
   exact ⟨q1, _, q2, q3⟩
  obtain ⟨c0, c1', c2', c3, c4, c5, c6, c7, c8, c9⟩ := id hcell
  obtain ⟨wo, rfl⟩ : ∃ z, z = wr := ⟨_, rfl⟩
  have HC : Hid (∀ W', Below q wo W' → LnsAt All W' (.slice al nl cl) y.cl.lines ∧ OtsAt All W' (.slice ao no co) y.outs) := fun W' hb => ⟨(hcl.move (low_moves hb)).move (moves_weak W' fun _ _ _ => trivial), (hco.move (low_moves hb)).move (moves_weak W' fun _ _ _ => trivial)⟩
  have HqW : Hid (q < wo.heap.size) := HM.out.lt
  have HBo : Hid (B ≤ wo.heap.size) := HBS.out _ HBk.out
  have HLT1 : Hid (∀ g, (Value.slice a1 n1 c1).ownBlock = some g → B ≤ g ∧ g < wo.heap.size) := fun g e => HT.out.o1.lt e
  have HLT2 : Hid (∀ g, (Value.slice a2 n2 c2).ownBlock = some g → B ≤ g ∧ g < wo.heap.size) := fun g e => HT.out.o2.lt e
  have HX1 := Lib.hid (alloc_new wo (Bk.enc y (.slice al nl cl) (.slice ao no co)) 48)
  have HB1 : Hid (Below q wo (wo.alloc (.cells (Bk.enc y (.slice al nl cl) (.slice ao no co)) 48))) := (below_alloc wo _).mono (Nat.le_of_lt HqW.out)
  have HT1 : Hid (Two B (wo.alloc (.cells (Bk.enc y (.slice al nl cl) (.slice ao no co)) 48)) (.slice a1 n1 c1) (.slice a2 n2 c2) L1 L2) := HT.out.grw (below_alloc wo _)
  have HM1 : Hid (MpIs (fun b => b < q) (wo.alloc (.cells (Bk.enc y (.slice al nl cl) (.slice ao no co)) 48)) q nm Wk) := HM.out.grw (below_alloc wo _)
  have HS1 : Hid ((wo.alloc (.cells (Bk.enc y (.slice al nl cl) (.slice ao no co)) 48)).heap.size = wo.heap.size + 1) := by show _ = _; simp
  clear hx hcell hcl hco hbl HT HM HE HO HN HL HZ HSm
  go_upto_region 5 with fail
  generalize (wo.alloc (.cells (Bk.enc y (.slice al nl cl) (.slice ao no co)) 48)) = W1 at *
  generalize hpo : wo.heap.size = po at *
  obtain ⟨x0, x1, x2, x3, x4, x5, x6, x7, x8, x9⟩ := ten HX1.out
  clear c0 c1' c2' c3 c4 c5 c6 c7 c8 c9
  have HIL : Hid (y.cl.id.length ≤ 1000000000000000) := by have := HZy.out.1.2.2.1; show _ ≤ _; omega
  obtain ⟨V, HV⟩ : ∃ V, Hid (hasB Wk y.cl.id = V) := ⟨_, rfl⟩
  obtain ⟨F, HF⟩ : ∃ F, Hid ((findC Wk y.cl.id).getD cp0 = F) := ⟨_, rfl⟩
  go_upto_region 7 with (first
   | (at_lookup; refine look_op rfl _ _ rfl (fun b => b < q) q nm Wk rfl HM1.out y.cl.id HIL.out rfl V HV.out ?_; rw [HF.out]; intro mf hmf; obtain ⟨af, nf, cf, rfl⟩ : ∃ a n c, mf = .slice a n c := (by obtain ⟨q1, q2, q3, -, -⟩ := SvsAt.form hmf; exact ⟨q1, _, q2, q3⟩); have HX2 := Lib.hid (keepB HX1.out (below_alloc W1 (.cells (cpe F (.slice af nf cf)) 38))); have HF2 := Lib.hid (alloc_new W1 (cpe F (.slice af nf cf)) 38); have HM2 := Lib.hid (HM1.out.grw (below_alloc W1 (.cells (cpe F (.slice af nf cf)) 38))); have HT2 := Lib.hid (HT1.out.grw (below_alloc W1 (.cells (cpe F (.slice af nf cf)) 38))); have HMF2 : Hid (SvsAt (fun b => b < q) (W1.alloc (.cells (cpe F (.slice af nf cf)) 38)) (.slice af nf cf) F.svs) := hmf.move (low_moves ((below_alloc W1 _).mono (Nat.le_of_lt HM1.out.lt))); have HB2 : Hid (Below q wo (W1.alloc (.cells (cpe F (.slice af nf cf)) 38))) := HB1.out.trans ((below_alloc W1 _).mono (Nat.le_of_lt HM1.out.lt)); have HS2 : Hid ((W1.alloc (.cells (cpe F (.slice af nf cf)) 38)).heap.size = po + 2) := (by have h1 := HS1.out; show _ = _; simp; omega); clear hmf)
   | (at_delete; refine del_op rfl _ _ rfl (fun b => b < q) q nm Wk rfl HM2.out HNd.out y.cl.id HIL.out (Nat.lt_irrefl q) rfl ?_; intro W3 hm3 hg3; have HM3 := Lib.hid hm3; have HT3 := Lib.hid (HT2.out.del hg3 HqB.out); have HG3 := Lib.hid hg3; clear hm3 hg3)
   | go_in)
  clear x0 x1 x2 x3 x4 x5 x6 x7 x8 x9
  have HX3 : Hid (W3.heap[po]? = some (.cells (Bk.enc y (.slice al nl cl) (.slice ao no co)) 48 (0, 0))) := by
   have h1 := HqW.out; have h2 := HS2.out
   exact (HG3.out.block po (Nat.lt_of_lt_of_eq (by omega : po < po + 2) h2.symm) (fun e => by injection e with e; omega)).trans HX2.out
  have HF3 : Hid (W3.heap[W1.heap.size]? = some (.cells (cpe F (.slice af nf cf)) 38 (0, 0))) := by
   have h1 := HqW.out; have h2 := HS2.out; have h3 := HS1.out
   exact (HG3.out.block _ (Nat.lt_of_lt_of_eq (by omega : W1.heap.size < po + 2) h2.symm) (fun e => by injection e with e; omega)).trans HF2.out
  have HMF3 : Hid (SvsAt (fun b => b < q) W3 (.slice af nf cf) F.svs) := HMF2.out.move ⟨HG3.out.size, fun b hb hlt => ⟨hlt, HG3.out.block b hb (fun e => by injection e with e; omega)⟩⟩
  have HB3 : Hid (Below q wo W3) := HB2.out.grown HG3.out (by have h1 := HqW.out; have h2 := HS2.out; exact Nat.le_trans (by omega : q ≤ po + 2) (Nat.le_of_eq h2.symm)) (fun j hj => by injection hj with hj; omega)
  have HS3 : Hid (po + 2 ≤ W3.heap.size) := by have h1 := HG3.out.size; have h2 := HS2.out; exact Nat.le_trans (Nat.le_of_eq h2.symm) h1
  have HBw3 : Hid (Below q w W3) := HBk.out.trans HB3.out
  have HS11 := Lib.hid HS1.out
  generalize hpf : W1.heap.size = pf at *
  clear HX1 HB1 HT1 HM1 HX2 HF2 HM2 HT2 HMF2 HB2 HS2 HG3 HBk
  have HFD := Lib.hid (find_is HV.out HF.out)
  have HWF : Hid (V = true → CpOk F ∧ checkE F = 0) := fun hv => HW.out F (find_in Wk y.cl.id F (by rw [HFD.out, if_pos hv])).1
  have HNd4 := Lib.hid (without_ids Wk y.cl.id HNd.out)
  have HW4 : Hid (∀ x ∈ without Wk y.cl.id, CpOk x ∧ checkE x = 0) := fun x hx => HW.out x (without_mem hx)
  have HBW3 : Hid (B ≤ W3.heap.size) := HBS.out _ HBw3.out
  clear HV HF HNd HW
  generalize without Wk y.cl.id = Wn at *
  obtain ⟨x0, x1, x2, x3, x4, x5, x6, x7, x8, x9⟩ := ten HX3.out
  obtain ⟨f0, f1', f2', f3, f4, f5⟩ := six HF3.out
  by_cases hst : y.st = 0
  case neg =>
   have hbs : (y.st != 0) = true := by simpa using hst
   obtain ⟨e1, e2, e3⟩ := ent_dead HFD.out hst
   obtain ⟨g1, g2, g3⟩ := HST.out.2 e1
   rw [e2] at g2
   rw [e3, List.append_nil] at g3
   have HE4 := Lib.hid g1
   have HO4 := Lib.hid g2
   have HN4 := Lib.hid g3
   have HTK := Lib.hid (take_any B (.slice a1 n1 c1) (.slice a2 n2 c2) L1 L2 V F (.slice af nf cf) W3 HT3.out HBW3.out (by omega) HMF3.out.all HWF.out)
   clear e1 e2 e3 g1 g2 g3 HST hst HFD
   go_wp2_with (first | (go_at_call 34; refine HTK.out.mono ?_; rintro e w4 ⟨v', M, rfl, hMc, hT4, hg4, -⟩; obtain ⟨a', n', c', rfl⟩ : ∃ a n c, v' = .slice a n c := (by obtain ⟨q1, q2, q3, -, -⟩ := hT4.o1.form; exact ⟨q1, _, q2, q3⟩); have HT4 := Lib.hid hT4; have HGL := Lib.hid (grown_low HT3.out.o1 hg4 HqB.out HM3.out.lt); have HMC := Lib.hid hMc; clear hMc hT4 hg4))
   have HM4 : Hid (MpIs (fun b => b < q) w4 q nm Wn) := HM3.out.keep HGL.out.2 (low_moves HGL.out.1)
   have HB4 : Hid (Below q w w4) := HBw3.out.trans HGL.out.1
   have HLM : Hid (M.length ≤ 1) := by
    have := congrArg List.length HMC.out
    rw [List.length_map] at this
    show _ ≤ _
    rw [this]
    split <;> simp
   have hlm : M.length ≤ 1 := HLM.out
   rw [← HMC.out, ← List.map_append] at HO4
   go_roundg (l.length - (k + 1))
   case measure => omega
   case rel => exact ⟨k + 1, a', a2, n', c', n2, c2, nm, L1 ++ M, L2, Wn, by omega, rfl, rfl, rfl, by go_num, by rw [List.length_append]; omega, by omega, HT4.out, HM4.out, HNd4.out, HW4.out, HE4.out, HO4.out, HN4.out, HB4.out⟩
  have hbs : (y.st != 0) = false := by simpa using hst
  have HOF := Lib.hid (Sv.of_any y.cl (.slice al nl cl) y.outs (.slice ao no co) W3 (HC.out W3 HB3.out).1 (HC.out W3 HB3.out).2 HZy.out.1 HSy.out)
  have HNW := Lib.hid (ent_new HFD.out hst)
  have HBD := Lib.hid (ent_bad hst)
  unfold Sv.OfV at HOF
  have HOKX : Hid (ofE y.cl y.outs = 0 → checkE (ofV y.cl y.outs) = 0) := fun h => (now_ok h).2
  generalize ofV y.cl y.outs = X at *
  generalize ofE y.cl y.outs = EE at *
  have HFA : Hid (∀ w4 (ax : Option Addr) (nx cx : Nat), Below W3.heap.size W3 w4 → SvsAt (fun b => W3.heap.size ≤ b) w4 (.slice ax nx cx) X.svs → (w4.alloc (.cells (cpe X (.slice ax nx cx)) 38)).heap[po]? = some (.cells (Bk.enc y (.slice al nl cl) (.slice ao no co)) 48 (0, 0)) ∧ (w4.alloc (.cells (cpe X (.slice ax nx cx)) 38)).heap[pf]? = some (.cells (cpe F (.slice af nf cf)) 38 (0, 0)) ∧ (w4.alloc (.cells (cpe X (.slice ax nx cx)) 38)).heap[w4.heap.size]? = some (.cells (cpe X (.slice ax nx cx)) 38 (0, 0)) ∧ SvsAt (Ofs B (.slice a1 n1 c1) (.slice a2 n2 c2)) (w4.alloc (.cells (cpe X (.slice ax nx cx)) 38)) (.slice ax nx cx) X.svs ∧ Below W3.heap.size W3 (w4.alloc (.cells (cpe X (.slice ax nx cx)) 38)) ∧ po + 2 ≤ w4.heap.size ∧ (w4.alloc (.cells (cpe X (.slice ax nx cx)) 38)).heap.size = w4.heap.size + 1) := fun w4 ax nx cx hb hs =>
   ⟨keepB (keepB HX3.out hb) (below_alloc w4 _), keepB (keepB HF3.out hb) (below_alloc w4 _), alloc_new w4 _ _, (HT3.out.off hs HBW3.out).move ⟨by simp, fun b hb' hk => ⟨hk, (below_alloc w4 _).block b hb'⟩⟩, below_trans hb (below_alloc w4 _), by have h1 := HS3.out; have h2 := hb.size; omega, by simp⟩
  by_cases hoe : EE = 0
  case neg =>
   have hbe : (EE != 0) = true := by simpa using hoe
   have hEE := HST.out.1 (by rw [HBD.out]; exact hoe)
   rw [HBD.out] at hEE
   have HFI : Hid (∀ W5, Below W3.heap.size W3 W5 → ChV W l q w (.returned (.tuple #[.slice none 0 0, .slice none 0 0, .int .i64 EE])) W5) := fun W5 hb => by
    have := HNO.out W5 (by omega) (HBw3.out.trans (hb.mono (by have h1 := HS3.out; have h2 := HqW.out; omega)))
    rwa [hEE] at this
   clear hEE hoe hst
   go_wp2_with (first | (go_at_call 35; refine HOF.out.mono ?_; rintro e w4 ⟨⟨u, rfl, hs4⟩, hb4⟩; obtain ⟨ax, nx, cx, rfl⟩ : ∃ a n c, u = .slice a n c := (by obtain ⟨q1, q2, q3, -, -⟩ := SvsAt.form hs4; exact ⟨q1, _, q2, q3⟩); have HG5 := Lib.hid (HFA.out w4 ax nx cx hb4 hs4); clear hs4 hb4))
   go_ret3
   exact HFI.out _ HG5.out.2.2.2.2.1
  have hbe : (EE != 0) = false := by simpa using hoe
  obtain ⟨g1, g2, g3⟩ := HST.out.2 (by rw [HBD.out]; exact hoe)
  obtain ⟨k1, k2, k3⟩ := HNW.out
  rw [k1] at g3
  have HE4 := Lib.hid g1
  have HO4 := Lib.hid g2
  have HN4 := Lib.hid g3
  have HK2 := Lib.hid k2
  have HK3 := Lib.hid k3
  have HXC : Hid (checkE X = 0) := by have h1 := HOKX.out hoe; exact h1
  clear g1 g2 g3 k1 k2 k3 HST HNW HBD hst HOKX
  go_upto_region 12 with (first | (go_at_call 35; refine HOF.out.mono ?_; rintro e w4 ⟨⟨u, rfl, hs4⟩, hb4⟩; obtain ⟨ax, nx, cx, rfl⟩ : ∃ a n c, u = .slice a n c := (by obtain ⟨q1, q2, q3, -, -⟩ := SvsAt.form hs4; exact ⟨q1, _, q2, q3⟩); have HG5 := Lib.hid (HFA.out w4 ax nx cx hb4 hs4); clear hs4 hb4))
  generalize w4.alloc (.cells (cpe X (.slice ax nx cx)) 38) = W5 at *
  generalize hpx : w4.heap.size = px at *
  obtain ⟨hX5, hF5, hXX5, hXS5, hB5, hP5, hS5⟩ := HG5.out
  have HT5 : Hid (Two B W5 (.slice a1 n1 c1) (.slice a2 n2 c2) L1 L2) := HT3.out.grw hB5
  have HM5 : Hid (MpIs (fun b => b < q) W5 q nm Wn) := HM3.out.grw hB5
  have HMF5 : Hid (SvsAt (fun b => b < q) W5 (.slice af nf cf) F.svs) := HMF3.out.move (low_moves (hB5.mono (by have h1 := HS3.out; have h2 := HqW.out; omega)))
  have HB5 : Hid (Below q w W5) := HBw3.out.trans (hB5.mono (by have h1 := HS3.out; have h2 := HqW.out; omega))
  have HXS5 := Lib.hid hXS5
  have HF5 := Lib.hid hF5
  have HXX5 := Lib.hid hXX5
  have HP5 := Lib.hid hP5
  have HS5 := Lib.hid hS5
  have HBW5 : Hid (B ≤ W5.heap.size) := Nat.le_trans HBW3.out hB5.size
  have HPF : Hid (pf = po + 1) := HS11.out
  clear hX5 hF5 hXX5 hXS5 hB5 hP5 hS5 HG5 HFA HT3 HM3 HMF3 HBw3 HX3 HF3 HC HB3 HS3 HOF x0 x1 x2 x3 x4 x5 x6 x7 x8 x9 f0 f1' f2' f3 f4 f5
  obtain ⟨d0, d1, d2, d3, d4, d5⟩ := six HXX5.out
  have HG6 : Hid (∀ v' w', OwnC B w' v' (L2 ++ [⟨X, (.slice ax nx cx)⟩]) → (W5.alloc (.cells (cpe X (.slice ax nx cx)) 38)).grownBy w' (Value.slice a2 n2 c2).ownBlock → (v'.ownBlock = (Value.slice a2 n2 c2).ownBlock ∨ v'.ownBlock = some (W5.alloc (.cells (cpe X (.slice ax nx cx)) 38)).heap.size) → Two B w' (.slice a1 n1 c1) v' L1 (L2 ++ [⟨X, (.slice ax nx cx)⟩]) ∧ w'.heap[pf]? = some (.cells (cpe F (.slice af nf cf)) 38 (0, 0)) ∧ w'.heap[px]? = some (.cells (cpe X (.slice ax nx cx)) 38 (0, 0)) ∧ SvsAt (fun b => b < q) w' (.slice af nf cf) F.svs ∧ MpIs (fun b => b < q) w' q nm Wn ∧ Below q w w' ∧ px < w'.heap.size ∧ B ≤ w'.heap.size) := fun v' w' ho hg hat => by
   have hb := below_alloc W5 (.cells (cpe X (.slice ax nx cx)) 38)
   have hq := HqW.out
   have hp5 := HP5.out
   have hs5 := HS5.out
   have hpf := HPF.out
   have hsz : (W5.alloc (.cells (cpe X (.slice ax nx cx)) 38)).heap.size = W5.heap.size + 1 := by simp
   have h6 := HT5.out.grw hb
   have hgl := grown_low h6.o2 hg HqB.out (by omega)
   have hbq : Below q W5 (W5.alloc (.cells (cpe X (.slice ax nx cx)) 38)) := hb.mono (by omega)
   refine ⟨(h6.swap.app ((HXS5.out.move ⟨hb.size, fun b hb' hk => ⟨⟨hk.1, hk.2.2, hk.2.1⟩, hb.block b hb'⟩⟩)) ho hg hat).swap, ?_, ?_, HMF5.out.move (low_moves (hbq.trans hgl.1)), (HM5.out.grw hb).keep hgl.2 (low_moves hgl.1), HB5.out.trans (hbq.trans hgl.1), ?_, ?_⟩
   ·exact (hg.block pf (by omega) (fun e => by have := (HLT2.out pf e.symm).2; omega)).trans (keepB HF5.out hb)
   ·exact (hg.block px (by omega) (fun e => by have := (HLT2.out px e.symm).2; omega)).trans (keepB HXX5.out hb)
   ·have := hg.size; omega
   ·have := hg.size; have := HBW5.out; omega
  have HO6 : Hid (OwnC B (W5.alloc (.cells (cpe X (.slice ax nx cx)) 38)) (.slice a2 n2 c2) L2) := (HT5.out.grw (below_alloc W5 _)).o2
  have HN6 := Lib.hid (alloc_new W5 (cpe X (.slice ax nx cx)) 38)
  have HBW6 : Hid (B ≤ (W5.alloc (.cells (cpe X (.slice ax nx cx)) 38)).heap.size) := by have := HBW5.out; show _ ≤ _; simp; omega
  go_upto_region 13 with (first | (at_builtin; refine wpList_plain (by rfl) (fun K hK => ?_); refine wp_appC _ _ rfl B (.slice a2 n2 c2) L2 rfl HO6.out _ 1 (⟨X, (.slice ax nx cx)⟩ : Cx) rfl HN6.out rfl (by omega) HBW6.out (fun v' w7 ho hg hat => ?_); obtain ⟨a3, n3, c3, rfl⟩ : ∃ a n c, v' = .slice a n c := (by obtain ⟨q1, q2, q3, -, -⟩ := ho.form; exact ⟨q1, _, q2, q3⟩); have HG7 := Lib.hid (HG6.out _ w7 ho hg hat); clear hg hat ho; refine hK _ _ ?_; clear hK))
  obtain ⟨hT7, hF7, hX7, hMF7, hM7, hB7, hP7, hBW7⟩ := HG7.out
  have HT7 := Lib.hid hT7
  have HF7 := Lib.hid hF7
  have HX7 := Lib.hid hX7
  have HMF7 := Lib.hid hMF7
  have HM7 := Lib.hid hM7
  have HB7 := Lib.hid hB7
  have HP7 := Lib.hid hP7
  have HBW7 := Lib.hid hBW7
  have HMX7 : Hid (SvsAt (Ofs B (.slice a1 n1 c1) (.slice a3 n3 c3)) w7 (.slice ax nx cx) X.svs) := hT7.c2 ⟨X, (.slice ax nx cx)⟩ (by simp)
  clear hT7 hF7 hX7 hMF7 hM7 hB7 hP7 hBW7 HG7 HG6 HO6 HN6 HBW6 HT5 HM5 HMF5 HB5 HXS5 HF5 HXX5 HBW5 d0 d1 d2 d3 d4 d5
  rw [show (L2.map (·.c) ++ [X] : List Cp) = (L2 ++ [(⟨X, (.slice ax nx cx)⟩ : Cx)]).map (·.c) by simp] at HN4
  have hl2 : (L2 ++ [(⟨X, (.slice ax nx cx)⟩ : Cx)]).length ≤ k + 1 := by rw [List.length_append]; simp; omega
  generalize (L2 ++ [(⟨X, (.slice ax nx cx)⟩ : Cx)]) = L3 at *
  obtain ⟨f0, f1', f2', f3, f4, f5⟩ := six HF7.out
  obtain ⟨d0, d1, d2, d3, d4, d5⟩ := six HX7.out
  have HXL : Hid (X.svs.length ≤ 1000000 ∧ ∀ s ∈ X.svs, s.cas.length ≤ 1000000) := small_of HXC.out
  cases V
  case false =>
   have HOX : Hid (E = 0 → (L1.map (·.c) ++ (([] : List Cp) ++ [X])) ++ mkO Wn (l.drop (k + 1)) = O) := by
    refine fun h0 => ?_
    have h1 := HK3.out (fun h => by cases h)
    have h2 := HO4.out h0
    rw [h1] at h2
    simpa [List.append_assoc] using h2
   clear HK2 HK3 HO4
   have HTZ := Lib.hid HT7.out
   have HFZ := Lib.hid HF7.out
   have HXZ := Lib.hid HX7.out
   have HMFZ := Lib.hid HMF7.out
   have HMXZ := Lib.hid HMX7.out
   have HMZ := Lib.hid HM7.out
   have HBQ := Lib.hid HB7.out
   have HPZ := Lib.hid HP7.out
   have HBZ := Lib.hid HBW7.out
   clear HT7 HF7 HX7 HMF7 HMX7 HM7 HB7 HP7 HBW7
   go_upto_region 14 with fail
   have HGR : Hid (∀ Wx, w7.grownBy Wx (Value.slice a1 n1 c1).ownBlock → Wx.heap[pf]? = some (.cells (cpe F (.slice af nf cf)) 38 (0, 0)) ∧ Wx.heap[px]? = some (.cells (cpe X (.slice ax nx cx)) 38 (0, 0)) ∧ SvsAt All Wx (.slice ax nx cx) X.svs) := fun Wx hg => by
    have hp5 := HP5.out
    have hpf := HPF.out
    have hp7 := HPZ.out
    exact ⟨(hg.block pf (by omega) (fun e => by have := (HLT1.out pf e.symm).2; omega)).trans HFZ.out, (hg.block px (by omega) (fun e => by have := (HLT1.out px e.symm).2; omega)).trans HXZ.out, HMXZ.out.move ⟨hg.size, fun b hb hk => ⟨trivial, hg.block b hb (fun e => hk.2.1 e.symm)⟩⟩⟩
   have HTK : Hid (∀ Wx, Below w7.heap.size w7 Wx → Calls Try.prog 34 #[(.slice a1 n1 c1), cpv F (.slice af nf cf), .bool false] Wx fun e w' => TkV B (.slice a1 n1 c1) (.slice a3 n3 c3) L1 L3 false F Wx e w') := fun Wx hb => take_any B (.slice a1 n1 c1) (.slice a3 n3 c3) L1 L3 false F (.slice af nf cf) Wx (HTZ.out.grw hb) (Nat.le_trans HBZ.out hb.size) (by omega) ((HMFZ.out.all).grw hb) (fun h => HWF.out (by first | exact h | trivial | cases h))
   have HDU : Hid (∀ Wx, w7.grownBy Wx (Value.slice a1 n1 c1).ownBlock → Calls Try.prog 37 #[cpv X (.slice ax nx cx)] Wx fun e w' => (∃ u, e = .returned (cpv X u) ∧ SvsAt (fun b => Wx.heap.size ≤ b) w' u X.svs) ∧ Below Wx.heap.size Wx w') := fun Wx hg => dup_any X (.slice ax nx cx) Wx (HGR.out Wx hg).2.2 HXL.out.1 HXL.out.2
   have HDR : Hid (Below w7.heap.size w7 w7.drew) := Below.drew (Below.refl w7.heap.size w7)
   have HGL := Lib.hid fun Wx (hg : w7.grownBy Wx (Value.slice a1 n1 c1).ownBlock) => grown_low HTZ.out.o1 hg HqB.out HMZ.out.lt
   clear f0 f1' f2' f3 f4 f5 d0 d1 d2 d3 d4 d5
   refine Ri.wp_region_tailW 5 (by kernel_rfl) (by kernel_rfl) (by kernel_rfl) (by decide) (by kernel_rfl) (fun Wx => w7.grownBy Wx (Value.slice a1 n1 c1).ownBlock) (fun kz vs wz => (fun kx vx wx => match kx with | 0 => vx = .slice a1 n1 c1 | 1 => vx = cpv F (.slice af nf cf) | 2 => vx = .bool false | 3 => (∃ M : List Cx, M.map (·.c) = ([] : List Cp) ∧ Two B wx vx (.slice a3 n3 c3) (L1 ++ M) L3 ∧ (vx.ownBlock = (Value.slice a1 n1 c1).ownBlock ∨ ∃ g, vx.ownBlock = some g ∧ w7.heap.size ≤ g)) | 4 => vx = cpv X (.slice ax nx cx) | _ => True : Nat → Value → World → Prop) kz (vs kz) wz) (fun lst vs Wx => (lst 3 = false → Below w7.heap.size w7 Wx) ∧ (lst 8 = false → vs 8 = Value.slice a1 n1 c1)) (fun kz => [kz]) (by kernel_rfl) (fun jz vs iz vz wz hiz hz => Ri.loc_own (F := (fun kx vx wx => match kx with | 0 => vx = .slice a1 n1 c1 | 1 => vx = cpv F (.slice af nf cf) | 2 => vx = .bool false | 3 => (∃ M : List Cx, M.map (·.c) = ([] : List Cp) ∧ Two B wx vx (.slice a3 n3 c3) (L1 ++ M) L3 ∧ (vx.ownBlock = (Value.slice a1 n1 c1).ownBlock ∨ ∃ g, vx.ownBlock = some g ∧ w7.heap.size ≤ g)) | 4 => vx = cpv X (.slice ax nx cx) | _ => True : Nat → Value → World → Prop)) jz vs iz vz wz hiz hz) (grown_of HDR.out _) ?_ ⟨⟨rfl, ?_⟩, ⟨rfl, ?_⟩, ⟨rfl, ?_⟩, ⟨rfl, ?_⟩, ⟨rfl, ?_⟩, trivial⟩ ?_
   ·intro vs hvs
    refine ⟨fun _ => HDR.out, ?_⟩
    intro _
    have h1 := congrArg (fun a => a.tmps[4]?.getD undef) hvs
    exact (show vs 8 = _ by kernel_rfl).trans (h1.trans (show _ = Value.slice a1 n1 c1 by kernel_rfl))
   ·intro vs Wx A lst hA hB hls hX hno hpre K hK
    have e4 := ((hA 4).trans (show _ = vs 8 by kernel_rfl)).trans (hX.2 (hno 8 (Or.inr (by kernel_rfl))))
    clear hA hpre
    go_simp
    first | exact hK _ _ hB (by trivial) (fun _ _ h => h) hX | (rw [if_neg (by omega)]; go_simp; exact hK _ _ hB rfl (fun _ _ h => h) hX)
   ·intro vs Wx A lst hA hB hls hX hno hpre K hK
    have e10 := (hA 10).trans (show _ = Value.pointer (some ⟨pf, 0, none⟩) by kernel_rfl)
    obtain ⟨hfx, hxx, -⟩ := HGR.out Wx hB
    obtain ⟨f0, f1', f2', f3, f4, f5⟩ := six hfx
    obtain ⟨d0, d1, d2, d3, d4, d5⟩ := six hxx
    clear hfx hxx
    clear hA hpre
    go_simp
    first | exact hK _ _ hB (by trivial) (fun _ _ h => h) hX | (rw [if_neg (by omega)]; go_simp; exact hK _ _ hB rfl (fun _ _ h => h) hX)
   ·intro vs Wx A lst hA hB hls hX hno hpre K hK
    have e11 := (hA 11).trans (show _ = Value.bool false by kernel_rfl)
    clear hA hpre
    go_simp
    first | exact hK _ _ hB (by trivial) (fun _ _ h => h) hX | (rw [if_neg (by omega)]; go_simp; exact hK _ _ hB rfl (fun _ _ h => h) hX)
   ·intro vs Wx A lst hA hB hls hX hno hpre K hK
    have e59 := ((hA 59).trans (show _ = vs 0 by kernel_rfl)).trans (by repeat first | exact hpre.1 rfl | replace hpre := hpre.2)
    have e60 := ((hA 60).trans (show _ = vs 1 by kernel_rfl)).trans (by repeat first | exact hpre.1 rfl | replace hpre := hpre.2)
    have e61 := ((hA 61).trans (show _ = vs 2 by kernel_rfl)).trans (by repeat first | exact hpre.1 rfl | replace hpre := hpre.2)
    clear hA hpre
    go_simp
    have hb3 := hX.1 (hno 3 (Or.inl rfl))
    go_at_call 34
    refine (HTK.out Wx hb3).mono ?_
    rintro e w9 ⟨v9, M, rfl, h1, h2, h3, h4⟩
    refine hK _ _ ((grown_of hb3 _).trans h3) ⟨M, (by simpa using h1), h2, h4.imp id (fun ⟨g, r1, r2⟩ => ⟨g, r1, Nat.le_trans hb3.size r2⟩)⟩ (fun jz hj hz => ?_) ⟨fun h => by simp at h, hX.2⟩
    match jz, hj, hz with
    | 0, _, hz => exact hz
    | 1, _, hz => exact hz
    | 2, _, hz => exact hz
    | 3, hj, _ => exact absurd rfl hj
    | 4, _, hz => exact hz
    | n + 5, _, hz => exact hz
   ·intro vs Wx A lst hA hB hls hX hno hpre K hK
    have e12 := (hA 12).trans (show _ = Value.pointer (some ⟨px, 0, none⟩) by kernel_rfl)
    obtain ⟨hfx, hxx, -⟩ := HGR.out Wx hB
    obtain ⟨f0, f1', f2', f3, f4, f5⟩ := six hfx
    obtain ⟨d0, d1, d2, d3, d4, d5⟩ := six hxx
    clear hfx hxx
    clear hA hpre
    go_simp
    first | exact hK _ _ hB (by trivial) (fun _ _ h => h) hX | (rw [if_neg (by omega)]; go_simp; exact hK _ _ hB rfl (fun _ _ h => h) hX)
   ·intro vs Wx lst hall hX hB hF
    refine fun A5 hA K5 hK5 => ?_
    have e63 := ((hA 63).trans (show _ = vs 4 by kernel_rfl)).trans (hF 4 (by decide))
    clear hA
    go_simp
    have hgr : w7.grownBy Wx (Value.slice a1 n1 c1).ownBlock := hB
    go_at_call 37
    refine (HDU.out Wx hgr).mono ?_
    rintro e w5 ⟨⟨u, rfl, hs5⟩, hb5⟩
    obtain ⟨au, nu, cu, rfl⟩ : ∃ a n c, u = .slice a n c := (by obtain ⟨q1, q2, q3, -, -⟩ := SvsAt.form hs5; exact ⟨q1, _, q2, q3⟩)
    refine hK5 _ _ ?_
    refine fun A6 hA K6 hK6 => ?_
    have e64 := (hA 64).trans (show _ = cpv X (.slice au nu cu) by kernel_rfl)
    clear hA
    go_simp
    refine hK6 _ _ ?_
    refine fun A7 hA K7 hK7 => ?_
    have e62 := (hA 62).trans (show _ = vs 3 by kernel_rfl)
    have e65 := (hA 65).trans (show _ = Value.slice (some ⟨w5.heap.size, 0, none⟩) 1 1 by kernel_rfl)
    clear hA
    obtain ⟨M, hM1, hM2, hM3⟩ : ∃ M : List Cx, M.map (·.c) = ([] : List Cp) ∧ Two B Wx (vs 3) (.slice a3 n3 c3) (L1 ++ M) L3 ∧ ((vs 3).ownBlock = (Value.slice a1 n1 c1).ownBlock ∨ ∃ g, (vs 3).ownBlock = some g ∧ w7.heap.size ≤ g) := hF 3 (by decide)
    have hml : M.length ≤ 1 := by
     have := congrArg List.length hM1
     rw [List.length_map] at this
     rw [this]
     simp
    have hbx := HGL.out Wx hgr
    have hbz : B ≤ Wx.heap.size := Nat.le_trans HBZ.out hgr.size
    have hT6 : Two B (w5.alloc (.cells (cpe X (.slice au nu cu)) 38)) (vs 3) (.slice a3 n3 c3) (L1 ++ M) L3 := (hM2.grw hb5).grw (below_alloc w5 _)
    have hs6 : SvsAt (Ofs B (vs 3) (.slice a3 n3 c3)) (w5.alloc (.cells (cpe X (.slice au nu cu)) 38)) (.slice au nu cu) X.svs := (hM2.off hs5 hbz).move ⟨by simp, fun b hb hk => ⟨hk, (below_alloc w5 _).block b hb⟩⟩
    refine wp_appC _ _ rfl B (vs 3) (L1 ++ M) (by first | exact e62 | simpa [Act.eval] using e62) hT6.o1 w5.heap.size 1 (⟨X, .slice au nu cu⟩ : Cx) (by first | exact e65 | simpa [Act.eval] using e65) (alloc_new w5 _ _) rfl (by rw [List.length_append]; omega) (by have := hb5.size; simp; omega) (fun v4 w8 ho8 hg8 hat8 => ?_)
    obtain ⟨a5, n5, c5, rfl⟩ : ∃ a n c, v4 = .slice a n c := (by obtain ⟨q1, q2, q3, -, -⟩ := ho8.form; exact ⟨q1, _, q2, q3⟩)
    have HT8 : Hid (Two B w8 (.slice a5 n5 c5) (.slice a3 n3 c3) (L1 ++ M ++ [⟨X, .slice au nu cu⟩]) L3) := hT6.app hs6 ho8 hg8 hat8
    have HG8 : Hid (w7.grownBy w8 (Value.slice a1 n1 c1).ownBlock) := grown_app hgr (below_trans hb5 (below_alloc w5 _)) hg8 (fun g e => (hM2.o1.lt e).2) hM3
    have HMC := Lib.hid hM1
    have HML := Lib.hid hml
    refine hK7 _ _ ?_
    refine fun A8 hA K8 hK8 => ?_
    have e66 := (hA 66).trans (show _ = Value.slice a5 n5 c5 by kernel_rfl)
    clear hA
    go_simp
    refine hK8 _ _ ?_
    clear hX hall hF hB hM1 hM2 hM3 hml hbx hbz hT6 hs6 hs5 hb5 ho8 hg8 hat8 hgr
    simp only [Ri.Tail, Ri.puts]
    go_simp
    have HGF := Lib.hid (HGL.out w8 HG8.out)
    have HM8 : Hid (MpIs (fun b => b < q) w8 q nm Wn) := HMZ.out.keep HGF.out.2 (low_moves HGF.out.1)
    have HB8 : Hid (Below q w w8) := HBQ.out.trans HGF.out.1
    have hml : M.length ≤ 1 := HML.out
    have HO8 : Hid (E = 0 → (L1 ++ M ++ [(⟨X, .slice au nu cu⟩ : Cx)]).map (·.c) ++ mkO Wn (l.drop (k + 1)) = O) := by
     refine fun h0 => ?_
     have h1 := HOX.out h0
     have h2 := HMC.out
     simp only [List.map_append, List.map_cons, List.map_nil, h2]
     simpa [List.append_assoc] using h1
    clear HGL HGR HTK HDU HDR HTZ HFZ HXZ HMFZ HMXZ HMZ HBQ HG8 HGF HMC HML HOX
    go_wp2
    go_roundg (l.length - (k + 1))
    case measure => omega
    case rel => exact ⟨k + 1, a5, a3, n5, c5, n3, c3, nm, L1 ++ M ++ [(⟨X, .slice au nu cu⟩ : Cx)], L3, Wn, by omega, rfl, by first | rfl | go_num, by first | rfl | go_num, by first | rfl | go_num, by simp only [List.length_append, List.length_singleton]; omega, hl2, HT8.out, HM8.out, HNd4.out, HW4.out, HE4.out, HO8.out, HN4.out, HB8.out⟩
  case true =>
   have HSM : Hid (Calls Try.prog 36 #[cpv F (.slice af nf cf), cpv X (.slice ax nx cx)] w7 fun e w' => e = .returned (.bool (sameB F X)) ∧ Below w7.heap.size w7 w') := by
    have h1 := Sv.same_any F X (.slice af nf cf) (.slice ax nx cx) w7 HMF7.out.all HMX7.out.all
    rwa [same_dec] at h1
   cases hD : sameB F X
   case true =>
    have HOX : Hid (E = 0 → L1.map (·.c) ++ mkO Wn (l.drop (k + 1)) = O) := by
     have h1 := HK2.out rfl hD
     have h2 := HO4.out
     rw [h1, List.append_nil] at h2; exact h2
    rw [hD] at HSM
    clear HK2 HK3 HO4
    go_wp2_with (first | (go_at_call 36; refine HSM.out.mono ?_; rintro e w9 ⟨rfl, hb9⟩; have HT9 := Lib.hid (HT7.out.grw hb9); have HM9 := Lib.hid (HM7.out.grw hb9); have HB9 : Hid (Below q w w9) := HB7.out.trans (hb9.mono (Nat.le_of_lt HM7.out.lt)); clear hb9))
    go_roundg (l.length - (k + 1))
    case measure => omega
    case rel => exact ⟨k + 1, a1, a3, n1, c1, n3, c3, nm, L1, L3, Wn, by omega, rfl, rfl, rfl, by go_num, by omega, hl2, HT9.out, HM9.out, HNd4.out, HW4.out, HE4.out, HOX.out, HN4.out, HB9.out⟩
   case false =>
    have HOX : Hid (E = 0 → (L1.map (·.c) ++ ([Sv.back F] ++ [X])) ++ mkO Wn (l.drop (k + 1)) = O) := by
     refine fun h0 => ?_
     have h1 := HK3.out (fun _ => hD)
     have h2 := HO4.out h0
     rw [h1] at h2
     simpa [List.append_assoc] using h2
    rw [hD] at HSM
    clear HK2 HK3 HO4
    have HFB : Hid (∀ w9, Below w7.heap.size w7 w9 → Two B w9 (.slice a1 n1 c1) (.slice a3 n3 c3) L1 L3 ∧ w9.heap[pf]? = some (.cells (cpe F (.slice af nf cf)) 38 (0, 0)) ∧ w9.heap[px]? = some (.cells (cpe X (.slice ax nx cx)) 38 (0, 0)) ∧ SvsAt (fun b => b < q) w9 (.slice af nf cf) F.svs ∧ SvsAt (Ofs B (.slice a1 n1 c1) (.slice a3 n3 c3)) w9 (.slice ax nx cx) X.svs ∧ MpIs (fun b => b < q) w9 q nm Wn ∧ Below q w w9 ∧ px < w9.heap.size ∧ B ≤ w9.heap.size) := fun w9 hb => ⟨HT7.out.grw hb, keepB HF7.out hb, keepB HX7.out hb, HMF7.out.move (low_moves (hb.mono (Nat.le_of_lt HM7.out.lt))), HMX7.out.move ⟨hb.size, fun b hlt hk => ⟨hk, hb.block b hlt⟩⟩, HM7.out.grw hb, HB7.out.trans (hb.mono (Nat.le_of_lt HM7.out.lt)), Nat.lt_of_lt_of_le HP7.out hb.size, Nat.le_trans HBW7.out hb.size⟩
    go_upto_region 14 with (first | (go_at_call 36; refine HSM.out.mono ?_; rintro e w9 ⟨rfl, hb9⟩; have HG9 := Lib.hid (HFB.out w9 hb9); clear hb9))
    obtain ⟨h1, h2, h3, h4, h5, h6, h7, h8, h9⟩ := HG9.out
    have HTZ := Lib.hid h1
    have HFZ := Lib.hid h2
    have HXZ := Lib.hid h3
    have HMFZ := Lib.hid h4
    have HMXZ := Lib.hid h5
    have HMZ := Lib.hid h6
    have HBQ := Lib.hid h7
    have HPZ := Lib.hid h8
    have HBZ := Lib.hid h9
    clear h1 h2 h3 h4 h5 h6 h7 h8 h9 HG9 HFB HSM HT7 HF7 HX7 HMF7 HMX7 HM7 HB7 HP7 HBW7
    have HGR : Hid (∀ Wx, w9.grownBy Wx (Value.slice a1 n1 c1).ownBlock → Wx.heap[pf]? = some (.cells (cpe F (.slice af nf cf)) 38 (0, 0)) ∧ Wx.heap[px]? = some (.cells (cpe X (.slice ax nx cx)) 38 (0, 0)) ∧ SvsAt All Wx (.slice ax nx cx) X.svs) := fun Wx hg => by
     have hp5 := HP5.out
     have hpf := HPF.out
     have hp7 := HPZ.out
     exact ⟨(hg.block pf (by omega) (fun e => by have := (HLT1.out pf e.symm).2; omega)).trans HFZ.out, (hg.block px (by omega) (fun e => by have := (HLT1.out px e.symm).2; omega)).trans HXZ.out, HMXZ.out.move ⟨hg.size, fun b hb hk => ⟨trivial, hg.block b hb (fun e => hk.2.1 e.symm)⟩⟩⟩
    have HTK : Hid (∀ Wx, Below w9.heap.size w9 Wx → Calls Try.prog 34 #[(.slice a1 n1 c1), cpv F (.slice af nf cf), .bool true] Wx fun e w' => TkV B (.slice a1 n1 c1) (.slice a3 n3 c3) L1 L3 true F Wx e w') := fun Wx hb => take_any B (.slice a1 n1 c1) (.slice a3 n3 c3) L1 L3 true F (.slice af nf cf) Wx (HTZ.out.grw hb) (Nat.le_trans HBZ.out hb.size) (by omega) ((HMFZ.out.all).grw hb) (fun h => HWF.out (by first | exact h | trivial | cases h))
    have HDU : Hid (∀ Wx, w9.grownBy Wx (Value.slice a1 n1 c1).ownBlock → Calls Try.prog 37 #[cpv X (.slice ax nx cx)] Wx fun e w' => (∃ u, e = .returned (cpv X u) ∧ SvsAt (fun b => Wx.heap.size ≤ b) w' u X.svs) ∧ Below Wx.heap.size Wx w') := fun Wx hg => dup_any X (.slice ax nx cx) Wx (HGR.out Wx hg).2.2 HXL.out.1 HXL.out.2
    have HDR : Hid (Below w9.heap.size w9 w9.drew) := Below.drew (Below.refl w9.heap.size w9)
    have HGL := Lib.hid fun Wx (hg : w9.grownBy Wx (Value.slice a1 n1 c1).ownBlock) => grown_low HTZ.out.o1 hg HqB.out HMZ.out.lt
    clear f0 f1' f2' f3 f4 f5 d0 d1 d2 d3 d4 d5
    refine Ri.wp_region_tailW 5 (by kernel_rfl) (by kernel_rfl) (by kernel_rfl) (by decide) (by kernel_rfl) (fun Wx => w9.grownBy Wx (Value.slice a1 n1 c1).ownBlock) (fun kz vs wz => (fun kx vx wx => match kx with | 0 => vx = .slice a1 n1 c1 | 1 => vx = cpv F (.slice af nf cf) | 2 => vx = .bool true | 3 => (∃ M : List Cx, M.map (·.c) = [Sv.back F] ∧ Two B wx vx (.slice a3 n3 c3) (L1 ++ M) L3 ∧ (vx.ownBlock = (Value.slice a1 n1 c1).ownBlock ∨ ∃ g, vx.ownBlock = some g ∧ w9.heap.size ≤ g)) | 4 => vx = cpv X (.slice ax nx cx) | _ => True : Nat → Value → World → Prop) kz (vs kz) wz) (fun lst vs Wx => (lst 3 = false → Below w9.heap.size w9 Wx) ∧ (lst 8 = false → vs 8 = Value.slice a1 n1 c1)) (fun kz => [kz]) (by kernel_rfl) (fun jz vs iz vz wz hiz hz => Ri.loc_own (F := (fun kx vx wx => match kx with | 0 => vx = .slice a1 n1 c1 | 1 => vx = cpv F (.slice af nf cf) | 2 => vx = .bool true | 3 => (∃ M : List Cx, M.map (·.c) = [Sv.back F] ∧ Two B wx vx (.slice a3 n3 c3) (L1 ++ M) L3 ∧ (vx.ownBlock = (Value.slice a1 n1 c1).ownBlock ∨ ∃ g, vx.ownBlock = some g ∧ w9.heap.size ≤ g)) | 4 => vx = cpv X (.slice ax nx cx) | _ => True : Nat → Value → World → Prop)) jz vs iz vz wz hiz hz) (grown_of HDR.out _) ?_ ⟨⟨rfl, ?_⟩, ⟨rfl, ?_⟩, ⟨rfl, ?_⟩, ⟨rfl, ?_⟩, ⟨rfl, ?_⟩, trivial⟩ ?_
    ·intro vs hvs
     refine ⟨fun _ => HDR.out, ?_⟩
     intro _
     have h1 := congrArg (fun a => a.tmps[4]?.getD undef) hvs
     exact (show vs 8 = _ by kernel_rfl).trans (h1.trans (show _ = Value.slice a1 n1 c1 by kernel_rfl))
    ·intro vs Wx A lst hA hB hls hX hno hpre K hK
     have e4 := ((hA 4).trans (show _ = vs 8 by kernel_rfl)).trans (hX.2 (hno 8 (Or.inr (by kernel_rfl))))
     clear hA hpre
     go_simp
     first | exact hK _ _ hB (by trivial) (fun _ _ h => h) hX | (rw [if_neg (by omega)]; go_simp; exact hK _ _ hB rfl (fun _ _ h => h) hX)
    ·intro vs Wx A lst hA hB hls hX hno hpre K hK
     have e10 := (hA 10).trans (show _ = Value.pointer (some ⟨pf, 0, none⟩) by kernel_rfl)
     obtain ⟨hfx, hxx, -⟩ := HGR.out Wx hB
     obtain ⟨f0, f1', f2', f3, f4, f5⟩ := six hfx
     obtain ⟨d0, d1, d2, d3, d4, d5⟩ := six hxx
     clear hfx hxx
     clear hA hpre
     go_simp
     first | exact hK _ _ hB (by trivial) (fun _ _ h => h) hX | (rw [if_neg (by omega)]; go_simp; exact hK _ _ hB rfl (fun _ _ h => h) hX)
    ·intro vs Wx A lst hA hB hls hX hno hpre K hK
     have e11 := (hA 11).trans (show _ = Value.bool true by kernel_rfl)
     clear hA hpre
     go_simp
     first | exact hK _ _ hB (by trivial) (fun _ _ h => h) hX | (rw [if_neg (by omega)]; go_simp; exact hK _ _ hB rfl (fun _ _ h => h) hX)
    ·intro vs Wx A lst hA hB hls hX hno hpre K hK
     have e59 := ((hA 59).trans (show _ = vs 0 by kernel_rfl)).trans (by repeat first | exact hpre.1 rfl | replace hpre := hpre.2)
     have e60 := ((hA 60).trans (show _ = vs 1 by kernel_rfl)).trans (by repeat first | exact hpre.1 rfl | replace hpre := hpre.2)
     have e61 := ((hA 61).trans (show _ = vs 2 by kernel_rfl)).trans (by repeat first | exact hpre.1 rfl | replace hpre := hpre.2)
     clear hA hpre
     go_simp
     have hb3 := hX.1 (hno 3 (Or.inl rfl))
     go_at_call 34
     refine (HTK.out Wx hb3).mono ?_
     rintro e w9 ⟨v9, M, rfl, h1, h2, h3, h4⟩
     refine hK _ _ ((grown_of hb3 _).trans h3) ⟨M, (by simpa using h1), h2, h4.imp id (fun ⟨g, r1, r2⟩ => ⟨g, r1, Nat.le_trans hb3.size r2⟩)⟩ (fun jz hj hz => ?_) ⟨fun h => by simp at h, hX.2⟩
     match jz, hj, hz with
     | 0, _, hz => exact hz
     | 1, _, hz => exact hz
     | 2, _, hz => exact hz
     | 3, hj, _ => exact absurd rfl hj
     | 4, _, hz => exact hz
     | n + 5, _, hz => exact hz
    ·intro vs Wx A lst hA hB hls hX hno hpre K hK
     have e12 := (hA 12).trans (show _ = Value.pointer (some ⟨px, 0, none⟩) by kernel_rfl)
     obtain ⟨hfx, hxx, -⟩ := HGR.out Wx hB
     obtain ⟨f0, f1', f2', f3, f4, f5⟩ := six hfx
     obtain ⟨d0, d1, d2, d3, d4, d5⟩ := six hxx
     clear hfx hxx
     clear hA hpre
     go_simp
     first | exact hK _ _ hB (by trivial) (fun _ _ h => h) hX | (rw [if_neg (by omega)]; go_simp; exact hK _ _ hB rfl (fun _ _ h => h) hX)
    ·intro vs Wx lst hall hX hB hF
     refine fun A5 hA K5 hK5 => ?_
     have e63 := ((hA 63).trans (show _ = vs 4 by kernel_rfl)).trans (hF 4 (by decide))
     clear hA
     go_simp
     have hgr : w9.grownBy Wx (Value.slice a1 n1 c1).ownBlock := hB
     go_at_call 37
     refine (HDU.out Wx hgr).mono ?_
     rintro e w5 ⟨⟨u, rfl, hs5⟩, hb5⟩
     obtain ⟨au, nu, cu, rfl⟩ : ∃ a n c, u = .slice a n c := (by obtain ⟨q1, q2, q3, -, -⟩ := SvsAt.form hs5; exact ⟨q1, _, q2, q3⟩)
     refine hK5 _ _ ?_
     refine fun A6 hA K6 hK6 => ?_
     have e64 := (hA 64).trans (show _ = cpv X (.slice au nu cu) by kernel_rfl)
     clear hA
     go_simp
     refine hK6 _ _ ?_
     refine fun A7 hA K7 hK7 => ?_
     have e62 := (hA 62).trans (show _ = vs 3 by kernel_rfl)
     have e65 := (hA 65).trans (show _ = Value.slice (some ⟨w5.heap.size, 0, none⟩) 1 1 by kernel_rfl)
     clear hA
     obtain ⟨M, hM1, hM2, hM3⟩ : ∃ M : List Cx, M.map (·.c) = [Sv.back F] ∧ Two B Wx (vs 3) (.slice a3 n3 c3) (L1 ++ M) L3 ∧ ((vs 3).ownBlock = (Value.slice a1 n1 c1).ownBlock ∨ ∃ g, (vs 3).ownBlock = some g ∧ w9.heap.size ≤ g) := hF 3 (by decide)
     have hml : M.length ≤ 1 := by
      have := congrArg List.length hM1
      rw [List.length_map] at this
      rw [this]
      simp
     have hbx := HGL.out Wx hgr
     have hbz : B ≤ Wx.heap.size := Nat.le_trans HBZ.out hgr.size
     have hT6 : Two B (w5.alloc (.cells (cpe X (.slice au nu cu)) 38)) (vs 3) (.slice a3 n3 c3) (L1 ++ M) L3 := (hM2.grw hb5).grw (below_alloc w5 _)
     have hs6 : SvsAt (Ofs B (vs 3) (.slice a3 n3 c3)) (w5.alloc (.cells (cpe X (.slice au nu cu)) 38)) (.slice au nu cu) X.svs := (hM2.off hs5 hbz).move ⟨by simp, fun b hb hk => ⟨hk, (below_alloc w5 _).block b hb⟩⟩
     refine wp_appC _ _ rfl B (vs 3) (L1 ++ M) (by first | exact e62 | simpa [Act.eval] using e62) hT6.o1 w5.heap.size 1 (⟨X, .slice au nu cu⟩ : Cx) (by first | exact e65 | simpa [Act.eval] using e65) (alloc_new w5 _ _) rfl (by rw [List.length_append]; omega) (by have := hb5.size; simp; omega) (fun v4 w8 ho8 hg8 hat8 => ?_)
     obtain ⟨a5, n5, c5, rfl⟩ : ∃ a n c, v4 = .slice a n c := (by obtain ⟨q1, q2, q3, -, -⟩ := ho8.form; exact ⟨q1, _, q2, q3⟩)
     have HT8 : Hid (Two B w8 (.slice a5 n5 c5) (.slice a3 n3 c3) (L1 ++ M ++ [⟨X, .slice au nu cu⟩]) L3) := hT6.app hs6 ho8 hg8 hat8
     have HG8 : Hid (w9.grownBy w8 (Value.slice a1 n1 c1).ownBlock) := grown_app hgr (below_trans hb5 (below_alloc w5 _)) hg8 (fun g e => (hM2.o1.lt e).2) hM3
     have HMC := Lib.hid hM1
     have HML := Lib.hid hml
     refine hK7 _ _ ?_
     refine fun A8 hA K8 hK8 => ?_
     have e66 := (hA 66).trans (show _ = Value.slice a5 n5 c5 by kernel_rfl)
     clear hA
     go_simp
     refine hK8 _ _ ?_
     clear hX hall hF hB hM1 hM2 hM3 hml hbx hbz hT6 hs6 hs5 hb5 ho8 hg8 hat8 hgr
     simp only [Ri.Tail, Ri.puts]
     go_simp
     have HGF := Lib.hid (HGL.out w8 HG8.out)
     have HM8 : Hid (MpIs (fun b => b < q) w8 q nm Wn) := HMZ.out.keep HGF.out.2 (low_moves HGF.out.1)
     have HB8 : Hid (Below q w w8) := HBQ.out.trans HGF.out.1
     have hml : M.length ≤ 1 := HML.out
     have HO8 : Hid (E = 0 → (L1 ++ M ++ [(⟨X, .slice au nu cu⟩ : Cx)]).map (·.c) ++ mkO Wn (l.drop (k + 1)) = O) := by
      refine fun h0 => ?_
      have h1 := HOX.out h0
      have h2 := HMC.out
      simp only [List.map_append, List.map_cons, List.map_nil, h2]
      simpa [List.append_assoc] using h1
     clear HGL HGR HTK HDU HDR HTZ HFZ HXZ HMFZ HMXZ HMZ HBQ HG8 HGF HMC HML HOX
     go_wp2
     go_roundg (l.length - (k + 1))
     case measure => omega
     case rel => exact ⟨k + 1, a5, a3, n5, c5, n3, c3, nm, L1 ++ M ++ [(⟨X, .slice au nu cu⟩ : Cx)], L3, Wn, by omega, rfl, by first | rfl | go_num, by first | rfl | go_num, by first | rfl | go_num, by simp only [List.length_append, List.length_singleton]; omega, hl2, HT8.out, HM8.out, HNd4.out, HW4.out, HE4.out, HO8.out, HN4.out, HB8.out⟩
end Go.Proofs.Ytpfpjbeofogbgaa.Re
end
