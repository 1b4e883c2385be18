/-
  Texts put together (merge.py): MRBack.
-/
import Derived.BigQuiet
import Derived.Deep.Cut
import Derived.Test.YtpfpjbeofogbgaaMm14
import Derived.Test.YtpfpjbeofogbgaaMm17
import Derived.Test.YtpfpjbeofogbgaaMm10
import Derived.Test.YtpfpjbeofogbgaaMm4
set_option linter.unusedSimpArgs false
set_option linter.unusedVariables false
section
set_option maxRecDepth 100000
namespace Go.Proofs.Ytpfpjbeofogbgaa.Re
open Go.RowKit
open Sv (Ca Sr Cp Sx SvsAt CasAt CpsAt CpCells SrCells CaCells cpv cpe srv sre cav cae four six three frz6 OwnS OwnK FullS scs kcs cas_of_own ownK_form ownK_nil put6_heap put6_below put6_keep Bd checkE svcE casN svcN growK_low growS_low wp_appK wp_appS Ts Tk)
open Bk (keepB heap_far below_alloc below_trans alloc_new heap_set add_lit)
theorem frz4' {w : World} {b : Nat} {cs : Array Value} {T : TypeId} (h : w.heap[b]? = some (.cells cs T (0, 0))) : w.frozen? ⟨b, 0, none⟩ = false ∧ w.frozen? ⟨b, 1, none⟩ = false ∧ w.frozen? ⟨b, 2, none⟩ = false ∧ w.frozen? ⟨b, 3, none⟩ = false := by
 refine ⟨?_, ?_, ?_, ?_⟩ <;> simp [World.frozen?, h]
theorem FullS.keep {B : Nat} {w w' : World} {v : Value} {L : List Sx} (h : FullS B w v L) (hs : w.heap.size ≤ w'.heap.size) (hk : ∀ b, b < w.heap.size → w'.heap[b]? = w.heap[b]?) : FullS B w' v L := by
 refine ⟨⟨h.1.1, h.1.2.imp id ?_⟩, fun x hx => (h.2 x hx).move ⟨hs, fun b hb hkk => ⟨hkk, hk b hb⟩⟩⟩
 rintro ⟨g, c, cur, rfl, h0, hh, hr⟩
 exact ⟨g, c, cur, rfl, h0, (hk g (Array.getElem?_eq_some_iff.1 hh).1).trans hh, hr⟩
theorem ownK_keep {B : Nat} {w w' : World} {v : Value} {l : List Ca} (h : OwnK B w v l) (hk : ∀ g, v.ownBlock = some g → w'.heap[g]? = w.heap[g]?) : OwnK B w' v l := by
 refine ⟨h.1, h.2.imp id ?_⟩
 rintro ⟨g, c, cur, rfl, h0, hh, hr⟩
 exact ⟨g, c, cur, rfl, h0, (hk g rfl).trans hh, hr⟩
set_option maxHeartbeats 16000000 in
theorem rback_any (x : Cp) (m : Value) (w : World) (hm : SvsAt All w m x.svs) (hc : checkE x = 0) :
  Calls Try.prog 39 #[cpv x m] w fun e w' => (∃ u, e = .returned (cpv (Sv.back x) u) ∧ SvsAt (fun b => w.heap.size ≤ b) w' u (Sv.back x).svs) ∧ Below w.heap.size w w' := by
 obtain ⟨am, cm, rfl, f1, f2⟩ := hm.form
 obtain ⟨⟨hp1, hp2⟩, hb1, hb2⟩ := paid_bd hc
 obtain ⟨hm1, hm2⟩ := mem_bd hc
 obtain ⟨_, ⟨_, hl⟩, hsv, -⟩ := (Sv.check_iff x).1 hc
 have HBS : Hid (∀ s ∈ x.svs, Sv.BdS s) := fun s hs => Sv.bdS_of (hsv s hs)
 have hb0 : Below w.heap.size w ((w.alloc (.cells (#[.string (mk x.id), .int .i64 x.st, .int .i64 x.bi, .int .i64 x.paid, .int .i64 x.mem, (.slice am x.svs.length cm)] : Array Value) 38)).alloc (.cells (#[.string { data := #[] }, .int .i64 0, .int .i64 0, .int .i64 0, .int .i64 0, .slice none 0 0] : Array Value) 38)) := below_trans (below_alloc w _) (below_alloc _ _)
 have HB := Lib.hid hb0
 have HX := Lib.hid (keepB (alloc_new w (#[.string (mk x.id), .int .i64 x.st, .int .i64 x.bi, .int .i64 x.paid, .int .i64 x.mem, (.slice am x.svs.length cm)] : Array Value) 38) (below_alloc _ (.cells (#[.string { data := #[] }, .int .i64 0, .int .i64 0, .int .i64 0, .int .i64 0, .slice none 0 0] : Array Value) 38)))
 have HY := Lib.hid (alloc_new (w.alloc (.cells (#[.string (mk x.id), .int .i64 x.st, .int .i64 x.bi, .int .i64 x.paid, .int .i64 x.mem, (.slice am x.svs.length cm)] : Array Value) 38)) (#[.string { data := #[] }, .int .i64 0, .int .i64 0, .int .i64 0, .int .i64 0, .slice none 0 0] : Array Value) 38)
 rw [show (w.alloc (.cells (#[.string (mk x.id), .int .i64 x.st, .int .i64 x.bi, .int .i64 x.paid, .int .i64 x.mem, (.slice am x.svs.length cm)] : Array Value) 38)).heap.size = w.heap.size + 1 by simp] at HY
 have HS0 : Hid (((w.alloc (.cells (#[.string (mk x.id), .int .i64 x.st, .int .i64 x.bi, .int .i64 x.paid, .int .i64 x.mem, (.slice am x.svs.length cm)] : Array Value) 38)).alloc (.cells (#[.string { data := #[] }, .int .i64 0, .int .i64 0, .int .i64 0, .int .i64 0, .slice none 0 0] : Array Value) 38)).heap.size = w.heap.size + 2) := by show _ = _; simp
 have HM : Hid (∀ W, Below w.heap.size w W → SvsAt All W (.slice am x.svs.length cm) x.svs) := fun W hW => hm.grw hW
 have n1 : wrap64 (-x.bi) = -x.bi := by unfold wrap64; omega
 have n2 : wrap64 (-x.paid) = -x.paid := by unfold wrap64; omega
 have n3 : wrap64 (-x.mem) = -x.mem := by unfold wrap64; omega
 have HVV : Hid ((Sv.back x).svs = x.svs.map svcN) := rfl
 have HBK : Hid (∀ u, cpv (Sv.back x) u = .agg (#[.string (mk x.id), .int .i64 22, .int .i64 (-x.bi), .int .i64 (-x.paid), .int .i64 (-x.mem), u] : Array Value)) := fun u => rfl
 clear hm hb0 hc hsv hp1 hp2 hb1 hb2 hm1 hm2
 go_enter Try.func39, Try.ntmps39
 go_upto_region 1 with fail
 generalize ((w.alloc (.cells (#[.string (mk x.id), .int .i64 x.st, .int .i64 x.bi, .int .i64 x.paid, .int .i64 x.mem, (.slice am x.svs.length cm)] : Array Value) 38)).alloc (.cells (#[.string { data := #[] }, .int .i64 0, .int .i64 0, .int .i64 0, .int .i64 0, .slice none 0 0] : Array Value) 38)) = W at *
 generalize hp : w.heap.size = p at *
 obtain ⟨x0, x1, x2, x3, x4, x5⟩ := six HX.out
 have HB3 : Hid (Below p w (W.alloc (.cells (#[.string (mk x.id), .int .i64 22, .int .i64 (-x.bi), .int .i64 (-x.paid), .int .i64 (-x.mem), .slice none 0 0] : Array Value) 38))) := HB.out.trans ((below_alloc W _).mono (by have := HS0.out; omega))
 have HX3 := Lib.hid (keepB HX.out (below_alloc W (.cells (#[.string (mk x.id), .int .i64 22, .int .i64 (-x.bi), .int .i64 (-x.paid), .int .i64 (-x.mem), .slice none 0 0] : Array Value) 38)))
 have HY3 := Lib.hid (keepB HY.out (below_alloc W (.cells (#[.string (mk x.id), .int .i64 22, .int .i64 (-x.bi), .int .i64 (-x.paid), .int .i64 (-x.mem), .slice none 0 0] : Array Value) 38)))
 have HQ3 := Lib.hid (alloc_new W (#[.string (mk x.id), .int .i64 22, .int .i64 (-x.bi), .int .i64 (-x.paid), .int .i64 (-x.mem), .slice none 0 0] : Array Value) 38)
 rw [HS0.out] at HQ3
 have HS3 : Hid ((W.alloc (.cells (#[.string (mk x.id), .int .i64 22, .int .i64 (-x.bi), .int .i64 (-x.paid), .int .i64 (-x.mem), .slice none 0 0] : Array Value) 38)).heap.size = p + 3) := by have := HS0.out; show _ = _; simp; omega
 have hs0 := HS0.out
 go_upto_region 2 with fail
 try rw [hs0]
 generalize (W.alloc (.cells (#[.string (mk x.id), .int .i64 22, .int .i64 (-x.bi), .int .i64 (-x.paid), .int .i64 (-x.mem), .slice none 0 0] : Array Value) 38)) = W3 at *
 clear x0 x1 x2 x3 x4 x5 HX HY HB HS0 n1 n2 n3 hs0
 obtain ⟨x0, x1, x2, x3, x4, x5⟩ := six HX3.out
 go_wp2
 clear x0 x1 x2 x3 x4 x5
 go_loopg [4] (x.svs.length) (fun gg t4 wr => ∃ (i : Nat) (N : List Sx) (u : Option Addr) (n c : Nat), i ≤ x.svs.length ∧ gg = x.svs.length - i ∧ t4 = .int .i64 i ∧ N.length = i ∧ Hid (N.map (·.s) = (x.svs.take i).map svcN) ∧ Hid (wr.heap[p + 2]? = some (.cells (#[.string (mk x.id), .int .i64 22, .int .i64 (-x.bi), .int .i64 (-x.paid), .int .i64 (-x.mem), .slice u n c] : Array Value) 38 (0, 0))) ∧ Hid (FullS (p + 3) wr (.slice u n c) N) ∧ Hid (wr.heap[p]? = some (.cells (#[.string (mk x.id), .int .i64 x.st, .int .i64 x.bi, .int .i64 x.paid, .int .i64 x.mem, (.slice am x.svs.length cm)] : Array Value) 38 (0, 0))) ∧ Hid (wr.heap[p + 1]? = some (.cells (#[.string { data := #[] }, .int .i64 0, .int .i64 0, .int .i64 0, .int .i64 0, .slice none 0 0] : Array Value) 38 (0, 0))) ∧ Hid (Below p w wr) ∧ Hid (p + 3 ≤ wr.heap.size))
 case atStart => exact ⟨0, [], none, 0, 0, Nat.zero_le _, rfl, rfl, rfl, rfl, HQ3.out, FullS.nil _ _, HX3.out, HY3.out, HB3.out, Nat.le_of_eq HS3.out.symm⟩
 case round =>
  clear HX3 HY3 HB3 HS3 HQ3
  obtain ⟨i, N, u, n, c, hi, hg, rfl, hNl, HNm, HQ, HF, HX, HY, HBn, HPn⟩ := hrel
  obtain ⟨x0, x1, x2, x3, x4, x5⟩ := six HX.out
  by_cases hlt : i < x.svs.length
  case neg =>
   have hltz : ¬ (i : Int) < (x.svs.length : Int) := by omega
   have HFI : Hid (SvsAt (fun b => p + 3 ≤ b) wr (.slice u n c) (Sv.back x).svs) := by
    have h1 := HF.out.at
    rw [HNm.out, List.take_of_length_le (by omega), ← HVV.out] at h1
    exact h1
   obtain ⟨y0, y1, y2, y3, y4, y5⟩ := six HY.out
   obtain ⟨k0, k1, k2, k3, k4, k5⟩ := frz6 HY.out
   obtain ⟨q0, q1, q2, q3, q4, q5⟩ := six HQ.out
   go_wp2
   have HYF := Lib.hid (put6_heap HY.out (.string (mk x.id)) (.int .i64 22) (.int .i64 (-x.bi)) (.int .i64 (-x.paid)) (.int .i64 (-x.mem)) (.slice u n c))
   have HBF : Hid (Below p w ((((((wr.setCell ⟨(p + 1), 0, none⟩ (.string (mk x.id))).setCell ⟨(p + 1), 1, none⟩ (.int .i64 22)).setCell ⟨(p + 1), 2, none⟩ (.int .i64 (-x.bi))).setCell ⟨(p + 1), 3, none⟩ (.int .i64 (-x.paid))).setCell ⟨(p + 1), 4, none⟩ (.int .i64 (-x.mem))).setCell ⟨(p + 1), 5, none⟩ (.slice u n c))) := put6_below HBn.out (p + 1) (by omega) (.string (mk x.id)) (.int .i64 22) (.int .i64 (-x.bi)) (.int .i64 (-x.paid)) (.int .i64 (-x.mem)) (.slice u n c)
   have HSF : Hid (SvsAt (fun b => p + 3 ≤ b) ((((((wr.setCell ⟨(p + 1), 0, none⟩ (.string (mk x.id))).setCell ⟨(p + 1), 1, none⟩ (.int .i64 22)).setCell ⟨(p + 1), 2, none⟩ (.int .i64 (-x.bi))).setCell ⟨(p + 1), 3, none⟩ (.int .i64 (-x.paid))).setCell ⟨(p + 1), 4, none⟩ (.int .i64 (-x.mem))).setCell ⟨(p + 1), 5, none⟩ (.slice u n c)) (.slice u n c) (Sv.back x).svs) := HFI.out.move ⟨by simp, fun b hb hk => ⟨hk, put6_keep (by omega) (.string (mk x.id)) (.int .i64 22) (.int .i64 (-x.bi)) (.int .i64 (-x.paid)) (.int .i64 (-x.mem)) (.slice u n c)⟩⟩
   generalize ((((((wr.setCell ⟨(p + 1), 0, none⟩ (.string (mk x.id))).setCell ⟨(p + 1), 1, none⟩ (.int .i64 22)).setCell ⟨(p + 1), 2, none⟩ (.int .i64 (-x.bi))).setCell ⟨(p + 1), 3, none⟩ (.int .i64 (-x.paid))).setCell ⟨(p + 1), 4, none⟩ (.int .i64 (-x.mem))).setCell ⟨(p + 1), 5, none⟩ (.slice u n c)) = WF at *
   obtain ⟨n0, n1, n2, n3, n4, n5⟩ := six HYF.out
   refine bodyPost_ret (v := .agg (#[.string (mk x.id), .int .i64 22, .int .i64 (-x.bi), .int .i64 (-x.paid), .int .i64 (-x.mem), .slice u n c] : Array Value)) (by simp [results, Try.results39, go_sem, n0, n1, n2, n3, n4, n5]) rfl ?_
   exact ⟨⟨_, rfl, by first | exact HSF.out.move (moves_weak WF fun b _ hb => by omega) | (rw [hp]; exact HSF.out.move (moves_weak WF fun b _ hb => by omega))⟩, by first | exact HBF.out | (rw [hp]; exact HBF.out)⟩
  have hltz : (i : Int) < (x.svs.length : Int) := by omega
  obtain ⟨b, o, ml, rfl, -, hbl, hx, hcell, hcas⟩ := SvsAt.get (HM.out _ HBn.out) i hlt
  obtain ⟨⟨e1, e2⟩, ⟨e3, e4⟩, e5, e6⟩ := HBS.out _ (List.mem_of_getElem? hx)
  have HTK : Hid ((x.svs.take (i + 1)).map svcN = (x.svs.take i).map svcN ++ [svcN x.svs[i]]) := by show _ = _; rw [List.take_add_one, hx, List.map_append]; rfl
  have hi1 : i < x.svs.length := hlt
  generalize x.svs[i] = y at *
  have HE6 := Lib.hid e6
  obtain ⟨ac, cc, rfl, g1, g2⟩ := hcas.form
  obtain ⟨c0, c1, c2, c3⟩ := id hcell
  obtain ⟨wo, rfl⟩ : ∃ z, z = wr := ⟨_, rfl⟩
  have HXK : Hid (∀ W', Below wo.heap.size wo W' → W'.heap[p]? = some (.cells (#[.string (mk x.id), .int .i64 x.st, .int .i64 x.bi, .int .i64 x.paid, .int .i64 x.mem, (.slice (some ⟨b, o, none⟩) x.svs.length cm)] : Array Value) 38 (0, 0)) ∧ SrCells W' b (o + i * 4) y (.slice ac y.cas.length cc)) := fun W' hW => ⟨keepB HX.out hW, hcell.of (hW.block b hbl)⟩
  have HCA : Hid (∀ W', Below wo.heap.size wo W' → CasAt All W' (.slice ac y.cas.length cc) y.cas) := fun W' hW => hcas.grw hW
  have n1 : IntKind.i64.wrap (-y.bi) = -y.bi := by rw [IntKind.wrap_i64]; omega
  have n2 : IntKind.i64.wrap (-y.paid) = -y.paid := by rw [IntKind.wrap_i64]; omega
  have HD := Lib.hid (Below.drew (Below.refl wo.heap.size wo))
  clear hx hcell hcas e6
  go_upto_region 5 with fail
  clear x0 x1 x2 x3 x4 x5 c0 c1 c2 c3
  refine Ri.wp_region_tailX 22 (by kernel_rfl) (by kernel_rfl) (by kernel_rfl) (by decide) (by kernel_rfl) (fun Wx => Below wo.heap.size wo Wx) (fun kz vs wz => (fun kx vx wx => match kx with | 0 => vx = .pointer (some ⟨p, 5, none⟩) | 1 => vx = .slice (some ⟨b, o, none⟩) x.svs.length cm | 2 => vx = .int .i64 (i : Nat) | 3 => vx = .pointer (some ⟨b, o + i * 4, none⟩) | 4 => vx = .pointer (some ⟨b, o + i * 4, none⟩) | 5 => vx = .string (mk y.proc) | 6 => vx = .pointer (some ⟨p, 5, none⟩) | 7 => vx = .slice (some ⟨b, o, none⟩) x.svs.length cm | 8 => vx = .int .i64 (i : Nat) | 9 => vx = .pointer (some ⟨b, o + i * 4, none⟩) | 10 => vx = .pointer (some ⟨b, o + i * 4 + 1, none⟩) | 11 => vx = .int .i64 y.bi | 12 => vx = .int .i64 (-y.bi) | 13 => vx = .pointer (some ⟨p, 5, none⟩) | 14 => vx = .slice (some ⟨b, o, none⟩) x.svs.length cm | 15 => vx = .int .i64 (i : Nat) | 16 => vx = .pointer (some ⟨b, o + i * 4, none⟩) | 17 => vx = .pointer (some ⟨b, o + i * 4 + 2, none⟩) | 18 => vx = .int .i64 y.paid | 19 => vx = .int .i64 (-y.paid) | 20 => vx = .agg (#[.string (mk y.proc), .int .i64 (-y.bi), .int .i64 (-y.paid), .slice none 0 0] : Array Value) | 21 => (∃ g : Nat, vx = .pointer (some ⟨g, 0, none⟩) ∧ wo.heap.size ≤ g ∧ wx.heap[g]? = some (.cells (#[.string ByteArray.empty, .int .i64 0, .int .i64 0, .slice none 0 0] : Array Value) 70 (0, 0))) | _ => True : Nat → Value → World → Prop) kz (vs kz) wz) (fun lst vs => True) (fun kz => [kz]) (by kernel_rfl) (fun jz vs iz vz wz hiz hz => Ri.loc_own (F := (fun kx vx wx => match kx with | 0 => vx = .pointer (some ⟨p, 5, none⟩) | 1 => vx = .slice (some ⟨b, o, none⟩) x.svs.length cm | 2 => vx = .int .i64 (i : Nat) | 3 => vx = .pointer (some ⟨b, o + i * 4, none⟩) | 4 => vx = .pointer (some ⟨b, o + i * 4, none⟩) | 5 => vx = .string (mk y.proc) | 6 => vx = .pointer (some ⟨p, 5, none⟩) | 7 => vx = .slice (some ⟨b, o, none⟩) x.svs.length cm | 8 => vx = .int .i64 (i : Nat) | 9 => vx = .pointer (some ⟨b, o + i * 4, none⟩) | 10 => vx = .pointer (some ⟨b, o + i * 4 + 1, none⟩) | 11 => vx = .int .i64 y.bi | 12 => vx = .int .i64 (-y.bi) | 13 => vx = .pointer (some ⟨p, 5, none⟩) | 14 => vx = .slice (some ⟨b, o, none⟩) x.svs.length cm | 15 => vx = .int .i64 (i : Nat) | 16 => vx = .pointer (some ⟨b, o + i * 4, none⟩) | 17 => vx = .pointer (some ⟨b, o + i * 4 + 2, none⟩) | 18 => vx = .int .i64 y.paid | 19 => vx = .int .i64 (-y.paid) | 20 => vx = .agg (#[.string (mk y.proc), .int .i64 (-y.bi), .int .i64 (-y.paid), .slice none 0 0] : Array Value) | 21 => (∃ g : Nat, vx = .pointer (some ⟨g, 0, none⟩) ∧ wo.heap.size ≤ g ∧ wx.heap[g]? = some (.cells (#[.string ByteArray.empty, .int .i64 0, .int .i64 0, .slice none 0 0] : Array Value) 70 (0, 0))) | _ => True : Nat → Value → World → Prop)) jz vs iz vz wz hiz hz) HD.out ?_ ⟨⟨rfl, ?_⟩, ⟨rfl, ?_⟩, ⟨rfl, ?_⟩, ⟨rfl, ?_⟩, ⟨rfl, ?_⟩, ⟨rfl, ?_⟩, ⟨rfl, ?_⟩, ⟨rfl, ?_⟩, ⟨rfl, ?_⟩, ⟨rfl, ?_⟩, ⟨rfl, ?_⟩, ⟨rfl, ?_⟩, ⟨rfl, ?_⟩, ⟨rfl, ?_⟩, ⟨rfl, ?_⟩, ⟨rfl, ?_⟩, ⟨rfl, ?_⟩, ⟨rfl, ?_⟩, ⟨rfl, ?_⟩, ⟨rfl, ?_⟩, ⟨rfl, ?_⟩, ⟨rfl, ?_⟩, trivial⟩ ?_
  ·intro vs hvs
   exact trivial
  ·intro vs Wx A lst hA hB hls hX hno hpre K hK
   have e1 := (hA 1).trans (show _ = Value.pointer (some ⟨p, 0, none⟩) by kernel_rfl)
   clear hA hpre
   go_simp
   first | exact hK _ _ hB (by trivial) (fun _ _ h => h) hX | (rw [if_neg (by omega)]; go_simp; exact hK _ _ hB rfl (fun _ _ h => h) hX)
  ·intro vs Wx A lst hA hB hls hX hno hpre K hK
   have e27 := ((hA 27).trans (show _ = vs 0 by kernel_rfl)).trans (by repeat first | exact hpre.1 rfl | replace hpre := hpre.2)
   obtain ⟨hxp, ⟨c0, c1, c2, c3⟩⟩ := HXK.out Wx hB
   obtain ⟨x0, x1, x2, x3, x4, x5⟩ := six hxp
   clear hxp
   clear hA hpre
   go_simp
   first | exact hK _ _ hB (by trivial) (fun _ _ h => h) hX | (rw [if_neg (by omega)]; go_simp; exact hK _ _ hB rfl (fun _ _ h => h) hX)
  ·intro vs Wx A lst hA hB hls hX hno hpre K hK
   have e4 := (hA 4).trans (show _ = Value.int .i64 (i : Nat) by kernel_rfl)
   clear hA hpre
   go_simp
   first | exact hK _ _ hB (by trivial) (fun _ _ h => h) hX | (rw [if_neg (by omega)]; go_simp; exact hK _ _ hB rfl (fun _ _ h => h) hX)
  ·intro vs Wx A lst hA hB hls hX hno hpre K hK
   have e28 := ((hA 28).trans (show _ = vs 1 by kernel_rfl)).trans (by repeat first | exact hpre.1 rfl | replace hpre := hpre.2)
   have e29 := ((hA 29).trans (show _ = vs 2 by kernel_rfl)).trans (by repeat first | exact hpre.1 rfl | replace hpre := hpre.2)
   clear hA hpre
   go_simp
   first | exact hK _ _ hB (by trivial) (fun _ _ h => h) hX | (rw [if_neg (by omega)]; go_simp; exact hK _ _ hB rfl (fun _ _ h => h) hX)
  ·intro vs Wx A lst hA hB hls hX hno hpre K hK
   have e30 := ((hA 30).trans (show _ = vs 3 by kernel_rfl)).trans (by repeat first | exact hpre.1 rfl | replace hpre := hpre.2)
   clear hA hpre
   go_simp
   first | exact hK _ _ hB (by trivial) (fun _ _ h => h) hX | (rw [if_neg (by omega)]; go_simp; exact hK _ _ hB rfl (fun _ _ h => h) hX)
  ·intro vs Wx A lst hA hB hls hX hno hpre K hK
   have e31 := ((hA 31).trans (show _ = vs 4 by kernel_rfl)).trans (by repeat first | exact hpre.1 rfl | replace hpre := hpre.2)
   obtain ⟨hxp, ⟨c0, c1, c2, c3⟩⟩ := HXK.out Wx hB
   obtain ⟨x0, x1, x2, x3, x4, x5⟩ := six hxp
   clear hxp
   clear hA hpre
   go_simp
   first | exact hK _ _ hB (by trivial) (fun _ _ h => h) hX | (rw [if_neg (by omega)]; go_simp; exact hK _ _ hB rfl (fun _ _ h => h) hX)
  ·intro vs Wx A lst hA hB hls hX hno hpre K hK
   have e1 := (hA 1).trans (show _ = Value.pointer (some ⟨p, 0, none⟩) by kernel_rfl)
   clear hA hpre
   go_simp
   first | exact hK _ _ hB (by trivial) (fun _ _ h => h) hX | (rw [if_neg (by omega)]; go_simp; exact hK _ _ hB rfl (fun _ _ h => h) hX)
  ·intro vs Wx A lst hA hB hls hX hno hpre K hK
   have e33 := ((hA 33).trans (show _ = vs 6 by kernel_rfl)).trans (by repeat first | exact hpre.1 rfl | replace hpre := hpre.2)
   obtain ⟨hxp, ⟨c0, c1, c2, c3⟩⟩ := HXK.out Wx hB
   obtain ⟨x0, x1, x2, x3, x4, x5⟩ := six hxp
   clear hxp
   clear hA hpre
   go_simp
   first | exact hK _ _ hB (by trivial) (fun _ _ h => h) hX | (rw [if_neg (by omega)]; go_simp; exact hK _ _ hB rfl (fun _ _ h => h) hX)
  ·intro vs Wx A lst hA hB hls hX hno hpre K hK
   have e4 := (hA 4).trans (show _ = Value.int .i64 (i : Nat) by kernel_rfl)
   clear hA hpre
   go_simp
   first | exact hK _ _ hB (by trivial) (fun _ _ h => h) hX | (rw [if_neg (by omega)]; go_simp; exact hK _ _ hB rfl (fun _ _ h => h) hX)
  ·intro vs Wx A lst hA hB hls hX hno hpre K hK
   have e34 := ((hA 34).trans (show _ = vs 7 by kernel_rfl)).trans (by repeat first | exact hpre.1 rfl | replace hpre := hpre.2)
   have e35 := ((hA 35).trans (show _ = vs 8 by kernel_rfl)).trans (by repeat first | exact hpre.1 rfl | replace hpre := hpre.2)
   clear hA hpre
   go_simp
   first | exact hK _ _ hB (by trivial) (fun _ _ h => h) hX | (rw [if_neg (by omega)]; go_simp; exact hK _ _ hB rfl (fun _ _ h => h) hX)
  ·intro vs Wx A lst hA hB hls hX hno hpre K hK
   have e36 := ((hA 36).trans (show _ = vs 9 by kernel_rfl)).trans (by repeat first | exact hpre.1 rfl | replace hpre := hpre.2)
   clear hA hpre
   go_simp
   first | exact hK _ _ hB (by trivial) (fun _ _ h => h) hX | (rw [if_neg (by omega)]; go_simp; exact hK _ _ hB rfl (fun _ _ h => h) hX)
  ·intro vs Wx A lst hA hB hls hX hno hpre K hK
   have e37 := ((hA 37).trans (show _ = vs 10 by kernel_rfl)).trans (by repeat first | exact hpre.1 rfl | replace hpre := hpre.2)
   obtain ⟨hxp, ⟨c0, c1, c2, c3⟩⟩ := HXK.out Wx hB
   obtain ⟨x0, x1, x2, x3, x4, x5⟩ := six hxp
   clear hxp
   clear hA hpre
   go_simp
   first | exact hK _ _ hB (by trivial) (fun _ _ h => h) hX | (rw [if_neg (by omega)]; go_simp; exact hK _ _ hB rfl (fun _ _ h => h) hX)
  ·intro vs Wx A lst hA hB hls hX hno hpre K hK
   have e38 := ((hA 38).trans (show _ = vs 11 by kernel_rfl)).trans (by repeat first | exact hpre.1 rfl | replace hpre := hpre.2)
   clear hA hpre
   go_simp
   first | exact hK _ _ hB (by trivial) (fun _ _ h => h) hX | (rw [if_neg (by omega)]; go_simp; exact hK _ _ hB rfl (fun _ _ h => h) hX)
  ·intro vs Wx A lst hA hB hls hX hno hpre K hK
   have e1 := (hA 1).trans (show _ = Value.pointer (some ⟨p, 0, none⟩) by kernel_rfl)
   clear hA hpre
   go_simp
   first | exact hK _ _ hB (by trivial) (fun _ _ h => h) hX | (rw [if_neg (by omega)]; go_simp; exact hK _ _ hB rfl (fun _ _ h => h) hX)
  ·intro vs Wx A lst hA hB hls hX hno hpre K hK
   have e40 := ((hA 40).trans (show _ = vs 13 by kernel_rfl)).trans (by repeat first | exact hpre.1 rfl | replace hpre := hpre.2)
   obtain ⟨hxp, ⟨c0, c1, c2, c3⟩⟩ := HXK.out Wx hB
   obtain ⟨x0, x1, x2, x3, x4, x5⟩ := six hxp
   clear hxp
   clear hA hpre
   go_simp
   first | exact hK _ _ hB (by trivial) (fun _ _ h => h) hX | (rw [if_neg (by omega)]; go_simp; exact hK _ _ hB rfl (fun _ _ h => h) hX)
  ·intro vs Wx A lst hA hB hls hX hno hpre K hK
   have e4 := (hA 4).trans (show _ = Value.int .i64 (i : Nat) by kernel_rfl)
   clear hA hpre
   go_simp
   first | exact hK _ _ hB (by trivial) (fun _ _ h => h) hX | (rw [if_neg (by omega)]; go_simp; exact hK _ _ hB rfl (fun _ _ h => h) hX)
  ·intro vs Wx A lst hA hB hls hX hno hpre K hK
   have e41 := ((hA 41).trans (show _ = vs 14 by kernel_rfl)).trans (by repeat first | exact hpre.1 rfl | replace hpre := hpre.2)
   have e42 := ((hA 42).trans (show _ = vs 15 by kernel_rfl)).trans (by repeat first | exact hpre.1 rfl | replace hpre := hpre.2)
   clear hA hpre
   go_simp
   first | exact hK _ _ hB (by trivial) (fun _ _ h => h) hX | (rw [if_neg (by omega)]; go_simp; exact hK _ _ hB rfl (fun _ _ h => h) hX)
  ·intro vs Wx A lst hA hB hls hX hno hpre K hK
   have e43 := ((hA 43).trans (show _ = vs 16 by kernel_rfl)).trans (by repeat first | exact hpre.1 rfl | replace hpre := hpre.2)
   clear hA hpre
   go_simp
   first | exact hK _ _ hB (by trivial) (fun _ _ h => h) hX | (rw [if_neg (by omega)]; go_simp; exact hK _ _ hB rfl (fun _ _ h => h) hX)
  ·intro vs Wx A lst hA hB hls hX hno hpre K hK
   have e44 := ((hA 44).trans (show _ = vs 17 by kernel_rfl)).trans (by repeat first | exact hpre.1 rfl | replace hpre := hpre.2)
   obtain ⟨hxp, ⟨c0, c1, c2, c3⟩⟩ := HXK.out Wx hB
   obtain ⟨x0, x1, x2, x3, x4, x5⟩ := six hxp
   clear hxp
   clear hA hpre
   go_simp
   first | exact hK _ _ hB (by trivial) (fun _ _ h => h) hX | (rw [if_neg (by omega)]; go_simp; exact hK _ _ hB rfl (fun _ _ h => h) hX)
  ·intro vs Wx A lst hA hB hls hX hno hpre K hK
   have e45 := ((hA 45).trans (show _ = vs 18 by kernel_rfl)).trans (by repeat first | exact hpre.1 rfl | replace hpre := hpre.2)
   clear hA hpre
   go_simp
   first | exact hK _ _ hB (by trivial) (fun _ _ h => h) hX | (rw [if_neg (by omega)]; go_simp; exact hK _ _ hB rfl (fun _ _ h => h) hX)
  ·intro vs Wx A lst hA hB hls hX hno hpre K hK
   have e32 := ((hA 32).trans (show _ = vs 5 by kernel_rfl)).trans (by repeat first | exact hpre.1 rfl | replace hpre := hpre.2)
   have e39 := ((hA 39).trans (show _ = vs 12 by kernel_rfl)).trans (by repeat first | exact hpre.1 rfl | replace hpre := hpre.2)
   have e46 := ((hA 46).trans (show _ = vs 19 by kernel_rfl)).trans (by repeat first | exact hpre.1 rfl | replace hpre := hpre.2)
   clear hA hpre
   go_simp
   first | exact hK _ _ hB (by trivial) (fun _ _ h => h) hX | (rw [if_neg (by omega)]; go_simp; exact hK _ _ hB rfl (fun _ _ h => h) hX)
  ·intro vs Wx A lst hA hB hls hX hno hpre K hK
   clear hA hpre
   go_simp
   refine hK _ _ (below_trans hB (below_alloc Wx _)) ⟨_, rfl, hB.size, heap_alloc_new Wx _⟩ (fun jz hj hz => ?_) hX
   match jz, hj, hz with
   | 0, _, hz => exact hz
   | 1, _, hz => exact hz
   | 2, _, hz => exact hz
   | 3, _, hz => exact hz
   | 4, _, hz => exact hz
   | 5, _, hz => exact hz
   | 6, _, hz => exact hz
   | 7, _, hz => exact hz
   | 8, _, hz => exact hz
   | 9, _, hz => exact hz
   | 10, _, hz => exact hz
   | 11, _, hz => exact hz
   | 12, _, hz => exact hz
   | 13, _, hz => exact hz
   | 14, _, hz => exact hz
   | 15, _, hz => exact hz
   | 16, _, hz => exact hz
   | 17, _, hz => exact hz
   | 18, _, hz => exact hz
   | 19, _, hz => exact hz
   | 20, _, hz => exact hz
   | 21, hj, _ => exact absurd rfl hj
   | n + 22, _, hz => exact hz
  ·intro vs Wx lst hall hX hB hF
   refine fun A22 hA K22 hK22 => ?_
   have e5 := (hA 5).trans (show _ = vs 21 by kernel_rfl)
   have e47 := ((hA 47).trans (show _ = vs 20 by kernel_rfl)).trans (hF 20 (by decide))
   clear hA
   obtain ⟨g, ea, hge, hgc⟩ := hF 21 (by decide)
   rw [ea] at e5
   obtain ⟨q0, q1, q2, q3⟩ := four hgc
   obtain ⟨k0, k1, k2, k3⟩ := frz4' hgc
   go_simp
   refine hK22 undef _ ?_
   clear q0 q1 q2 q3 k0 k1 k2 k3
   have HG7 := Lib.hid (Sv.put4_heap hgc (.string (mk y.proc)) (.int .i64 (-y.bi)) (.int .i64 (-y.paid)) (.slice none 0 0))
   have HB7 : Hid (Below wo.heap.size wo ((((Wx.setCell ⟨g, 0, none⟩ (.string (mk y.proc))).setCell ⟨g, 1, none⟩ (.int .i64 (-y.bi))).setCell ⟨g, 2, none⟩ (.int .i64 (-y.paid))).setCell ⟨g, 3, none⟩ (.slice none 0 0))) := Sv.put4_below hB g hge (.string (mk y.proc)) (.int .i64 (-y.bi)) (.int .i64 (-y.paid)) (.slice none 0 0)
   have HGE := Lib.hid hge
   have HGL : Hid (g < ((((Wx.setCell ⟨g, 0, none⟩ (.string (mk y.proc))).setCell ⟨g, 1, none⟩ (.int .i64 (-y.bi))).setCell ⟨g, 2, none⟩ (.int .i64 (-y.paid))).setCell ⟨g, 3, none⟩ (.slice none 0 0)).heap.size) := by have := (Array.getElem?_eq_some_iff.1 hgc).1; show _ < _; rw [Sv.put4_size]; exact this
   have hL : vs 21 = .pointer (some ⟨g, 0, none⟩) := ea
   clear hX hall hF hB hgc hge ea
   simp only [Ri.Tail, Ri.puts]
   have hL2 : Ri.upd vs 22 undef (0 + 1 + 1 + 1 + 1 + 1 + 1 + 1 + 1 + 1 + 1 + 1 + 1 + 1 + 1 + 1 + 1 + 1 + 1 + 1 + 1 + 1) = .pointer (some ⟨g, 0, none⟩) := (if_neg (by decide)).trans hL
   rw [hL2]
   clear hL hL2
   go_simp
   generalize ((((Wx.setCell ⟨g, 0, none⟩ (.string (mk y.proc))).setCell ⟨g, 1, none⟩ (.int .i64 (-y.bi))).setCell ⟨g, 2, none⟩ (.int .i64 (-y.paid))).setCell ⟨g, 3, none⟩ (.slice none 0 0)) = W7 at *
   have HW7 : Hid (Below p w W7) := HBn.out.trans (HB7.out.mono (by have := HPn.out; omega))
   go_wp2
   go_loopg [6] (y.cas.length) (fun gg t6 wr => ∃ (k : Nat) (a : Option Addr) (na ca : Nat), k ≤ y.cas.length ∧ gg = y.cas.length - k ∧ t6 = .int .i64 k ∧ Hid (wr.heap[g]? = some (.cells (#[.string (mk y.proc), .int .i64 (-y.bi), .int .i64 (-y.paid), .slice a na ca] : Array Value) 70 (0, 0))) ∧ Hid (OwnK (g + 1) wr (.slice a na ca) ((y.cas.take k).map casN)) ∧ Hid (Below wo.heap.size wo wr) ∧ Hid (g < wr.heap.size))
   case atStart => exact ⟨0, none, 0, 0, Nat.zero_le _, rfl, rfl, HG7.out, ownK_nil _ _, HB7.out, HGL.out⟩
   case round =>
    clear HG7 HB7 HGL HW7
    obtain ⟨k, a, na, ca, hk, hgk, rfl, HG, HO, HBk, HGLk⟩ := hrel
    obtain ⟨hxp, ⟨c0, c1, c2, c3⟩⟩ := HXK.out _ HBk.out
    obtain ⟨x0, x1, x2, x3, x4, x5⟩ := six hxp
    clear hxp
    by_cases hltk : k < y.cas.length
    ·have hltkz : (k : Int) < (y.cas.length : Int) := by omega
     obtain ⟨b3, o3, rfl, -, hb3, hx3, hc3⟩ := CasAt.get (HCA.out _ HBk.out) k hltk
     obtain ⟨e7, e8⟩ := HE6.out _ (List.mem_of_getElem? hx3)
     have HTC : Hid ((y.cas.take (k + 1)).map casN = (y.cas.take k).map casN ++ [casN y.cas[k]]) := by show _ = _; rw [List.take_add_one, hx3, List.map_append]; rfl
     have hi3 : k < y.cas.length := hltk
     generalize y.cas[k] = z at *
     obtain ⟨d0, d1, d2⟩ := id hc3
     have n3 : wrap64 (-z.ct) = -z.ct := by unfold wrap64; omega
     obtain ⟨wi, rfl⟩ : ∃ z, z = wr := ⟨_, rfl⟩
     have HX1 := Lib.hid (alloc_new wi (cae z) Tk)
     have HG1 := Lib.hid (keepB HG.out (below_alloc wi (.cells (cae z) Tk)))
     have HO1 := Lib.hid (Sv.ownK_far HO.out (below_alloc wi (.cells (cae z) Tk)))
     have HB1 : Hid (Below wo.heap.size wo (wi.alloc (.cells (cae z) Tk))) := HBk.out.trans ((below_alloc wi _).mono HBk.out.size)
     have HGL1 : Hid (g + 1 ≤ (wi.alloc (.cells (cae z) Tk)).heap.size) := by have := HGLk.out; show _ ≤ _; simp; omega
     clear hx3 hc3
     go_upto_region 10 with fail
     generalize wi.alloc (.cells (cae z) Tk) = W8 at *
     generalize hqi : wi.heap.size = qi at *
     clear c0 c1 c2 c3 x0 x1 x2 x3 x4 x5 d0 d1 d2
     obtain ⟨d0, d1, d2⟩ := three HX1.out
     obtain ⟨j0, j1, j2, j3⟩ := four HG1.out
     obtain ⟨k0, k1, k2, k3⟩ := frz4' HG1.out
     have HN8 := Lib.hid (alloc_new W8 (cae (casN z)) Tk)
     have HO8 := Lib.hid (Sv.ownK_far HO1.out (below_alloc W8 (.cells (cae (casN z)) Tk)))
     have HL8 : Hid (((y.cas.take k).map casN).length ≤ 1000000) := by show _ ≤ _; rw [List.length_map, List.length_take]; omega
     have HS8 : Hid (g + 1 ≤ (W8.alloc (.cells (cae (casN z)) Tk)).heap.size) := by have := HGL1.out; show _ ≤ _; simp; omega
     have HFF : Hid (∀ v' w', OwnK (g + 1) w' v' ((y.cas.take k).map casN ++ [casN z]) → (W8.alloc (.cells (cae (casN z)) Tk)).grownBy w' (Value.slice a na ca).ownBlock → w'.heap[g]? = some (.cells (#[.string (mk y.proc), .int .i64 (-y.bi), .int .i64 (-y.paid), .slice a na ca] : Array Value) 70 (0, 0)) ∧ Below wo.heap.size wo w' ∧ g < w'.heap.size) := fun v' w' ho hg => by
      have hlow := growK_low HO8.out hg HS8.out
      have h1 := keepB HG1.out (below_alloc W8 (.cells (cae (casN z)) Tk))
      have hge := HGE.out
      exact ⟨(hlow.block g (by omega)).trans h1, HB1.out.trans (((below_alloc W8 _).mono HB1.out.size).trans (hlow.mono (by omega))), by have := hlow.size; have := HS8.out; omega⟩
     go_wp2_with (first | (at_builtin; refine wpList_plain (by rfl) (fun K hK => ?_); refine wp_appK _ _ rfl (g + 1) (.slice a na ca) _ rfl HO8.out _ 1 (casN z) rfl HN8.out HL8.out HS8.out (fun v' w9 ho hg hat => ?_); obtain ⟨a9, c9, hv9, -, -⟩ := ownK_form ho; have HG9 := Lib.hid (HFF.out v' w9 ho hg); rw [← HTC.out] at ho hv9; generalize ((y.cas.take (k + 1)).map casN).length = nq at hv9; have HO9 := Lib.hid ho; clear ho hg hat; subst hv9; obtain ⟨j0, j1, j2, j3⟩ := four HG9.out.1; obtain ⟨k0, k1, k2, k3⟩ := frz4' HG9.out.1; refine hK _ _ ?_; clear hK))
     have HGN : Hid ((w9.setCell ⟨g, 3, none⟩ (.slice a9 nq c9)).heap[g]? = some (.cells (#[.string (mk y.proc), .int .i64 (-y.bi), .int .i64 (-y.paid), .slice a9 nq c9] : Array Value) 70 (0, 0))) := by
      have h1 := heap_set HG9.out.1 3 (.slice a9 nq c9)
      show _ = _
      rw [h1]; rfl
     have HON : Hid (OwnK (g + 1) (w9.setCell ⟨g, 3, none⟩ (.slice a9 nq c9)) (.slice a9 nq c9) ((y.cas.take (k + 1)).map casN)) := ownK_keep HO9.out fun q hq => Below.heap_setCell _ _ _ _ (by have := (World.ownsRow.lt HO9.out q hq).1; show q ≠ g; omega)
     have HBN : Hid (Below wo.heap.size wo (w9.setCell ⟨g, 3, none⟩ (.slice a9 nq c9))) := HG9.out.2.1.setCell (p := ⟨g, 3, none⟩) HGE.out _
     have HLN : Hid (g < (w9.setCell ⟨g, 3, none⟩ (.slice a9 nq c9)).heap.size) := by have := HG9.out.2.2; show _ < _; simpa using this
     go_roundg (y.cas.length - (k + 1))
     case measure => omega
     case rel => exact ⟨k + 1, a9, _, c9, by omega, rfl, by go_num, HGN.out, HON.out, HBN.out, HLN.out⟩
    have hltkz : ¬ (k : Int) < (y.cas.length : Int) := by omega
    have HOF : Hid (OwnK (g + 1) wr (.slice a na ca) (svcN y).cas) := by
     have h1 := HO.out
     rw [List.take_of_length_le (by omega)] at h1
     exact h1
    obtain ⟨wi, rfl⟩ : ∃ z, z = wr := ⟨_, rfl⟩
    have HQi := Lib.hid (keepB HQ.out HBk.out)
    have HFi := Lib.hid (FullS.keep HF.out HBk.out.size HBk.out.block)
    have HYi := Lib.hid (keepB HY.out HBk.out)
    have HXi := Lib.hid (keepB HX.out HBk.out)
    have HPi : Hid (p + 3 ≤ wi.heap.size) := Nat.le_trans HPn.out HBk.out.size
    have HBi : Hid (Below p w wi) := HBn.out.trans (HBk.out.mono (by have := HPn.out; omega))
    have HVO : Hid (∀ q, (Value.slice u n c).ownBlock = some q → q < wo.heap.size) := fun q hq => (World.ownsRow.lt HF.out.1 q hq).2
    obtain ⟨j0, j1, j2, j3⟩ := four HG.out
    obtain ⟨q0, q1, q2, q3, q4, q5⟩ := six HQi.out
    obtain ⟨k0, k1, k2, k3, k4, k5⟩ := frz6 HQi.out
    have HN8 := Lib.hid (alloc_new wi (sre (svcN y) (.slice a na ca)) Ts)
    have HF8 := Lib.hid (HFi.out.grw (below_alloc wi (.cells (sre (svcN y) (.slice a na ca)) Ts)))
    have HSL : Hid (Sv.Sl ⟨svcN y, .slice a na ca⟩) := rfl
    have HS8 : Hid (p + 3 ≤ (wi.alloc (.cells (sre (svcN y) (.slice a na ca)) Ts)).heap.size) := by have := HPi.out; show _ ≤ _; simp; omega
    have HCA8 : Hid (CasAt (Sv.Off (p + 3) (.slice u n c)) (wi.alloc (.cells (sre (svcN y) (.slice a na ca)) Ts)) (.slice a na ca) (svcN y).cas) := (cas_of_own (K := fun q => g + 1 ≤ q) HOF.out (fun q hq => hq)).move ⟨by simp, fun q hlt hq => ⟨⟨fun e => by have := HVO.out q e; have := HGE.out; omega, by have := HGE.out; have := HPn.out; omega⟩, (below_alloc wi _).block q hlt⟩⟩
    have HFF : Hid (∀ v' w', OwnS (p + 3) w' v' (N ++ [⟨svcN y, .slice a na ca⟩]) → (wi.alloc (.cells (sre (svcN y) (.slice a na ca)) Ts)).grownBy w' (Value.slice u n c).ownBlock → (v'.ownBlock = (Value.slice u n c).ownBlock ∨ v'.ownBlock = some (wi.alloc (.cells (sre (svcN y) (.slice a na ca)) Ts)).heap.size) → FullS (p + 3) w' v' (N ++ [⟨svcN y, .slice a na ca⟩]) ∧ w'.heap[p + 2]? = some (.cells (#[.string (mk x.id), .int .i64 22, .int .i64 (-x.bi), .int .i64 (-x.paid), .int .i64 (-x.mem), .slice u n c] : Array Value) 38 (0, 0)) ∧ w'.heap[p]? = some (.cells (#[.string (mk x.id), .int .i64 x.st, .int .i64 x.bi, .int .i64 x.paid, .int .i64 x.mem, (.slice (some ⟨b, o, none⟩) x.svs.length cm)] : Array Value) 38 (0, 0)) ∧ w'.heap[p + 1]? = some (.cells (#[.string { data := #[] }, .int .i64 0, .int .i64 0, .int .i64 0, .int .i64 0, .slice none 0 0] : Array Value) 38 (0, 0)) ∧ Below p w w' ∧ p + 3 ≤ w'.heap.size) := fun v' w' ho hg hat => by
     have hlow := growS_low HF8.out.1 hg HS8.out
     have hb := below_alloc wi (.cells (sre (svcN y) (.slice a na ca)) Ts)
     exact ⟨HF8.out.app HCA8.out ho hg hat, (hlow.block (p + 2) (by omega)).trans (keepB HQi.out hb), (hlow.block p (by omega)).trans (keepB HXi.out hb), (hlow.block (p + 1) (by omega)).trans (keepB HYi.out hb), HBi.out.trans ((hb.mono (by have := HPi.out; omega)).trans (hlow.mono (by omega))), by have := hlow.size; have := HS8.out; omega⟩
    go_wp2_with (first | (at_builtin; refine wpList_plain (by rfl) (fun K hK => ?_); refine wp_appS _ _ rfl (p + 3) (.slice u n c) N rfl HF8.out.1 _ 1 (⟨svcN y, .slice a na ca⟩ : Sx) rfl HN8.out HSL.out (by omega) HS8.out (fun v' w9 ho hg hat => ?_); have HG9 := Lib.hid (HFF.out v' w9 ho hg hat); obtain ⟨a9, c9, hv9, -, -⟩ := Sv.FullS.form HG9.out.1; clear ho hg hat; generalize (N ++ [(⟨svcN y, .slice a na ca⟩ : Sx)]).length = nq at hv9; subst hv9; obtain ⟨q0, q1, q2, q3, q4, q5⟩ := six HG9.out.2.1; obtain ⟨k0, k1, k2, k3, k4, k5⟩ := frz6 HG9.out.2.1; refine hK _ _ ?_; clear hK))
    have HQN : Hid ((w9.setCell ⟨p + 2, 5, none⟩ (.slice a9 nq c9)).heap[p + 2]? = some (.cells (#[.string (mk x.id), .int .i64 22, .int .i64 (-x.bi), .int .i64 (-x.paid), .int .i64 (-x.mem), .slice a9 nq c9] : Array Value) 38 (0, 0))) := by
     have h1 := heap_set HG9.out.2.1 5 (.slice a9 nq c9)
     show _ = _
     rw [h1]; rfl
    have HFN : Hid (FullS (p + 3) (w9.setCell ⟨p + 2, 5, none⟩ (.slice a9 nq c9)) (.slice a9 nq c9) (N ++ [(⟨svcN y, .slice a na ca⟩ : Sx)])) := by
     have h1 := HG9.out.1
     refine ⟨⟨h1.1.1, h1.1.2.imp id ?_⟩, fun z hz => (h1.2 z hz).move ⟨by simp, fun q hlt hq => ⟨hq, Below.heap_setCell _ _ _ _ (show q ≠ p + 2 by have := hq.2; omega)⟩⟩⟩
     rintro ⟨q, cp, cur, e, h0, hh, hr⟩
     exact ⟨q, cp, cur, e, h0, (Below.heap_setCell _ _ _ _ (show q ≠ p + 2 by omega)).trans hh, hr⟩
    have HXN : Hid ((w9.setCell ⟨p + 2, 5, none⟩ (.slice a9 nq c9)).heap[p]? = some (.cells (#[.string (mk x.id), .int .i64 x.st, .int .i64 x.bi, .int .i64 x.paid, .int .i64 x.mem, (.slice (some ⟨b, o, none⟩) x.svs.length cm)] : Array Value) 38 (0, 0))) := heap_far HG9.out.2.2.1 (by omega)
    have HYN : Hid ((w9.setCell ⟨p + 2, 5, none⟩ (.slice a9 nq c9)).heap[p + 1]? = some (.cells (#[.string { data := #[] }, .int .i64 0, .int .i64 0, .int .i64 0, .int .i64 0, .slice none 0 0] : Array Value) 38 (0, 0))) := heap_far HG9.out.2.2.2.1 (by omega)
    have HBN : Hid (Below p w (w9.setCell ⟨p + 2, 5, none⟩ (.slice a9 nq c9))) := HG9.out.2.2.2.2.1.setCell (p := ⟨p + 2, 5, none⟩) (show p ≤ p + 2 by omega) _
    have HPN : Hid (p + 3 ≤ (w9.setCell ⟨p + 2, 5, none⟩ (.slice a9 nq c9)).heap.size) := by have := HG9.out.2.2.2.2.2; show _ ≤ _; simpa using this
    have HNN : Hid ((N ++ [(⟨svcN y, .slice a na ca⟩ : Sx)]).map (·.s) = (x.svs.take (i + 1)).map svcN) := by show _ = _; rw [HTK.out, List.map_append, HNm.out]; rfl
    go_roundg (x.svs.length - (i + 1))
    case measure => omega
    case rel => exact ⟨i + 1, N ++ [(⟨svcN y, .slice a na ca⟩ : Sx)], a9, nq, c9, by omega, rfl, by go_num, by rw [List.length_append, hNl]; rfl, HNN.out, HQN.out, HFN.out, HXN.out, HYN.out, HBN.out, HPN.out⟩
end Go.Proofs.Ytpfpjbeofogbgaa.Re
end
