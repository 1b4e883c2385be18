/-
  Texts put together (merge.py): PChc, PRCk, PIs, PChd, PChb, PRRu.
-/
import Derived.Deep.CutBlock
import Derived.Test.YtfoooldkmokjpaaGreatDoorMj15
import Derived.Test.YtfoooldkmokjpaaGreatDoorMj13
set_option linter.unusedSimpArgs false
set_option linter.unusedVariables false
section
set_option maxRecDepth 100000
namespace Go.Proofs.YtfoooldkmokjpaaGreatDoor.Pl
open Go.RowKit
open Wo (Wd box_cell box_two keepB heap_far)
theorem condB_eq (f : Nat) (c : Cd) : condB (f + 1) c = (decide (c.kids.length = kidN c.kind) && (c.kids.all (condB f) && leafB c.kind c.lo c.hi c.n)) := by cases c; rfl
theorem bfive {w : World} {q : Nat} {a b c d e : Value} {T : TypeId} (h : w.heap[q]? = some (.cells #[a, b, c, d, e] T (0, 0))) : w.cell? ⟨q, 0, none⟩ = some a ∧ w.cell? ⟨q, 1, none⟩ = some b ∧ w.cell? ⟨q, 2, none⟩ = some c ∧ w.cell? ⟨q, 3, none⟩ = some d ∧ w.cell? ⟨q, 4, none⟩ = some e := by
 refine ⟨?_, ?_, ?_, ?_, ?_⟩ <;> rw [cell_of_row w q _ _ T (0, 0) h] <;> rfl
theorem below_tr {B : Nat} {a b c : World} (hB : a.heap.size = B) (h : Below B a b) (k : Below b.heap.size b c) : Below B a c := h.trans (k.mono (hB ▸ h.size))
theorem below_dn {w W : World} (h : Below w.heap.size w W) (n : Nat) : Below w.heap.size w (W.drewN n) := h.trans ⟨rfl, rfl, rfl, Nat.le_refl _, fun _ _ => rfl⟩
set_option maxHeartbeats 8000000 in
theorem chk_deep (c : Cd) (m : Value) (w : World) :
  Calls Tryz.prog 106 #[cdv c m, .int .i64 17] w fun e w' => e = .returned (.bool false) ∧ Below w.heap.size w w' := by
 have hb := below_alloc w (.cells #[.int .i64 c.kind, .string (mk c.lo), .string (mk c.hi), .int .i64 c.n, m] 82)
 have HB := Lib.hid hb
 clear hb
 go_enter Tryz.func106, Tryz.ntmps106
 go_wp2_with fail
 go_quiet (fail)
 go_wp2
 go_ret
 exact ⟨rfl, below_dn HB.out nq⟩
theorem all_take1 {p : Cd → Bool} (l : List Cd) (k : Nat) (c : Cd) (h : l[k]? = some c) (hk : (l.take k).all p = true) (hc : p c = true) : (l.take (k + 1)).all p = true := by
 rw [List.take_add_one, h]; simp_all
theorem all_not1 {p : Cd → Bool} (l : List Cd) (k : Nat) (c : Cd) (h : l[k]? = some c) (hc : p c = false) : l.all p = false := by
 rw [List.all_eq_false]
 exact ⟨c, List.mem_of_getElem? h, by simp [hc]⟩
set_option maxHeartbeats 16000000 in
theorem chk_step (f : Nat) (d : Int) (hd0 : 1 ≤ d) (hd : d ≤ 16) (IH : ∀ (c : Cd) (m : Value) (w : World), KsAt All w m c.kids → Ok1 c → Calls Tryz.prog 106 #[cdv c m, .int .i64 (d + 1)] w fun e w' => e = .returned (.bool (condB f c)) ∧ Below w.heap.size w w')
  (c : Cd) (m : Value) (w : World) (hK : KsAt All w m c.kids) (ho : Ok1 c) :
  Calls Tryz.prog 106 #[cdv c m, .int .i64 d] w fun e w' => e = .returned (.bool (condB (f + 1) c)) ∧ Below w.heap.size w w' := by
 rw [condB_eq]
 have hb := below_alloc w (.cells #[.int .i64 c.kind, .string (mk c.lo), .string (mk c.hi), .int .i64 c.n, m] 82)
 have HB := Lib.hid hb
 have HX := Lib.hid (heap_alloc_new w (.cells #[.int .i64 c.kind, .string (mk c.lo), .string (mk c.hi), .int .i64 c.n, m] 82))
 have HK := Lib.hid (hK.grw hb)
 obtain ⟨a, k, rfl, h1, h2⟩ := hK.form
 have HKD := Lib.hid fun W => kids_any c.kind W
 have HF := Lib.hid fun W => fields_any c (.slice a c.kids.length k) W ho
 obtain ⟨x0, x1, x2, x3, x4⟩ := bfive HX.out
 have hi : ¬ 16 < d := by omega
 have hbig : c.kids.length ≤ 281474976710656 := ho.2.2.2.2
 have hneq : ((c.kids.length : Int) != ((kidN c.kind : Nat) : Int)) = !decide (c.kids.length = kidN c.kind) := by
  by_cases e : c.kids.length = kidN c.kind <;> simp [e] <;> omega
 clear hK hb
 generalize hgl : decide (c.kids.length = kidN c.kind) = GL at *
 generalize hgf : leafB c.kind c.lo c.hi c.n = GF at *
 clear hgl hgf
 go_enter Tryz.func106, Tryz.ntmps106
 go_upto_region 1 with fail
 generalize w.alloc (.cells #[.int .i64 c.kind, .string (mk c.lo), .string (mk c.hi), .int .i64 c.n, .slice a c.kids.length k] 82) = W at *
 generalize hp : w.heap.size = p at *
 go_cut [22] (fun s22 wx => s22 = .bool (!(GL && GF)) ∧ Hid (Below W.heap.size W wx))
 case first =>
  cases GL
  ·simp only [Bool.not_false] at hneq
   go_quiet (first | (go_at_call 143; refine Calls.quiet_of_same (HKD.out _)))
   go_wp2_with fail
   go_meet
   exact ⟨rfl, below_dn (Below.refl _ _) _⟩
  ·simp only [Bool.not_true] at hneq
   go_region_with (first | (go_at_call 143; refine (HKD.out _).mono ?_; rintro x w1 ⟨rfl, rfl⟩) | (go_at_call 144; refine (HF.out _).mono ?_; rintro x w1 ⟨rfl, hb1⟩; have HB1 := Lib.hid hb1; clear hb1))
   all_goals
    go_wp2_with fail
    go_meet
    exact ⟨by cases GF <;> rfl, below_trans (Below.drew (Below.refl _ W)) HB1.out⟩
 case rest =>
  obtain ⟨rfl, HBx⟩ := hcut
  have hBB : Below p w wc := below_tr hp HB.out HBx.out
  have HBB := Lib.hid hBB
  have HKx := Lib.hid (HK.out.grw HBx.out)
  obtain ⟨x0, x1, x2, x3, x4⟩ := bfive (keepB HX.out HBx.out)
  clear HB HX HK HKD HF hneq hBB HBx
  cases hg : (GL && GF) with
  | false =>
   have HRES : Hid ((GL && (c.kids.all (condB f) && GF)) = false) := by
    show _ = _
    cases GL <;> cases GF <;> simp_all
   clear hg
   go_wp2
   go_ret
   exact ⟨by rw [HRES.out]; rfl, by first | exact HBB.out | (rw [hp]; exact HBB.out)⟩
  | true =>
   have HRES : Hid ((GL && (c.kids.all (condB f) && GF)) = c.kids.all (condB f)) := by
    show _ = _
    cases GL <;> cases GF <;> simp_all
   clear hg
   have HW0 := Lib.hid (Below.refl wc.heap.size wc)
   go_wp2
   go_loopg [26] (c.kids.length) (fun g i wr => ∃ n : Nat, n ≤ c.kids.length ∧ g = c.kids.length - n ∧ i = .int .i64 n ∧ Hid (Below wc.heap.size wc wr) ∧ Hid ((c.kids.take n).all (condB f) = true))
   case atStart => exact ⟨0, Nat.zero_le _, rfl, rfl, HW0.out, rfl⟩
   case round =>
    clear HW0 x0 x1 x2 x3 x4
    obtain ⟨n, hn, hgk, rfl, HBr, HA⟩ := hrel
    by_cases hlt : n < c.kids.length
    ·obtain ⟨b, o, mv, rfl, hbs, hx, hcc, hkk, hok⟩ := KsAt.get (HKx.out.grw HBr.out) n hlt
     obtain ⟨y0, y1, y2, y3, y4⟩ := hcc
     obtain ⟨ma, mc, rfl, -, -⟩ := hkk.form
     have hbz := below_alloc wr (.cells #[.int .i64 c.kids[n].kind, .string (mk c.kids[n].lo), .string (mk c.kids[n].hi), .int .i64 c.kids[n].n, .slice ma c.kids[n].kids.length mc] 82)
     have HC := Lib.hid (IH c.kids[n] _ _ (hkk.grw hbz) hok)
     have HBz := Lib.hid (below_trans HBr.out hbz)
     have HT := Lib.hid fun h => all_take1 (p := condB f) c.kids n _ hx HA.out h
     have HN := Lib.hid fun h => all_not1 (p := condB f) c.kids n _ hx h
     clear hx hkk hok hbz
     generalize c.kids[n] = kd at *
     cases hq : condB f kd
     ·rw [hq] at HC
      have HN2 := Lib.hid (HN.out hq)
      clear hq HT HN
      go_wp2_with (go_at_call 106; refine HC.out.mono ?_; rintro e w3 ⟨rfl, hb3⟩; have HB3 := Lib.hid hb3; clear hb3)
      go_ret
      exact ⟨by rw [HRES.out, HN2.out]; rfl, by first | exact below_tr hp HBB.out (below_trans HBz.out HB3.out) | (rw [hp]; exact below_tr hp HBB.out (below_trans HBz.out HB3.out))⟩
     ·rw [hq] at HC
      have HT2 := Lib.hid (HT.out hq)
      clear hq HT HN
      go_wp2_with (go_at_call 106; refine HC.out.mono ?_; rintro e w3 ⟨rfl, hb3⟩; have HB3 := Lib.hid hb3; clear hb3)
      go_roundg (c.kids.length - (n + 1))
      case rel => exact ⟨n + 1, by omega, rfl, by go_num, below_trans HBz.out HB3.out, HT2.out⟩
      case measure => omega
    ·have hall : c.kids.take n = c.kids := List.take_of_length_le (by omega)
     rw [hall] at HA
     clear hall
     go_wp2
     go_ret
     exact ⟨by rw [HRES.out, HA.out]; rfl, by first | exact below_tr hp HBB.out HBr.out | (rw [hp]; exact below_tr hp HBB.out HBr.out)⟩
theorem chk_cond : ∀ (f : Nat) (d : Int), d + f = 17 → f ≤ 16 → ∀ (c : Cd) (m : Value) (w : World), KsAt All w m c.kids → Ok1 c →
  Calls Tryz.prog 106 #[cdv c m, .int .i64 d] w fun e w' => e = .returned (.bool (condB f c)) ∧ Below w.heap.size w w' := by
 intro f
 induction f with
 | zero =>
  intro d hd _ c m w _ _
  obtain rfl : d = 17 := by omega
  exact chk_deep c m w
 | succ f ih => intro d hd hf c m w hK ho; exact chk_step f d (by omega) (by omega) (fun c m w hK ho => ih (d + 1) (by omega) (by omega) c m w hK ho) c m w hK ho
end Go.Proofs.YtfoooldkmokjpaaGreatDoor.Pl
end
section
set_option maxRecDepth 100000
namespace Go.Proofs.YtfoooldkmokjpaaGreatDoor.Pl
open Go.RowKit
open Wo (Wd box_cell box_two keepB heap_far)
end Go.Proofs.YtfoooldkmokjpaaGreatDoor.Pl
end
section
set_option maxRecDepth 100000
namespace Go.Proofs.YtfoooldkmokjpaaGreatDoor.Pl
open Go.RowKit
open Wo (Wd box_cell box_two keepB heap_far)
theorem isf_any (s : St) (k : Int) (p : Nat) (w : World) (hp : w.heap[p]? = some (.cells #[.int .i64 k] 3 (0, 0))) :
  Calls Tryz.prog 166 #[stv s, .pointer (some ⟨p, 0, none⟩)] w fun e w' => e = .returned (.bool (s.what == k)) ∧ Below w.heap.size w w' := by
 have hb := below_alloc w (.cells #[.int .i64 s.what, .int .i64 s.n] 88)
 obtain ⟨c0, -⟩ := box_cell (keepB hp hb)
 have HB := Lib.hid hb
 clear hb hp
 go_enter Tryz.func166, Tryz.ntmps166
 go_wp2
 go_ret
 exact ⟨rfl, HB.out⟩
set_option maxHeartbeats 4000000 in
theorem idxf_any (v : Value) (ss : List St) (k : Int) (p : Nat) (w : World) (h : StsAt All w v ss) (hp : w.heap[p]? = some (.cells #[.int .i64 k] 3 (0, 0))) :
  Calls Tryz.prog 176 #[v, .func (.func 166) #[] #[.pointer (some ⟨p, 0, none⟩)]] w fun e w' => (∃ n : Int, e = .returned (.int .i64 n) ∧ (decide (0 ≤ n) = decide (k ∈ ss.map (·.what)))) ∧ Below w.heap.size w w' := by
 have HS := Lib.hid h
 have HP := Lib.hid hp
 obtain ⟨a, c, rfl, h1, h2, h4⟩ := h.form
 have HB0 := Lib.hid (Below.refl w.heap.size w)
 clear h hp
 go_enter Tryz.func176, Tryz.ntmps176
 go_wp2
 go_loopg [8] (ss.length) (fun g i wr => ∃ (n : Nat), n ≤ ss.length ∧ g = ss.length - n ∧ i = .int .i64 n ∧ Hid (Below w.heap.size w wr) ∧ Hid (k ∉ (ss.take n).map (·.what)))
 case atStart => exact ⟨0, Nat.zero_le _, rfl, rfl, HB0.out, by show _ ∉ _; simp⟩
 case round =>
  clear HB0
  obtain ⟨n, hk, hg, rfl, HB, HA⟩ := hrel
  by_cases hlt : n < ss.length
  ·obtain ⟨b, o, rfl, hbs, hx, hu0, hu1, -, -⟩ := StsAt.get (HS.out.grw HB.out) n hlt
   have HC := Lib.hid fun W (hW : W.heap[p]? = some (.cells #[.int .i64 k] 3 (0, 0))) => isf_any ss[n] k p W hW
   have HP1 := Lib.hid (keepB HP.out HB.out)
   have HH : Hid (ss[n].what = k → k ∈ ss.map (·.what)) := fun e => by rw [← e]; exact List.mem_map_of_mem (List.getElem_mem hlt)
   have HN : Hid (¬ ss[n].what = k → k ∉ (ss.take (n + 1)).map (·.what)) := fun he => by
    show k ∉ (ss.take (n + 1)).map (·.what)
    rw [List.take_add_one, hx]
    simp only [Option.toList_some, List.map_append, List.map_cons, List.map_nil, List.mem_append, List.mem_singleton, not_or]
    exact ⟨HA.out, fun e => he e.symm⟩
   clear hx
   generalize ss[n] = x at *
   by_cases he : x.what = k
   ·have hq : (x.what == k) = true := by simpa using he
    have HH2 := Lib.hid (HH.out he)
    rw [hq] at HC
    clear he hq
    go_wp2_with (go_at_call 166; refine (HC.out _ HP1.out).mono ?_; rintro e w1 ⟨rfl, hb1⟩; have HB1 := Lib.hid hb1; clear hb1)
    go_ret
    refine ⟨⟨(n : Nat), rfl, ?_⟩, below_trans HB.out HB1.out⟩
    rw [decide_eq_true HH2.out, decide_eq_true (by omega)]
   ·have hq : (x.what == k) = false := by simpa using he
    have HN2 := Lib.hid (HN.out he)
    rw [hq] at HC
    clear he hq
    go_wp2_with (go_at_call 166; refine (HC.out _ HP1.out).mono ?_; rintro e w1 ⟨rfl, hb1⟩; have HB1 := Lib.hid hb1; clear hb1)
    go_roundg (ss.length - (n + 1))
    case rel => exact ⟨n + 1, by omega, rfl, by go_num, below_trans HB.out HB1.out, HN2.out⟩
    case measure => omega
  ·have hall : ss.take n = ss := List.take_of_length_le (by omega)
   have HM : Hid (k ∉ ss.map (·.what)) := by show _ ∉ _; rw [← hall]; exact HA.out
   clear hall
   go_wp2
   go_ret
   refine ⟨⟨-1, rfl, ?_⟩, HB.out⟩
   rw [decide_eq_false HM.out, decide_eq_false (by omega)]
set_option maxHeartbeats 4000000 in
theorem contf_any (v : Value) (ss : List St) (k : Int) (p : Nat) (w : World) (h : StsAt All w v ss) (hp : w.heap[p]? = some (.cells #[.int .i64 k] 3 (0, 0))) :
  Calls Tryz.prog 165 #[v, .func (.func 166) #[] #[.pointer (some ⟨p, 0, none⟩)]] w fun e w' => e = .returned (.bool (decide (k ∈ ss.map (·.what)))) ∧ Below w.heap.size w w' := by
 have HC := Lib.hid (idxf_any v ss k p w h hp)
 clear h hp
 go_enter Tryz.func165, Tryz.ntmps165
 go_wp2_with (go_at_call 176; refine HC.out.mono ?_; rintro e w1 ⟨⟨n, rfl, hn⟩, hb1⟩; have HB1 := Lib.hid hb1; have HN := Lib.hid hn; clear hb1 hn)
 go_ret
 exact ⟨by rw [← HN.out]; rfl, HB1.out⟩
set_option maxHeartbeats 4000000 in
theorem isSet_any (v : Value) (ss : List St) (k : Int) (w : World) (h : StsAt All w v ss) :
  Calls Tryz.prog 146 #[v, .int .i64 k] w fun e w' => e = .returned (.bool (decide (k ∈ ss.map (·.what)))) ∧ Below w.heap.size w w' := by
 have hb := below_alloc w (.cells #[.int .i64 k] 3)
 have HC := Lib.hid (contf_any v ss k w.heap.size _ (h.grw hb) (heap_alloc_new w (.cells #[.int .i64 k] 3)))
 have HB := Lib.hid hb
 obtain ⟨a, c, rfl, h1, h2, h4⟩ := h.form
 have hmf : ∀ (fn : Fn) (first cap : Array Value) (w : World), (Instr.makeFunc fn first cap).run Tryz.prog w = .ok (.func fn first cap) w := fun _ _ _ _ => rfl
 clear h hb
 generalize decide (k ∈ ss.map (·.what)) = R at *
 go_enter Tryz.func146, Tryz.ntmps146
 go_wp2_with (go_at_call 165; refine HC.out.mono ?_; rintro e w1 ⟨rfl, hb1⟩; have HB1 := Lib.hid hb1; clear hb1)
 go_ret
 exact ⟨rfl, below_trans HB.out HB1.out⟩
end Go.Proofs.YtfoooldkmokjpaaGreatDoor.Pl
end
section
set_option maxRecDepth 100000
namespace Go.Proofs.YtfoooldkmokjpaaGreatDoor.Pl
open Go.RowKit
open Wo (Wd box_cell box_two keepB heap_far)
set_option maxHeartbeats 8000000 in
theorem chk_set (s : St) (w : World) :
  Calls Tryz.prog 145 #[stv s] w fun e w' => e = .returned (.bool (setB s)) ∧ Below w.heap.size w w' := by
 have HB := Lib.hid (below_alloc w (.cells #[.int .i64 s.what, .int .i64 s.n] 88))
 obtain ⟨k, n⟩ := s
 by_cases h1 : k = 1 ∨ k = 2
 ·have HRES : Hid (setB ⟨k, n⟩ = (n == 0 || n == 1)) := by
   show _ = _
   unfold setB
   simp only [if_pos h1]
   rw [Bool.eq_iff_iff]; simp; omega
  rcases h1 with rfl | rfl
  all_goals
   cases h0 : (n == 0) <;> cases hh : (n == 1)
   all_goals
    rw [h0, hh] at HRES
    go_enter Tryz.func145, Tryz.ntmps145
    go_wp2
    go_ret
    exact ⟨by rw [HRES.out]; rfl, HB.out⟩
 by_cases h3 : k = 3
 ·subst h3
  have HRES : Hid (setB ⟨3, n⟩ = goodB n) := by
   show _ = _
   unfold setB goodB
   rw [Bool.eq_iff_iff]; simp
  have HG := Lib.hid fun W => good_eq n W
  generalize goodB n = G at *
  go_enter Tryz.func145, Tryz.ntmps145
  go_wp2_with (first | (go_at_call 79; refine (HG.out _).mono ?_; rintro e w1 ⟨rfl, rfl⟩))
  go_ret
  exact ⟨by rw [HRES.out]; rfl, HB.out⟩
 by_cases h4 : k = 4
 ·subst h4
  have HRES : Hid (setB ⟨4, n⟩ = (decide (0 ≤ n) && decide (n ≤ 10000))) := rfl
  cases h0 : decide (0 ≤ n) <;> cases hh : decide (n ≤ 10000)
  all_goals
   rw [h0, hh] at HRES
   go_enter Tryz.func145, Tryz.ntmps145
   go_wp2
   go_ret
   exact ⟨by rw [HRES.out]; rfl, HB.out⟩
 ·have HRES : Hid (setB ⟨k, n⟩ = false) := by
   show _ = _
   unfold setB
   simp only [if_neg h1, if_neg h3, if_neg h4, Bool.and_false]
  have b1 : (k == 1) = false := by simp; omega
  have b2 : (k == 2) = false := by simp; omega
  have b3 : (k == 3) = false := by simp; omega
  have b4 : (k == 4) = false := by simp; omega
  clear h1 h3 h4
  go_enter Tryz.func145, Tryz.ntmps145
  go_wp2
  go_ret
  exact ⟨by rw [HRES.out]; rfl, HB.out⟩
theorem StsAt.take {K : Nat → Prop} {w : World} {a : Option Addr} {n c : Nat} {ss : List St} (h : StsAt K w (.slice a n c) ss) (k : Nat) (hk : k ≤ ss.length) : StsAt K w (.slice a k c) (ss.take k) := by
 obtain ⟨a', c', he, h1, h2, h4, h5, h3⟩ := h
 injection he with e1 e2 e3
 subst e1 e2 e3
 have hl : (ss.take k).length = k := by simp; omega
 refine ⟨a, c, by rw [hl], by rw [hl]; omega, h2, by rw [hl]; omega, fun x hx => h5 x (List.mem_of_mem_take hx), ?_⟩
 rcases h3 with h | ⟨b, o, ha, hK, hb, hc⟩
 ·subst h; left; simp
 ·exact Or.inr ⟨b, o, ha, hK, hb, fun j x hj => hc j x (by rw [List.getElem?_take] at hj; split at hj; exact hj; cases hj)⟩
theorem sets_at (ss : List St) (k : Nat) (s : St) (seen : List Int) (h : ss[k]? = some s) : setsB seen (ss.drop k) = (setB s && (decide (s.what ∉ seen) && setsB (seen ++ [s.what]) (ss.drop (k + 1)))) := by
 have hk : k < ss.length := (List.getElem?_eq_some_iff.1 h).1
 have hs : ss[k] = s := (List.getElem?_eq_some_iff.1 h).2
 rw [List.drop_eq_getElem_cons hk, hs]
 rfl
theorem map_take1 (ss : List St) (k : Nat) (s : St) (h : ss[k]? = some s) : (ss.take (k + 1)).map (·.what) = (ss.take k).map (·.what) ++ [s.what] := by
 rw [List.take_add_one, h]; simp
set_option maxHeartbeats 16000000 in
theorem chk_sets (v : Value) (ss : List St) (w : World) (h : StsAt All w v ss) :
  Calls Tryz.prog 107 #[v] w fun e w' => e = .returned (.bool (decide (1 ≤ ss.length) && setsB [] ss)) ∧ Below w.heap.size w w' := by
 have HS := Lib.hid h
 obtain ⟨a, c, rfl, h1, h2, h4⟩ := h.form
 have HB0 := Lib.hid (Below.refl w.heap.size w)
 obtain ⟨R, hR⟩ : ∃ R, R = setsB [] ss := ⟨_, rfl⟩
 have HR0 : Hid (R = setsB ((ss.take 0).map (·.what)) (ss.drop 0)) := hR
 rw [← hR]
 clear h hR
 go_enter Tryz.func107, Tryz.ntmps107
 go_wp2
 go_loopg [7] (ss.length) (fun g i wr => ∃ (n : Nat), n ≤ ss.length ∧ g = ss.length - n ∧ i = .int .i64 n ∧ Hid (Below w.heap.size w wr) ∧ Hid (R = setsB ((ss.take n).map (·.what)) (ss.drop n)))
 case atStart => exact ⟨0, Nat.zero_le _, rfl, rfl, HB0.out, HR0.out⟩
 case round =>
  clear HB0 HR0
  obtain ⟨n, hn, hg, rfl, HB, HA⟩ := hrel
  by_cases hlt : n < ss.length
  ·obtain ⟨b, o, rfl, hbs, hx, y0, y1, -, -⟩ := StsAt.get (HS.out.grw HB.out) n hlt
   have HMT := Lib.hid (map_take1 ss n _ hx)
   have HAT := Lib.hid (HA.out.trans (sets_at ss n _ _ hx))
   have hbx := below_alloc wr (.cells #[.int .i64 ss[n].what, .int .i64 ss[n].n] 88)
   have HBX := Lib.hid (below_trans HB.out hbx)
   have HXX := Lib.hid (heap_alloc_new wr (.cells #[.int .i64 ss[n].what, .int .i64 ss[n].n] 88))
   have HTK := Lib.hid fun (W : World) (hW : Below w.heap.size w W) => StsAt.take (HS.out.grw hW) n hn
   clear hx hbx HA
   generalize ss[n] = s at *
   have HCS := Lib.hid fun W => chk_set s W
   have HIS := Lib.hid fun W (hW : Below w.heap.size w W) => isSet_any _ (ss.take n) s.what W (HTK.out W hW)
   have hcc : n ≤ c := by omega
   go_upto_region 4 with fail
   clear y0 y1
   generalize wr.alloc (.cells #[.int .i64 s.what, .int .i64 s.n] 88) = W1 at *
   generalize wr.heap.size = p at *
   generalize setB s = SB at *
   generalize hdm : decide (s.what ∈ (ss.take n).map (·.what)) = DM at *
   have HDN : Hid (decide (s.what ∉ (ss.take n).map (·.what)) = !DM) := by show _ = _; rw [← hdm]; simp
   clear hdm
   obtain ⟨x0, x1, -, -⟩ := box_two HXX.out
   go_cut [22] (fun s22 wx => s22 = .bool (!(SB && !DM)) ∧ Hid (Below W1.heap.size W1 wx))
   case first =>
    cases SB
    ·first | (go_region_with (first | (go_at_call 145; refine (HCS.out _).mono ?_; rintro x w1 ⟨rfl, hb1⟩; have HB1 := Lib.hid hb1; clear hb1))) | fail
     all_goals
      go_wp2_with fail
      go_meet
      exact ⟨rfl, below_trans (Below.drew (Below.refl _ W1)) HB1.out⟩
    ·have HXK := Lib.hid fun (w1 : World) (h : Below W1.drew.heap.size W1.drew w1) => box_two (keepB (w := W1.drew) HXX.out h)
     go_region_with (first | (go_at_call 145; refine (HCS.out _).mono ?_; rintro x w1 ⟨rfl, hb1⟩; obtain ⟨z0, z1, -, -⟩ := HXK.out _ hb1; have HB1 := Lib.hid hb1; clear hb1) | (go_at_call 146; refine (HIS.out _ (below_trans HBX.out (below_trans (Below.drew (Below.refl _ W1)) HB1.out))).mono ?_; rintro x w2 ⟨rfl, hb2⟩; have HB2 := Lib.hid hb2; clear hb2))
     all_goals
      go_wp2_with fail
      go_meet
      exact ⟨by cases DM <;> rfl, below_trans (Below.drew (Below.refl _ W1)) (below_trans HB1.out HB2.out)⟩
   case rest =>
    obtain ⟨rfl, HBx⟩ := hcut
    have HBw := Lib.hid (below_trans HBX.out HBx.out)
    have hR := HAT.out
    rw [HDN.out] at hR
    have HR := Lib.hid hR
    clear HXX HTK HCS HIS HAT HDN hR HBX HBx x0 x1
    cases hq : (SB && !DM)
    ·have HRF : Hid (R = false) := by
      show _ = _
      rw [HR.out]
      cases SB <;> cases DM <;> simp_all
     clear hq HR
     go_wp2
     go_ret
     exact ⟨by rw [HRF.out, Bool.and_false]; rfl, HBw.out⟩
    ·have HRT : Hid (R = setsB ((ss.take (n + 1)).map (·.what)) (ss.drop (n + 1))) := by
      show _ = _
      rw [HR.out, HMT.out]
      cases SB <;> cases DM <;> simp_all
     clear hq HR
     go_wp2
     go_roundg (ss.length - (n + 1))
     case rel => exact ⟨n + 1, by omega, rfl, by go_num, HBw.out, HRT.out⟩
     case measure => omega
  ·have hall : ss.drop n = [] := List.drop_eq_nil_of_le (by omega)
   have HRT : Hid (R = true) := by show _ = _; rw [HA.out, hall]; rfl
   clear hall HA
   by_cases hz : 0 < ss.length
   ·go_wp2
    go_ret
    exact ⟨by rw [HRT.out, decide_eq_true (by omega)]; rfl, HB.out⟩
   ·go_wp2
    go_ret
    exact ⟨by rw [HRT.out, decide_eq_false (by omega)]; rfl, HB.out⟩
end Go.Proofs.YtfoooldkmokjpaaGreatDoor.Pl
end
section
set_option maxRecDepth 100000
namespace Go.Proofs.YtfoooldkmokjpaaGreatDoor.Pl
open Go.RowKit
open Wo (Wd box_cell box_two keepB heap_far)
theorem beight {w : World} {q : Nat} {a0 a1 a2 a3 a4 a5 a6 a7 : Value} {T : TypeId} (h : w.heap[q]? = some (.cells #[a0, a1, a2, a3, a4, a5, a6, a7] T (0, 0))) : w.cell? ⟨q, 0, none⟩ = some a0 ∧ w.cell? ⟨q, 1, none⟩ = some a1 ∧ w.cell? ⟨q, 2, none⟩ = some a2 ∧ w.cell? ⟨q, 3, none⟩ = some a3 ∧ w.cell? ⟨q, 4, none⟩ = some a4 ∧ w.cell? ⟨q, 5, none⟩ = some a5 ∧ w.cell? ⟨q, 6, none⟩ = some a6 ∧ w.cell? ⟨q, 7, none⟩ = some a7 := by
 refine ⟨?_, ?_, ?_, ?_, ?_, ?_, ?_, ?_⟩ <;> rw [cell_of_row w q _ _ T (0, 0) h] <;> rfl
theorem ruleB_eq (r : Ru) : ruleB r = ((decide (0 ≤ r.rank) && decide (r.rank ≤ 9999)) && (condB 16 r.cif && (decide (r.unl.length ≤ 1) && (r.unl.all (condB 16) && (decide (1 ≤ r.sets.length) && setsB [] r.sets))))) := rfl
set_option maxHeartbeats 16000000 in
theorem chk_rule (r : Ru) (k u s : Value) (w : World) (h : RuIn All w r k u s) :
  Calls Tryz.prog 66 #[ruv r k u s] w fun e w' => e = .returned (.bool (ruleB r)) ∧ Below w.heap.size w w' := by
 obtain ⟨h64, hok, hul, hk, hu, hs⟩ := h
 have hb := below_alloc w (.cells #[.int .i64 r.rank, .int .i64 r.cif.kind, .string (mk r.cif.lo), .string (mk r.cif.hi), .int .i64 r.cif.n, k, u, s] 85)
 have HB := Lib.hid hb
 have HX := Lib.hid (heap_alloc_new w (.cells #[.int .i64 r.rank, .int .i64 r.cif.kind, .string (mk r.cif.lo), .string (mk r.cif.hi), .int .i64 r.cif.n, k, u, s] 85))
 have HU := Lib.hid (hu.grw hb)
 have HS := Lib.hid (hs.grw hb)
 have HC := Lib.hid fun W (hW : Below w.heap.size w W) => chk_cond 16 1 (by decide) (by decide) r.cif k W (hk.grw hW) hok
 obtain ⟨ka, kc, rfl, -, -⟩ := hk.form
 obtain ⟨ua, uc, rfl, hu1, hu2⟩ := hu.form
 obtain ⟨sa, sc, rfl, -, -, -⟩ := hs.form
 obtain ⟨x0, x1, x2, x3, x4, x5, x6, x7⟩ := beight HX.out
 have HR := Lib.hid (ruleB_eq r)
 have hul2 : r.unl.length ≤ 281474976710656 := hul
 clear hb hk hu hs h64 hok hul
 generalize ruleB r = R at *
 by_cases c1 : r.rank < 0
 ·have HRES : Hid (R = false) := by show _ = _; rw [HR.out, decide_eq_false (show ¬ 0 ≤ r.rank by omega)]; simp
  clear HR HC HU HS
  go_enter Tryz.func66, Tryz.ntmps66
  go_wp2
  go_ret
  exact ⟨by rw [HRES.out]; rfl, HB.out⟩
 by_cases c2 : 9999 < r.rank
 ·have HRES : Hid (R = false) := by show _ = _; rw [HR.out, decide_eq_false (show ¬ r.rank ≤ 9999 by omega)]; simp
  clear HR HC HU HS
  go_enter Tryz.func66, Tryz.ntmps66
  go_wp2
  go_ret
  exact ⟨by rw [HRES.out]; rfl, HB.out⟩
 by_cases c3 : 1 < r.unl.length
 ·have HRES : Hid (R = false) := by show _ = _; rw [HR.out, decide_eq_false (show ¬ r.unl.length ≤ 1 by omega)]; simp
  clear HR HC HU HS
  go_enter Tryz.func66, Tryz.ntmps66
  go_wp2
  go_ret
  exact ⟨by rw [HRES.out]; rfl, HB.out⟩
 have HR2 : Hid (R = (condB 16 r.cif && (r.unl.all (condB 16) && (decide (1 ≤ r.sets.length) && setsB [] r.sets)))) := by
  show _ = _
  rw [HR.out, decide_eq_true (show 0 ≤ r.rank by omega), decide_eq_true (show r.rank ≤ 9999 by omega), decide_eq_true (show r.unl.length ≤ 1 by omega)]
  simp
 clear HR
 cases hc : condB 16 r.cif
 ·rw [hc] at HC HR2
  have HRES : Hid (R = false) := HR2.out
  clear HR2 HU HS hc
  go_enter Tryz.func66, Tryz.ntmps66
  go_wp2_with (first | (go_at_call 106; refine (HC.out _ HB.out).mono ?_; rintro e w1 ⟨rfl, hb1⟩; have HB1 := Lib.hid hb1; clear hb1))
  go_ret
  exact ⟨by rw [HRES.out]; rfl, below_trans HB.out HB1.out⟩
 rw [hc] at HC HR2
 clear hc
 go_enter Tryz.func66, Tryz.ntmps66
 go_wp2_with fail
 go_at_call 106
 refine (HC.out _ HB.out).mono ?_
 rintro e w1 ⟨rfl, hb1⟩
 have HB1 := Lib.hid (below_trans HB.out hb1)
 have HU1 := Lib.hid (HU.out.grw hb1)
 have HS1 := Lib.hid (HS.out.grw hb1)
 have HX1 := Lib.hid (keepB HX.out hb1)
 obtain ⟨x0, x1, x2, x3, x4, x5, x6, x7⟩ := beight HX1.out
 have HW0 := Lib.hid (Below.refl w1.heap.size w1)
 clear hb1 HB HX HU HS HC
 go_wp2
 go_loopg [28] (r.unl.length) (fun g i wr => ∃ n : Nat, n ≤ r.unl.length ∧ g = r.unl.length - n ∧ i = .int .i64 n ∧ Hid (Below w1.heap.size w1 wr) ∧ Hid ((r.unl.take n).all (condB 16) = true))
 case atStart => exact ⟨0, Nat.zero_le _, rfl, rfl, HW0.out, rfl⟩
 case round =>
  clear HW0 x0 x1 x2 x3 x4 x5 x6 x7
  obtain ⟨n, hn, hgk, rfl, HBr, HA⟩ := hrel
  by_cases hlt : n < r.unl.length
  ·obtain ⟨b, o, mv, rfl, hbs, hx, hcc, hkk, hok⟩ := KsAt.get (HU1.out.grw HBr.out) n hlt
   obtain ⟨y0, y1, y2, y3, y4⟩ := hcc
   obtain ⟨ma, mc, rfl, -, -⟩ := hkk.form
   have hbz := below_alloc wr (.cells #[.int .i64 r.unl[n].kind, .string (mk r.unl[n].lo), .string (mk r.unl[n].hi), .int .i64 r.unl[n].n, .slice ma r.unl[n].kids.length mc] 82)
   have HC := Lib.hid (chk_cond 16 1 (by decide) (by decide) r.unl[n] _ _ (hkk.grw hbz) hok)
   have HBz := Lib.hid (below_trans HBr.out hbz)
   have HT := Lib.hid fun h => all_take1 (p := condB 16) r.unl n _ hx HA.out h
   have HN := Lib.hid fun h => all_not1 (p := condB 16) r.unl n _ hx h
   clear hx hkk hok hbz
   generalize r.unl[n] = kd at *
   cases hq : condB 16 kd
   ·rw [hq] at HC
    have HN2 := Lib.hid (HN.out hq)
    clear hq HT HN
    go_wp2_with (go_at_call 106; refine HC.out.mono ?_; rintro e w3 ⟨rfl, hb3⟩; have HB3 := Lib.hid hb3; clear hb3)
    go_ret
    exact ⟨by rw [HR2.out, HN2.out]; rfl, below_trans HB1.out (below_trans HBz.out HB3.out)⟩
   ·rw [hq] at HC
    have HT2 := Lib.hid (HT.out hq)
    clear hq HT HN
    go_wp2_with (go_at_call 106; refine HC.out.mono ?_; rintro e w3 ⟨rfl, hb3⟩; have HB3 := Lib.hid hb3; clear hb3)
    go_roundg (r.unl.length - (n + 1))
    case rel => exact ⟨n + 1, by omega, rfl, by go_num, below_trans HBz.out HB3.out, HT2.out⟩
    case measure => omega
  ·have hall : r.unl.take n = r.unl := List.take_of_length_le (by omega)
   rw [hall] at HA
   have HCS := Lib.hid (chk_sets _ r.sets wr (HS1.out.grw HBr.out))
   obtain ⟨x0, x1, x2, x3, x4, x5, x6, x7⟩ := beight (keepB HX1.out HBr.out)
   clear hall
   have HR3 := HR2.out
   rw [HA.out] at HR3
   simp only [Bool.true_and] at HR3
   have HR4 := Lib.hid HR3
   clear HR3
   generalize (decide (1 ≤ r.sets.length) && setsB [] r.sets) = Z at *
   go_wp2_with (go_at_call 107; refine HCS.out.mono ?_; rintro e w3 ⟨rfl, hb3⟩; have HB3 := Lib.hid hb3; clear hb3)
   go_ret
   exact ⟨by rw [HR4.out]; rfl, below_trans HB1.out (below_trans HBr.out HB3.out)⟩
end Go.Proofs.YtfoooldkmokjpaaGreatDoor.Pl
end
section
set_option maxRecDepth 100000
namespace Go.Proofs.YtfoooldkmokjpaaGreatDoor.Pl
open Go.RowKit
open Wo (Wd box_cell box_two keepB heap_far)
end Go.Proofs.YtfoooldkmokjpaaGreatDoor.Pl
end
