/-
  Texts put together (merge.py): ZRPut.
-/
import Derived.Test.YtmoldgmfhcmceaaGreatDoorMp20
import Derived.Test.YtmoldgmfhcmceaaGreatDoorMp32
import Derived.Test.YtmoldgmfhcmceaaGreatDoorMp15
/-
  A row among rows in order, as the reference says: put, as a contract. (Written by gen_rput.py.)
-/
section
set_option linter.unusedSimpArgs false
set_option linter.unusedVariables false
set_option maxRecDepth 100000
namespace Go.Proofs.YtmoldgmfhcmceaaGreatDoor.Fe
open Go.RowKit
open Wo (Wd WdsAt keepB box_cell box_two heap_far below_alloc below_trans)

def putG (d : Bool) (acc r : List Fee) (x : Fee) : List Fee := if d = true then acc ++ r else acc ++ put r x
theorem putG_done (acc r : List Fee) (x y : Fee) : putG true acc (y :: r) x = putG true (acc ++ [y]) r x := by simp [putG]
theorem putG_now (acc r : List Fee) (x y : Fee) (h : aheadB x y = true) : putG false acc (y :: r) x = putG true (acc ++ [x] ++ [y]) r x := by simp [putG, put, h]
theorem putG_no (acc r : List Fee) (x y : Fee) (h : aheadB x y = false) : putG false acc (y :: r) x = putG false (acc ++ [y]) r x := by simp [putG, put, h]
theorem box5 {w w' : World} {B p : Nat} {o : Obj} (h : w.heap[p]? = some o) (hl : Below B w w') (hp : p < B) : w'.heap[p]? = some o := by rw [hl.block p hp]; exact h
set_option maxHeartbeats 16000000 in
theorem rput_any (l : List Fee) (x : Fee) (v : Value) (w : World) (h : FesAt All w v l) (hl : l.length ≤ 600) :
    Calls Tryz.prog 40 #[v, fev x] w fun e w' => (∃ (a : Option Addr) (c : Nat), e = .returned (.slice a (put l x).length c) ∧ FesAt All w' (.slice a (put l x).length c) (put l x)) ∧ Below w.heap.size w w' := by
  have hb0 := below_alloc w (.cells #[.string (mk x.proc), .string (mk x.mod), .int .i64 x.net, .int .i64 x.frm, .int .i64 x.cents] 45)
  have HZ := Lib.hid (heap_alloc_new w (.cells #[.string (mk x.proc), .string (mk x.mod), .int .i64 x.net, .int .i64 x.frm, .int .i64 x.cents] 45))
  have HB0 := Lib.hid hb0
  have HSz : Hid (w.heap.size + 1 ≤ (w.alloc (.cells #[.string (mk x.proc), .string (mk x.mod), .int .i64 x.net, .int .i64 x.frm, .int .i64 x.cents] 45)).heap.size) := by show _ ≤ _; simp
  have HF := Lib.hid h
  obtain ⟨fa, fk, rfl, hm1, hm2⟩ := h.form
  clear h hb0
  go_enter Tryz.func40, Tryz.ntmps40
  go_upto_region 1 with fail
  generalize w.alloc (.cells #[.string (mk x.proc), .string (mk x.mod), .int .i64 x.net, .int .i64 x.frm, .int .i64 x.cents] 45) = W at *
  generalize hp : w.heap.size = p at *
  have HPG : Hid (putG false [] (l.drop 0) x = put l x) := by show _ = _; simp [putG]
  go_wp2
  go_loopg [5, 6, 7] (l.length) (fun g s5 s6 s7 wr => ∃ (n : Nat) (d : Bool) (acc : List Fee) (fv : Value), s5 = fv ∧ s6 = .bool d ∧ s7 = .int .i64 (n : Nat) ∧ n ≤ l.length ∧ g = l.length - n ∧ acc.length ≤ n + d.toNat ∧ Hid (Below p w wr) ∧ Hid (wr.heap[p]? = some (.cells #[.string (mk x.proc), .string (mk x.mod), .int .i64 x.net, .int .i64 x.frm, .int .i64 x.cents] 45 (0, 0))) ∧ Hid (p + 1 ≤ wr.heap.size) ∧ Hid (wr.ownsRow (p + 1) 45 5 fv acc.length (fcs acc)) ∧ Hid (putG d acc (l.drop n) x = put l x))
  case atStart => exact ⟨0, false, [], _, rfl, rfl, rfl, Nat.zero_le _, rfl, by simp, HB0.out, HZ.out, HSz.out, World.ownsRow_nil _ _ _ _, HPG.out⟩
  case round =>
    clear HB0 HZ HSz HPG
    obtain ⟨n, d, acc, fv, rfl, rfl, rfl, hn, hgk, hal, HB0, HZ0, HS0, HO0, HE⟩ := hrel
    obtain ⟨ga, gc, rfl⟩ := own_form HO0.out
    have ha6 : acc.length ≤ 1000000 := by have := Bool.toNat_le d; omega
    by_cases hlt : n < l.length
    · have hltz : (n : Int) < (l.length : Int) := by omega
      have HDn : Hid (l.drop n = l[n] :: l.drop (n + 1)) := List.drop_eq_getElem_cons hlt
      obtain ⟨b, oo, rfl, hbs, -, hcc⟩ := FesAt.get (HF.out.grw (show Below w.heap.size w wr by rw [hp]; exact HB0.out)) n hlt
      have HY := Lib.hid fun W' (hW : Below p w W') => cell_keep (HF.out.grw (show Below w.heap.size w W' by rw [hp]; exact hW)) n hlt
      generalize l[n] = y at *
      have HXY := Lib.hid fun W' (hW : Below wr.heap.size wr W') => And.intro (cells5 (keepB HZ0.out hW)) (HY.out W' (HB0.out.trans (hW.mono (by have := HS0.out; omega))))
      have HD := Lib.hid (Below.drew (Below.refl wr.heap.size wr))
      obtain ⟨wo, hwo⟩ : ∃ z, z = wr := ⟨_, rfl⟩
      subst hwo
      clear hcc hbs
      cases d with
      | true =>
        have hal : acc.length ≤ n + 1 := hal
        rw [HDn.out, putG_done] at HE
        clear HXY HDn
        go_upto_region 6 with fail
        refine Ri.wp_region_lastingB_g (by kernel_rfl) (by kernel_rfl) (by kernel_rfl) (fun Wx => Below wo.heap.size wo Wx) (fun kz vs wz => (fun kx vx wx => match kx with | 0 => vx = .bool true | 1 => vx = .bool false | 2 => vx = .bool false | 3 => True | 4 => True | 5 => True | 6 => True | 7 => True | 8 => True | 9 => vx = .bool false | _ => True : Nat → Value → World → Prop) kz (vs kz) wz) (fun kz => [kz]) (by kernel_rfl) (fun jz vs iz vz wz hiz hz => Ri.loc_own (F := (fun kx vx wx => match kx with | 0 => vx = .bool true | 1 => vx = .bool false | 2 => vx = .bool false | 3 => True | 4 => True | 5 => True | 6 => True | 7 => True | 8 => True | 9 => vx = .bool false | _ => True : Nat → Value → World → Prop)) jz vs iz vz wz hiz hz) HD.out ⟨Or.inl ⟨rfl, ?_⟩, Or.inl ⟨rfl, ?_⟩, Or.inl ⟨rfl, ?_⟩, Or.inr ⟨2, true, 16, rfl, rfl, ?_⟩, Or.inr ⟨2, true, 16, rfl, rfl, ?_⟩, Or.inr ⟨2, true, 16, rfl, rfl, ?_⟩, Or.inr ⟨2, true, 16, rfl, rfl, ?_⟩, Or.inr ⟨2, true, 16, rfl, rfl, ?_⟩, Or.inr ⟨2, true, 16, rfl, rfl, ?_⟩, Or.inl ⟨rfl, ?_⟩, trivial⟩ ?_
        · intro vs Wx A hA hB hpre K hK
          have e6 := (hA 6).trans (show _ = Value.bool true by kernel_rfl)
          clear hA hpre
          go_simp
          first | exact hK _ _ hB rfl (fun _ _ h => h) | exact hK _ _ hB trivial (fun _ _ h => h) | (rw [if_neg (by omega)]; go_simp; exact hK _ _ hB rfl (fun _ _ h => h))
        · intro vs Wx A hA hB hpre K hK
          have e14 := ((hA 14).trans (show _ = vs 0 by kernel_rfl)).trans (by first | exact hpre.1 rfl | exact hpre.2.1 rfl | exact hpre.2.2.1 rfl | exact hpre.2.2.2.1 rfl | exact hpre.2.2.2.2.1 rfl | exact hpre.2.2.2.2.2.1 rfl | exact hpre.2.2.2.2.2.2.1 rfl | exact hpre.2.2.2.2.2.2.2.1 rfl | exact hpre.2.2.2.2.2.2.2.2.1 rfl | exact hpre.2.2.2.2.2.2.2.2.2.1 rfl)
          clear hA hpre
          go_simp
          first | exact hK _ _ hB rfl (fun _ _ h => h) | exact hK _ _ hB trivial (fun _ _ h => h) | (rw [if_neg (by omega)]; go_simp; exact hK _ _ hB rfl (fun _ _ h => h))
        · intro vs Wx A hA hB hpre K hK
          have e15 := ((hA 15).trans (show _ = vs 1 by kernel_rfl)).trans (by first | exact hpre.1 rfl | exact hpre.2.1 rfl | exact hpre.2.2.1 rfl | exact hpre.2.2.2.1 rfl | exact hpre.2.2.2.2.1 rfl | exact hpre.2.2.2.2.2.1 rfl | exact hpre.2.2.2.2.2.2.1 rfl | exact hpre.2.2.2.2.2.2.2.1 rfl | exact hpre.2.2.2.2.2.2.2.2.1 rfl | exact hpre.2.2.2.2.2.2.2.2.2.1 rfl)
          clear hA hpre
          go_simp
          first | exact hK _ _ hB rfl (fun _ _ h => h) | exact hK _ _ hB trivial (fun _ _ h => h) | (rw [if_neg (by omega)]; go_simp; exact hK _ _ hB rfl (fun _ _ h => h))
        · intro vs Wx A hA hB hpre
          have eg := ((hA 16).trans (show _ = vs 2 by kernel_rfl)).trans (by first | exact hpre.1 rfl | exact hpre.2.1 rfl | exact hpre.2.2.1 rfl | exact hpre.2.2.2.1 rfl | exact hpre.2.2.2.2.1 rfl | exact hpre.2.2.2.2.2.1 rfl | exact hpre.2.2.2.2.2.2.1 rfl | exact hpre.2.2.2.2.2.2.2.1 rfl | exact hpre.2.2.2.2.2.2.2.2.1 rfl | exact hpre.2.2.2.2.2.2.2.2.2.1 rfl)
          exact ⟨false, eg, fun h => (by cases h), fun _ => trivial⟩
        · intro vs Wx A hA hB hpre
          have eg := ((hA 16).trans (show _ = vs 2 by kernel_rfl)).trans (by first | exact hpre.1 rfl | exact hpre.2.1 rfl | exact hpre.2.2.1 rfl | exact hpre.2.2.2.1 rfl | exact hpre.2.2.2.2.1 rfl | exact hpre.2.2.2.2.2.1 rfl | exact hpre.2.2.2.2.2.2.1 rfl | exact hpre.2.2.2.2.2.2.2.1 rfl | exact hpre.2.2.2.2.2.2.2.2.1 rfl | exact hpre.2.2.2.2.2.2.2.2.2.1 rfl)
          exact ⟨false, eg, fun h => (by cases h), fun _ => trivial⟩
        · intro vs Wx A hA hB hpre
          have eg := ((hA 16).trans (show _ = vs 2 by kernel_rfl)).trans (by first | exact hpre.1 rfl | exact hpre.2.1 rfl | exact hpre.2.2.1 rfl | exact hpre.2.2.2.1 rfl | exact hpre.2.2.2.2.1 rfl | exact hpre.2.2.2.2.2.1 rfl | exact hpre.2.2.2.2.2.2.1 rfl | exact hpre.2.2.2.2.2.2.2.1 rfl | exact hpre.2.2.2.2.2.2.2.2.1 rfl | exact hpre.2.2.2.2.2.2.2.2.2.1 rfl)
          exact ⟨false, eg, fun h => (by cases h), fun _ => trivial⟩
        · intro vs Wx A hA hB hpre
          have eg := ((hA 16).trans (show _ = vs 2 by kernel_rfl)).trans (by first | exact hpre.1 rfl | exact hpre.2.1 rfl | exact hpre.2.2.1 rfl | exact hpre.2.2.2.1 rfl | exact hpre.2.2.2.2.1 rfl | exact hpre.2.2.2.2.2.1 rfl | exact hpre.2.2.2.2.2.2.1 rfl | exact hpre.2.2.2.2.2.2.2.1 rfl | exact hpre.2.2.2.2.2.2.2.2.1 rfl | exact hpre.2.2.2.2.2.2.2.2.2.1 rfl)
          exact ⟨false, eg, fun h => (by cases h), fun _ => trivial⟩
        · intro vs Wx A hA hB hpre
          have eg := ((hA 16).trans (show _ = vs 2 by kernel_rfl)).trans (by first | exact hpre.1 rfl | exact hpre.2.1 rfl | exact hpre.2.2.1 rfl | exact hpre.2.2.2.1 rfl | exact hpre.2.2.2.2.1 rfl | exact hpre.2.2.2.2.2.1 rfl | exact hpre.2.2.2.2.2.2.1 rfl | exact hpre.2.2.2.2.2.2.2.1 rfl | exact hpre.2.2.2.2.2.2.2.2.1 rfl | exact hpre.2.2.2.2.2.2.2.2.2.1 rfl)
          exact ⟨false, eg, fun h => (by cases h), fun _ => trivial⟩
        · intro vs Wx A hA hB hpre
          have eg := ((hA 16).trans (show _ = vs 2 by kernel_rfl)).trans (by first | exact hpre.1 rfl | exact hpre.2.1 rfl | exact hpre.2.2.1 rfl | exact hpre.2.2.2.1 rfl | exact hpre.2.2.2.2.1 rfl | exact hpre.2.2.2.2.2.1 rfl | exact hpre.2.2.2.2.2.2.1 rfl | exact hpre.2.2.2.2.2.2.2.1 rfl | exact hpre.2.2.2.2.2.2.2.2.1 rfl | exact hpre.2.2.2.2.2.2.2.2.2.1 rfl)
          exact ⟨false, eg, fun h => (by cases h), fun _ => trivial⟩
        · intro vs Wx A hA hB hpre K hK
          have e16 := ((hA 16).trans (show _ = vs 2 by kernel_rfl)).trans (by first | exact hpre.1 rfl | exact hpre.2.1 rfl | exact hpre.2.2.1 rfl | exact hpre.2.2.2.1 rfl | exact hpre.2.2.2.2.1 rfl | exact hpre.2.2.2.2.2.1 rfl | exact hpre.2.2.2.2.2.2.1 rfl | exact hpre.2.2.2.2.2.2.2.1 rfl | exact hpre.2.2.2.2.2.2.2.2.1 rfl | exact hpre.2.2.2.2.2.2.2.2.2.1 rfl)
          clear hA hpre
          go_simp
          first | exact hK _ _ hB rfl (fun _ _ h => h) | exact hK _ _ hB trivial (fun _ _ h => h) | (rw [if_neg (by omega)]; go_simp; exact hK _ _ hB rfl (fun _ _ h => h))
        · intro vs Wx hB hF
          have hL : vs 9 = .bool false := hF 9 (by decide)
          have HB1 := Lib.hid (HB0.out.trans (hB.mono (by have := HS0.out; omega)))
          have HZ1 := Lib.hid (keepB HZ0.out hB)
          have HO1 := Lib.hid (own_far HO0.out hB)
          have HS1 : Hid (p + 1 ≤ Wx.heap.size) := Nat.le_trans HS0.out hB.size
          clear hF hB HB0 HZ0 HO0 HS0 HD
          simp only [Ri.puts]
          rw [hL]
          clear hL
          go_simp
          obtain ⟨c0, c1, c2, c3, c4⟩ := HY.out Wx HB1.out
          have hb := below_alloc Wx (.cells #[.string (mk y.proc), .string (mk y.mod), .int .i64 y.net, .int .i64 y.frm, .int .i64 y.cents] 45)
          have HOa := Lib.hid (own_far HO1.out hb)
          have HZa := Lib.hid (keepB HZ1.out hb)
          have HNa := Lib.hid (heap_alloc_new Wx (.cells #[.string (mk y.proc), .string (mk y.mod), .int .i64 y.net, .int .i64 y.frm, .int .i64 y.cents] 45))
          have HBa := Lib.hid (HB1.out.trans (hb.mono (by have := HS1.out; omega)))
          have HSa : Hid (p + 1 ≤ (Wx.alloc (.cells #[.string (mk y.proc), .string (mk y.mod), .int .i64 y.net, .int .i64 y.frm, .int .i64 y.cents] 45)).heap.size) := Nat.le_trans HS1.out hb.size
          clear hb
          go_wp2_with (at_builtin; refine wpList_plain (by rfl) (fun K hK => ?_); refine wp_app _ _ (by rfl) (p + 1) (.slice ga acc.length gc) acc (by rfl) HOa.out Wx.heap.size 1 y (by rfl) HNa.out ha6 HSa.out ?_)
          intro vn w2 hown hgr hat
          have hlow := grow_low HOa.out hgr HSa.out
          have HB2 := Lib.hid (HBa.out.trans (hlow.mono (Nat.le_succ p)))
          have HZ2 := Lib.hid (box5 HZa.out hlow (Nat.lt_succ_self p))
          have HS2 : Hid (p + 1 ≤ w2.heap.size) := Nat.le_trans HSa.out hlow.size
          have HO2 : Hid (w2.ownsRow (p + 1) 45 5 vn (acc ++ [y]).length (fcs (acc ++ [y]))) := by
            show World.ownsRow _ _ _ _ _ _ _
            rw [List.length_append]
            exact hown
          refine hK _ _ ?_
          clear hK hown hgr hat hlow HOa HZa HNa HBa HSa c0 c1 c2 c3 c4
          go_wp2
          go_roundg (l.length - (n + 1))
          case measure => omega
          case rel => exact ⟨n + 1, true, acc ++ [y], _, rfl, rfl, by first | rfl | go_num | (congr 1; omega), by omega, rfl, by first | (simp; omega) | (simp only [List.length_append, List.length_singleton]; omega), HB2.out, HZ2.out, HS2.out, HO2.out, HE.out⟩
      | false =>
        have hal : acc.length ≤ n := hal
        rw [HDn.out] at HE
        have HAh := Lib.hid fun W' => rahead_any x y W'
        obtain ⟨AB, HAB⟩ : ∃ z, Hid (aheadB x y = z) := ⟨aheadB x y, (rfl : aheadB x y = aheadB x y)⟩
        rw [HAB.out] at HAh
        go_upto_region 6 with fail
        refine Ri.wp_region_lastingB_g (by kernel_rfl) (by kernel_rfl) (by kernel_rfl) (fun Wx => Below wo.heap.size wo Wx) (fun kz vs wz => (fun kx vx wx => match kx with | 0 => vx = .bool false | 1 => vx = .bool true | 2 => vx = .bool true | 3 => vx = .agg #[.string (mk x.proc), .string (mk x.mod), .int .i64 x.net, .int .i64 x.frm, .int .i64 x.cents] | 4 => vx = .slice (some ⟨b, oo, none⟩) l.length fk | 5 => vx = .int .i64 (n : Nat) | 6 => vx = .pointer (some ⟨b, oo + n * 5, none⟩) | 7 => vx = .agg #[.string (mk y.proc), .string (mk y.mod), .int .i64 y.net, .int .i64 y.frm, .int .i64 y.cents] | 8 => vx = .bool AB | 9 => vx = .bool AB | _ => True : Nat → Value → World → Prop) kz (vs kz) wz) (fun kz => [kz]) (by kernel_rfl) (fun jz vs iz vz wz hiz hz => Ri.loc_own (F := (fun kx vx wx => match kx with | 0 => vx = .bool false | 1 => vx = .bool true | 2 => vx = .bool true | 3 => vx = .agg #[.string (mk x.proc), .string (mk x.mod), .int .i64 x.net, .int .i64 x.frm, .int .i64 x.cents] | 4 => vx = .slice (some ⟨b, oo, none⟩) l.length fk | 5 => vx = .int .i64 (n : Nat) | 6 => vx = .pointer (some ⟨b, oo + n * 5, none⟩) | 7 => vx = .agg #[.string (mk y.proc), .string (mk y.mod), .int .i64 y.net, .int .i64 y.frm, .int .i64 y.cents] | 8 => vx = .bool AB | 9 => vx = .bool AB | _ => True : Nat → Value → World → Prop)) jz vs iz vz wz hiz hz) HD.out ⟨Or.inl ⟨rfl, ?_⟩, Or.inl ⟨rfl, ?_⟩, Or.inl ⟨rfl, ?_⟩, Or.inr ⟨2, true, 16, rfl, rfl, ?_⟩, Or.inr ⟨2, true, 16, rfl, rfl, ?_⟩, Or.inr ⟨2, true, 16, rfl, rfl, ?_⟩, Or.inr ⟨2, true, 16, rfl, rfl, ?_⟩, Or.inr ⟨2, true, 16, rfl, rfl, ?_⟩, Or.inr ⟨2, true, 16, rfl, rfl, ?_⟩, Or.inl ⟨rfl, ?_⟩, trivial⟩ ?_
        · intro vs Wx A hA hB hpre K hK
          have e6 := (hA 6).trans (show _ = Value.bool false by kernel_rfl)
          clear hA hpre
          go_simp
          first | exact hK _ _ hB rfl (fun _ _ h => h) | exact hK _ _ hB trivial (fun _ _ h => h) | (rw [if_neg (by omega)]; go_simp; exact hK _ _ hB rfl (fun _ _ h => h))
        · intro vs Wx A hA hB hpre K hK
          have e14 := ((hA 14).trans (show _ = vs 0 by kernel_rfl)).trans (by first | exact hpre.1 rfl | exact hpre.2.1 rfl | exact hpre.2.2.1 rfl | exact hpre.2.2.2.1 rfl | exact hpre.2.2.2.2.1 rfl | exact hpre.2.2.2.2.2.1 rfl | exact hpre.2.2.2.2.2.2.1 rfl | exact hpre.2.2.2.2.2.2.2.1 rfl | exact hpre.2.2.2.2.2.2.2.2.1 rfl | exact hpre.2.2.2.2.2.2.2.2.2.1 rfl)
          clear hA hpre
          go_simp
          first | exact hK _ _ hB rfl (fun _ _ h => h) | exact hK _ _ hB trivial (fun _ _ h => h) | (rw [if_neg (by omega)]; go_simp; exact hK _ _ hB rfl (fun _ _ h => h))
        · intro vs Wx A hA hB hpre K hK
          have e15 := ((hA 15).trans (show _ = vs 1 by kernel_rfl)).trans (by first | exact hpre.1 rfl | exact hpre.2.1 rfl | exact hpre.2.2.1 rfl | exact hpre.2.2.2.1 rfl | exact hpre.2.2.2.2.1 rfl | exact hpre.2.2.2.2.2.1 rfl | exact hpre.2.2.2.2.2.2.1 rfl | exact hpre.2.2.2.2.2.2.2.1 rfl | exact hpre.2.2.2.2.2.2.2.2.1 rfl | exact hpre.2.2.2.2.2.2.2.2.2.1 rfl)
          clear hA hpre
          go_simp
          first | exact hK _ _ hB rfl (fun _ _ h => h) | exact hK _ _ hB trivial (fun _ _ h => h) | (rw [if_neg (by omega)]; go_simp; exact hK _ _ hB rfl (fun _ _ h => h))
        · intro vs Wx A hA hB hpre
          have eg := ((hA 16).trans (show _ = vs 2 by kernel_rfl)).trans (by first | exact hpre.1 rfl | exact hpre.2.1 rfl | exact hpre.2.2.1 rfl | exact hpre.2.2.2.1 rfl | exact hpre.2.2.2.2.1 rfl | exact hpre.2.2.2.2.2.1 rfl | exact hpre.2.2.2.2.2.2.1 rfl | exact hpre.2.2.2.2.2.2.2.1 rfl | exact hpre.2.2.2.2.2.2.2.2.1 rfl | exact hpre.2.2.2.2.2.2.2.2.2.1 rfl)
          refine ⟨true, eg, fun _ K hK => ?_, fun h => absurd rfl h⟩
          have e3 := (hA 3).trans (show _ = Value.pointer (some ⟨p, 0, none⟩) by kernel_rfl)
          obtain ⟨⟨x0, x1, x2, x3, x4⟩, y0, y1, y2, y3, y4⟩ := HXY.out Wx hB
          clear hA hpre
          go_simp
          first | exact hK _ _ hB rfl (fun _ _ h => h) | exact hK _ _ hB trivial (fun _ _ h => h) | (rw [if_neg (by omega)]; go_simp; exact hK _ _ hB rfl (fun _ _ h => h))
        · intro vs Wx A hA hB hpre
          have eg := ((hA 16).trans (show _ = vs 2 by kernel_rfl)).trans (by first | exact hpre.1 rfl | exact hpre.2.1 rfl | exact hpre.2.2.1 rfl | exact hpre.2.2.2.1 rfl | exact hpre.2.2.2.2.1 rfl | exact hpre.2.2.2.2.2.1 rfl | exact hpre.2.2.2.2.2.2.1 rfl | exact hpre.2.2.2.2.2.2.2.1 rfl | exact hpre.2.2.2.2.2.2.2.2.1 rfl | exact hpre.2.2.2.2.2.2.2.2.2.1 rfl)
          refine ⟨true, eg, fun _ K hK => ?_, fun h => absurd rfl h⟩
          have e0 := (hA 0).trans (show _ = Value.slice (some ⟨b, oo, none⟩) l.length fk by kernel_rfl)
          clear hA hpre
          go_simp
          first | exact hK _ _ hB rfl (fun _ _ h => h) | exact hK _ _ hB trivial (fun _ _ h => h) | (rw [if_neg (by omega)]; go_simp; exact hK _ _ hB rfl (fun _ _ h => h))
        · intro vs Wx A hA hB hpre
          have eg := ((hA 16).trans (show _ = vs 2 by kernel_rfl)).trans (by first | exact hpre.1 rfl | exact hpre.2.1 rfl | exact hpre.2.2.1 rfl | exact hpre.2.2.2.1 rfl | exact hpre.2.2.2.2.1 rfl | exact hpre.2.2.2.2.2.1 rfl | exact hpre.2.2.2.2.2.2.1 rfl | exact hpre.2.2.2.2.2.2.2.1 rfl | exact hpre.2.2.2.2.2.2.2.2.1 rfl | exact hpre.2.2.2.2.2.2.2.2.2.1 rfl)
          refine ⟨true, eg, fun _ K hK => ?_, fun h => absurd rfl h⟩
          have e7 := (hA 7).trans (show _ = Value.int .i64 (n : Nat) by kernel_rfl)
          clear hA hpre
          go_simp
          first | exact hK _ _ hB rfl (fun _ _ h => h) | exact hK _ _ hB trivial (fun _ _ h => h) | (rw [if_neg (by omega)]; go_simp; exact hK _ _ hB rfl (fun _ _ h => h))
        · intro vs Wx A hA hB hpre
          have eg := ((hA 16).trans (show _ = vs 2 by kernel_rfl)).trans (by first | exact hpre.1 rfl | exact hpre.2.1 rfl | exact hpre.2.2.1 rfl | exact hpre.2.2.2.1 rfl | exact hpre.2.2.2.2.1 rfl | exact hpre.2.2.2.2.2.1 rfl | exact hpre.2.2.2.2.2.2.1 rfl | exact hpre.2.2.2.2.2.2.2.1 rfl | exact hpre.2.2.2.2.2.2.2.2.1 rfl | exact hpre.2.2.2.2.2.2.2.2.2.1 rfl)
          refine ⟨true, eg, fun _ K hK => ?_, fun h => absurd rfl h⟩
          have e18 := ((hA 18).trans (show _ = vs 4 by kernel_rfl)).trans (by first | exact hpre.1 rfl | exact hpre.2.1 rfl | exact hpre.2.2.1 rfl | exact hpre.2.2.2.1 rfl | exact hpre.2.2.2.2.1 rfl | exact hpre.2.2.2.2.2.1 rfl | exact hpre.2.2.2.2.2.2.1 rfl | exact hpre.2.2.2.2.2.2.2.1 rfl | exact hpre.2.2.2.2.2.2.2.2.1 rfl | exact hpre.2.2.2.2.2.2.2.2.2.1 rfl)
          have e19 := ((hA 19).trans (show _ = vs 5 by kernel_rfl)).trans (by first | exact hpre.1 rfl | exact hpre.2.1 rfl | exact hpre.2.2.1 rfl | exact hpre.2.2.2.1 rfl | exact hpre.2.2.2.2.1 rfl | exact hpre.2.2.2.2.2.1 rfl | exact hpre.2.2.2.2.2.2.1 rfl | exact hpre.2.2.2.2.2.2.2.1 rfl | exact hpre.2.2.2.2.2.2.2.2.1 rfl | exact hpre.2.2.2.2.2.2.2.2.2.1 rfl)
          clear hA hpre
          go_simp
          first | exact hK _ _ hB rfl (fun _ _ h => h) | exact hK _ _ hB trivial (fun _ _ h => h) | (rw [if_neg (by omega)]; go_simp; exact hK _ _ hB rfl (fun _ _ h => h))
        · intro vs Wx A hA hB hpre
          have eg := ((hA 16).trans (show _ = vs 2 by kernel_rfl)).trans (by first | exact hpre.1 rfl | exact hpre.2.1 rfl | exact hpre.2.2.1 rfl | exact hpre.2.2.2.1 rfl | exact hpre.2.2.2.2.1 rfl | exact hpre.2.2.2.2.2.1 rfl | exact hpre.2.2.2.2.2.2.1 rfl | exact hpre.2.2.2.2.2.2.2.1 rfl | exact hpre.2.2.2.2.2.2.2.2.1 rfl | exact hpre.2.2.2.2.2.2.2.2.2.1 rfl)
          refine ⟨true, eg, fun _ K hK => ?_, fun h => absurd rfl h⟩
          have e20 := ((hA 20).trans (show _ = vs 6 by kernel_rfl)).trans (by first | exact hpre.1 rfl | exact hpre.2.1 rfl | exact hpre.2.2.1 rfl | exact hpre.2.2.2.1 rfl | exact hpre.2.2.2.2.1 rfl | exact hpre.2.2.2.2.2.1 rfl | exact hpre.2.2.2.2.2.2.1 rfl | exact hpre.2.2.2.2.2.2.2.1 rfl | exact hpre.2.2.2.2.2.2.2.2.1 rfl | exact hpre.2.2.2.2.2.2.2.2.2.1 rfl)
          obtain ⟨⟨x0, x1, x2, x3, x4⟩, y0, y1, y2, y3, y4⟩ := HXY.out Wx hB
          clear hA hpre
          go_simp
          first | exact hK _ _ hB rfl (fun _ _ h => h) | exact hK _ _ hB trivial (fun _ _ h => h) | (rw [if_neg (by omega)]; go_simp; exact hK _ _ hB rfl (fun _ _ h => h))
        · intro vs Wx A hA hB hpre
          have eg := ((hA 16).trans (show _ = vs 2 by kernel_rfl)).trans (by first | exact hpre.1 rfl | exact hpre.2.1 rfl | exact hpre.2.2.1 rfl | exact hpre.2.2.2.1 rfl | exact hpre.2.2.2.2.1 rfl | exact hpre.2.2.2.2.2.1 rfl | exact hpre.2.2.2.2.2.2.1 rfl | exact hpre.2.2.2.2.2.2.2.1 rfl | exact hpre.2.2.2.2.2.2.2.2.1 rfl | exact hpre.2.2.2.2.2.2.2.2.2.1 rfl)
          refine ⟨true, eg, fun _ K hK => ?_, fun h => absurd rfl h⟩
          have e17 := ((hA 17).trans (show _ = vs 3 by kernel_rfl)).trans (by first | exact hpre.1 rfl | exact hpre.2.1 rfl | exact hpre.2.2.1 rfl | exact hpre.2.2.2.1 rfl | exact hpre.2.2.2.2.1 rfl | exact hpre.2.2.2.2.2.1 rfl | exact hpre.2.2.2.2.2.2.1 rfl | exact hpre.2.2.2.2.2.2.2.1 rfl | exact hpre.2.2.2.2.2.2.2.2.1 rfl | exact hpre.2.2.2.2.2.2.2.2.2.1 rfl)
          have e21 := ((hA 21).trans (show _ = vs 7 by kernel_rfl)).trans (by first | exact hpre.1 rfl | exact hpre.2.1 rfl | exact hpre.2.2.1 rfl | exact hpre.2.2.2.1 rfl | exact hpre.2.2.2.2.1 rfl | exact hpre.2.2.2.2.2.1 rfl | exact hpre.2.2.2.2.2.2.1 rfl | exact hpre.2.2.2.2.2.2.2.1 rfl | exact hpre.2.2.2.2.2.2.2.2.1 rfl | exact hpre.2.2.2.2.2.2.2.2.2.1 rfl)
          clear hA hpre
          go_simp
          go_at_call 31
          refine (HAh.out Wx).mono ?_
          rintro e w4 ⟨rfl, hg⟩
          exact hK _ _ (below_trans hB hg) rfl (fun _ _ h => h)
        · intro vs Wx A hA hB hpre K hK
          have e16 := ((hA 16).trans (show _ = vs 2 by kernel_rfl)).trans (by first | exact hpre.1 rfl | exact hpre.2.1 rfl | exact hpre.2.2.1 rfl | exact hpre.2.2.2.1 rfl | exact hpre.2.2.2.2.1 rfl | exact hpre.2.2.2.2.2.1 rfl | exact hpre.2.2.2.2.2.2.1 rfl | exact hpre.2.2.2.2.2.2.2.1 rfl | exact hpre.2.2.2.2.2.2.2.2.1 rfl | exact hpre.2.2.2.2.2.2.2.2.2.1 rfl)
          have e22 := ((hA 22).trans (show _ = vs 8 by kernel_rfl)).trans (by first | exact hpre.1 rfl | exact hpre.2.1 rfl | exact hpre.2.2.1 rfl | exact hpre.2.2.2.1 rfl | exact hpre.2.2.2.2.1 rfl | exact hpre.2.2.2.2.2.1 rfl | exact hpre.2.2.2.2.2.2.1 rfl | exact hpre.2.2.2.2.2.2.2.1 rfl | exact hpre.2.2.2.2.2.2.2.2.1 rfl | exact hpre.2.2.2.2.2.2.2.2.2.1 rfl)
          clear hA hpre
          go_simp
          first | exact hK _ _ hB rfl (fun _ _ h => h) | exact hK _ _ hB trivial (fun _ _ h => h) | (rw [if_neg (by omega)]; go_simp; exact hK _ _ hB rfl (fun _ _ h => h))
        · intro vs Wx hB hF
          have hL : vs 9 = .bool AB := hF 9 (by decide)
          have HB1 := Lib.hid (HB0.out.trans (hB.mono (by have := HS0.out; omega)))
          have HZ1 := Lib.hid (keepB HZ0.out hB)
          have HO1 := Lib.hid (own_far HO0.out hB)
          have HS1 : Hid (p + 1 ≤ Wx.heap.size) := Nat.le_trans HS0.out hB.size
          clear hF hB HB0 HZ0 HO0 HS0 HD
          simp only [Ri.puts]
          rw [hL]
          clear hL
          clear HXY HAh HDn
          cases AB with
          | true =>
            rw [putG_now _ _ _ _ HAB.out] at HE
            clear HAB
            go_simp
            obtain ⟨c0, c1, c2, c3, c4⟩ := cells5 HZ1.out
            have hb := below_alloc Wx (.cells #[.string (mk x.proc), .string (mk x.mod), .int .i64 x.net, .int .i64 x.frm, .int .i64 x.cents] 45)
            have HOa := Lib.hid (own_far HO1.out hb)
            have HZa := Lib.hid (keepB HZ1.out hb)
            have HNa := Lib.hid (heap_alloc_new Wx (.cells #[.string (mk x.proc), .string (mk x.mod), .int .i64 x.net, .int .i64 x.frm, .int .i64 x.cents] 45))
            have HBa := Lib.hid (HB1.out.trans (hb.mono (by have := HS1.out; omega)))
            have HSa : Hid (p + 1 ≤ (Wx.alloc (.cells #[.string (mk x.proc), .string (mk x.mod), .int .i64 x.net, .int .i64 x.frm, .int .i64 x.cents] 45)).heap.size) := Nat.le_trans HS1.out hb.size
            clear hb
            go_wp2_with (at_builtin; refine wpList_plain (by rfl) (fun K hK => ?_); refine wp_app _ _ (by rfl) (p + 1) (.slice ga acc.length gc) acc (by rfl) HOa.out Wx.heap.size 1 x (by rfl) HNa.out ha6 HSa.out ?_)
            intro vn w2 hown hgr hat
            have hlow := grow_low HOa.out hgr HSa.out
            have HB2 := Lib.hid (HBa.out.trans (hlow.mono (Nat.le_succ p)))
            have HZ2 := Lib.hid (box5 HZa.out hlow (Nat.lt_succ_self p))
            have HS2 : Hid (p + 1 ≤ w2.heap.size) := Nat.le_trans HSa.out hlow.size
            have HO2 : Hid (w2.ownsRow (p + 1) 45 5 vn (acc ++ [x]).length (fcs (acc ++ [x]))) := by
              show World.ownsRow _ _ _ _ _ _ _
              rw [List.length_append]
              exact hown
            refine hK _ _ ?_
            clear hK hown hgr hat hlow HOa HZa HNa HBa HSa c0 c1 c2 c3 c4
            obtain ⟨ac2, HA2⟩ : ∃ z, Hid (acc ++ [x] = z) := ⟨acc ++ [x], (rfl : acc ++ [x] = acc ++ [x])⟩
            rw [HA2.out] at HO2 HE
            obtain ⟨gb, gd, rfl⟩ := own_form HO2.out
            have h2l : ac2.length = acc.length + 1 := by rw [← HA2.out]; simp
            have hal2 : ac2.length ≤ n + 1 := by omega
            have ha6 : ac2.length ≤ 1000000 := by omega
            clear HA2 h2l
            obtain ⟨c0, c1, c2, c3, c4⟩ := HY.out w2 HB2.out
            have hb := below_alloc w2 (.cells #[.string (mk y.proc), .string (mk y.mod), .int .i64 y.net, .int .i64 y.frm, .int .i64 y.cents] 45)
            have HOa := Lib.hid (own_far HO2.out hb)
            have HZa := Lib.hid (keepB HZ2.out hb)
            have HNa := Lib.hid (heap_alloc_new w2 (.cells #[.string (mk y.proc), .string (mk y.mod), .int .i64 y.net, .int .i64 y.frm, .int .i64 y.cents] 45))
            have HBa := Lib.hid (HB2.out.trans (hb.mono (by have := HS2.out; omega)))
            have HSa : Hid (p + 1 ≤ (w2.alloc (.cells #[.string (mk y.proc), .string (mk y.mod), .int .i64 y.net, .int .i64 y.frm, .int .i64 y.cents] 45)).heap.size) := Nat.le_trans HS2.out hb.size
            clear hb
            go_wp2_with (at_builtin; refine wpList_plain (by rfl) (fun K hK => ?_); refine wp_app _ _ (by rfl) (p + 1) (.slice gb ac2.length gd) ac2 (by rfl) HOa.out w2.heap.size 1 y (by rfl) HNa.out ha6 HSa.out ?_)
            intro vn w3 hown hgr hat
            have hlow := grow_low HOa.out hgr HSa.out
            have HB3 := Lib.hid (HBa.out.trans (hlow.mono (Nat.le_succ p)))
            have HZ3 := Lib.hid (box5 HZa.out hlow (Nat.lt_succ_self p))
            have HS3 : Hid (p + 1 ≤ w3.heap.size) := Nat.le_trans HSa.out hlow.size
            have HO3 : Hid (w3.ownsRow (p + 1) 45 5 vn (ac2 ++ [y]).length (fcs (ac2 ++ [y]))) := by
              show World.ownsRow _ _ _ _ _ _ _
              rw [List.length_append]
              exact hown
            refine hK _ _ ?_
            clear hK hown hgr hat hlow HOa HZa HNa HBa HSa c0 c1 c2 c3 c4
            go_wp2
            go_roundg (l.length - (n + 1))
            case measure => omega
            case rel => exact ⟨n + 1, true, ac2 ++ [y], _, rfl, rfl, by first | rfl | go_num | (congr 1; omega), by omega, rfl, by first | (simp; omega) | (simp only [List.length_append, List.length_singleton]; omega), HB3.out, HZ3.out, HS3.out, HO3.out, HE.out⟩
          | false =>
            rw [putG_no _ _ _ _ HAB.out] at HE
            clear HAB
            go_simp
            obtain ⟨c0, c1, c2, c3, c4⟩ := HY.out Wx HB1.out
            have hb := below_alloc Wx (.cells #[.string (mk y.proc), .string (mk y.mod), .int .i64 y.net, .int .i64 y.frm, .int .i64 y.cents] 45)
            have HOa := Lib.hid (own_far HO1.out hb)
            have HZa := Lib.hid (keepB HZ1.out hb)
            have HNa := Lib.hid (heap_alloc_new Wx (.cells #[.string (mk y.proc), .string (mk y.mod), .int .i64 y.net, .int .i64 y.frm, .int .i64 y.cents] 45))
            have HBa := Lib.hid (HB1.out.trans (hb.mono (by have := HS1.out; omega)))
            have HSa : Hid (p + 1 ≤ (Wx.alloc (.cells #[.string (mk y.proc), .string (mk y.mod), .int .i64 y.net, .int .i64 y.frm, .int .i64 y.cents] 45)).heap.size) := Nat.le_trans HS1.out hb.size
            clear hb
            go_wp2_with (at_builtin; refine wpList_plain (by rfl) (fun K hK => ?_); refine wp_app _ _ (by rfl) (p + 1) (.slice ga acc.length gc) acc (by rfl) HOa.out Wx.heap.size 1 y (by rfl) HNa.out ha6 HSa.out ?_)
            intro vn w2 hown hgr hat
            have hlow := grow_low HOa.out hgr HSa.out
            have HB2 := Lib.hid (HBa.out.trans (hlow.mono (Nat.le_succ p)))
            have HZ2 := Lib.hid (box5 HZa.out hlow (Nat.lt_succ_self p))
            have HS2 : Hid (p + 1 ≤ w2.heap.size) := Nat.le_trans HSa.out hlow.size
            have HO2 : Hid (w2.ownsRow (p + 1) 45 5 vn (acc ++ [y]).length (fcs (acc ++ [y]))) := by
              show World.ownsRow _ _ _ _ _ _ _
              rw [List.length_append]
              exact hown
            refine hK _ _ ?_
            clear hK hown hgr hat hlow HOa HZa HNa HBa HSa c0 c1 c2 c3 c4
            go_wp2
            go_roundg (l.length - (n + 1))
            case measure => omega
            case rel => exact ⟨n + 1, false, acc ++ [y], _, rfl, rfl, by first | rfl | go_num | (congr 1; omega), by omega, rfl, by first | (simp; omega) | (simp only [List.length_append, List.length_singleton]; omega), HB2.out, HZ2.out, HS2.out, HO2.out, HE.out⟩
    · have hltz : ¬ (n : Int) < (l.length : Int) := by omega
      have hdr : l.drop n = [] := List.drop_eq_nil_of_le (by omega)
      rw [hdr] at HE
      clear hdr
      cases d with
      | true =>
        have HE2 : Hid (acc = put l x) := by show _ = _; have := HE.out; simpa [putG] using this
        clear HE
        go_wp2
        go_ret
        exact ⟨by rw [← HE2.out]; exact ⟨ga, gc, rfl, fes_of_own HO0.out (fun _ _ => trivial)⟩, by first | exact HB0.out | (rw [hp]; exact HB0.out)⟩
      | false =>
        have HE2 : Hid (acc ++ [x] = put l x) := by show _ = _; have := HE.out; simpa [putG, put] using this
        clear HE
        obtain ⟨c0, c1, c2, c3, c4⟩ := cells5 HZ0.out
        have hb := below_alloc wr (.cells #[.string (mk x.proc), .string (mk x.mod), .int .i64 x.net, .int .i64 x.frm, .int .i64 x.cents] 45)
        have HOa := Lib.hid (own_far HO0.out hb)
        have HZa := Lib.hid (keepB HZ0.out hb)
        have HNa := Lib.hid (heap_alloc_new wr (.cells #[.string (mk x.proc), .string (mk x.mod), .int .i64 x.net, .int .i64 x.frm, .int .i64 x.cents] 45))
        have HBa := Lib.hid (HB0.out.trans (hb.mono (by have := HS0.out; omega)))
        have HSa : Hid (p + 1 ≤ (wr.alloc (.cells #[.string (mk x.proc), .string (mk x.mod), .int .i64 x.net, .int .i64 x.frm, .int .i64 x.cents] 45)).heap.size) := Nat.le_trans HS0.out hb.size
        clear hb
        go_wp2_with (at_builtin; refine wpList_plain (by rfl) (fun K hK => ?_); refine wp_app _ _ (by rfl) (p + 1) (.slice ga acc.length gc) acc (by rfl) HOa.out wr.heap.size 1 x (by rfl) HNa.out ha6 HSa.out ?_)
        intro vn w2 hown hgr hat
        have hlow := grow_low HOa.out hgr HSa.out
        have HB2 := Lib.hid (HBa.out.trans (hlow.mono (Nat.le_succ p)))
        have HZ2 := Lib.hid (box5 HZa.out hlow (Nat.lt_succ_self p))
        have HS2 : Hid (p + 1 ≤ w2.heap.size) := Nat.le_trans HSa.out hlow.size
        have HO2 : Hid (w2.ownsRow (p + 1) 45 5 vn (acc ++ [x]).length (fcs (acc ++ [x]))) := by
          show World.ownsRow _ _ _ _ _ _ _
          rw [List.length_append]
          exact hown
        refine hK _ _ ?_
        clear hK hown hgr hat hlow HOa HZa HNa HBa HSa c0 c1 c2 c3 c4
        rw [HE2.out] at HO2
        obtain ⟨gb, gd, rfl⟩ := own_form HO2.out
        go_wp2
        go_ret
        exact ⟨⟨gb, gd, rfl, fes_of_own HO2.out (fun _ _ => trivial)⟩, by first | exact HB2.out | (rw [hp]; exact HB2.out)⟩
end Go.Proofs.YtmoldgmfhcmceaaGreatDoor.Fe
end
