/-
  Texts put together (merge.py): BStand, BWorks.
-/
import Derived.Test.YtjgceppbhmmbjaaDoorMb14
import Derived.Test.YtjgceppbhmmbjaaDoorMb12
import Derived.Test.YtjgceppbhmmbjaaDoorMb15
/-
  What Standing answers, and the reference's, as contracts: for all books.
-/
section
set_option linter.unusedSimpArgs false
set_option linter.unusedVariables false
set_option maxRecDepth 100000
namespace Go.Proofs.YtjgceppbhmmbjaaDoor.Bk
open Go.RowKit
open Cm (Ln Cl cl0 LnsAt ClCells lnv clv LnOk ClOk boxc)
open Sh (Ot)

theorem stand_take {l : List En} {k : Nat} {x : En} (h : l[k]? = some x) : stand (l.take (k + 1)) = stand (l.take k) ++ (if x.st = 0 then [x] else []) := by
  rw [List.take_add_one, h]
  unfold stand
  rw [List.filter_append]
  congr 1
  by_cases hx : x.st = 0 <;> simp [hx]
theorem stand_len (l : List En) (k : Nat) : (stand (l.take k)).length ≤ l.length := by
  have := List.length_filter_le (fun e : En => decide (e.st = 0)) (l.take k)
  have h2 : (l.take k).length ≤ l.length := by simp; omega
  unfold stand; omega

set_option maxHeartbeats 4000000 in
theorem stand_any (l : List En) (v : Value) (w : World) (h : EnsAt All w v l) (hl : l.length ≤ 100000) (hfl : ∀ x ∈ l, FitE x) :
    Calls Tryd.prog 18 #[v] w fun e w' => ∃ v' L, e = .returned v' ∧ L.map (·.e) = stand l ∧ Full w.heap.size w' v' L ∧ Below w.heap.size w w' := by
  obtain ⟨fa, fk, rfl, hm1, hm2⟩ := h.form
  have HK : Hid (∀ w', Below w.heap.size w w' → EnsAt All w' (.slice fa l.length fk) l) := fun w' hb => h.grw hb
  have HFR : Hid (∀ W x m mo, Cont All W ⟨x, m, mo⟩ → x ∈ l → Calls Tryd.prog 26 #[env x m mo] W fun e w' => ∃ u uo, e = .returned (env x u uo) ∧ Cont (fun b => W.heap.size ≤ b) w' ⟨x, u, uo⟩ ∧ Below W.heap.size W w') := fun W x m mo hc hx => fresh_any x m mo W hc (hfl x hx)
  clear h hfl
  go_enter Tryd.func18, Tryd.ntmps18
  go_wp2
  go_loopg [3, 8] (l.length) (fun gg s3 s8 wr => ∃ (k : Nat) (L : List Ev), s8 = .int .i64 k ∧ k ≤ l.length ∧ l.length - k ≤ gg ∧ Hid (L.map (·.e) = stand (l.take k)) ∧ Hid (Full w.heap.size wr s3 L) ∧ Hid (Below w.heap.size w wr) ∧ (∃ a n c, s3 = .slice a n c))
  case atStart => exact ⟨0, [], rfl, Nat.zero_le _, by omega, rfl, Full.nil _ _, Below.refl _ _, ⟨_, _, _, rfl⟩⟩
  case round =>
    obtain ⟨k, L, rfl, hk, hgk, HL, HFu, HBn, a0, n0, c0, rfl⟩ := hrel
    by_cases hlt : k < l.length
    · have hltz : (k : Int) < (l.length : Int) := by omega
      obtain ⟨b, o, m2, mo, rfl, -, hx, hcell, hcont⟩ := EnsAt.get (HK.out _ HBn.out) k hlt
      have hmem := List.mem_of_getElem? hx
      have HST := Lib.hid (stand_take hx)
      generalize l[k] = x at *
      obtain ⟨x0, x1, x2, x3, x4, x5, x6, x7, x8, x9⟩ := hcell
      have HCO := Lib.hid hcont
      obtain ⟨am, km, e1, -, -⟩ := Cm.LnsAt.form hcont.1
      obtain ⟨ao, ko, e2, -, -⟩ := hcont.2.form
      dsimp only at e1 e2
      subst e1 e2
      have hi1 : k < l.length := hlt
      clear hcont hx
      by_cases hs : x.st = 0
      · have hsb : (x.st == 0) = true := by simp [hs]
        have HAPP : Hid (∀ w2 u uo, Cont (fun b => (wr.alloc (.cells (enc x (.slice am x.cl.lines.length km) (.slice ao x.outs.length ko)) TE)).heap.size ≤ b) w2 ⟨x, u, uo⟩ → Below (wr.alloc (.cells (enc x (.slice am x.cl.lines.length km) (.slice ao x.outs.length ko)) TE)).heap.size (wr.alloc (.cells (enc x (.slice am x.cl.lines.length km) (.slice ao x.outs.length ko)) TE)) w2 → Full w.heap.size (w2.alloc (.cells (enc x u uo) TE)) (.slice a0 n0 c0) L ∧ Cont (fun b => (Value.slice a0 n0 c0).ownBlock ≠ some b) (w2.alloc (.cells (enc x u uo) TE)) ⟨x, u, uo⟩ ∧ Below w.heap.size w (w2.alloc (.cells (enc x u uo) TE)) ∧ w.heap.size ≤ (w2.alloc (.cells (enc x u uo) TE)).heap.size) := fun w2 u uo hc hb => by
          have e1 : (wr.alloc (.cells (enc x (.slice am x.cl.lines.length km) (.slice ao x.outs.length ko)) TE)).heap.size = wr.heap.size + 1 := by simp
          have b1 := below_trans (below_trans (below_alloc wr (.cells (enc x (.slice am x.cl.lines.length km) (.slice ao x.outs.length ko)) TE)) hb) (below_alloc w2 (.cells (enc x u uo) TE))
          have hsz := HBn.out.size
          refine ⟨HFu.out.grw b1, ?_, HBn.out.trans (b1.mono (by omega)), by have := b1.size; omega⟩
          refine hc.move ⟨(below_alloc w2 (.cells (enc x u uo) TE)).size, fun b hb' hk => ⟨fun e => ?_, (below_alloc w2 (.cells (enc x u uo) TE)).block b hb'⟩⟩
          have := (HFu.out.1.lt b e).2
          omega
        have hLl : L.length ≤ 100000 := by
          have := congrArg List.length HL.out
          have h2 := stand_len l k
          rw [List.length_map] at this
          omega
        have HL2 : Hid ((L.map (·.e)) ++ [x] = stand (l.take (k + 1))) := by rw [HST.out, HL.out, if_pos hs]; rfl
        clear hs
        go_wp2_with (first | (go_at_call 26; refine (HFR.out _ x _ _ (HCO.out.grw (below_alloc wr _)) hmem).mono ?_; rintro e w2 ⟨u, uo, rfl, hc2, hb2⟩; obtain ⟨q1, q2, q3, q4⟩ := HAPP.out _ _ _ hc2 hb2; have Q1 := Lib.hid q1; have Q2 := Lib.hid q2; have Q3 := Lib.hid q3; obtain ⟨ua, uk, e1, -, -⟩ := Cm.LnsAt.form hc2.1; obtain ⟨va, vk, e2, -, -⟩ := hc2.2.form; dsimp only at e1 e2; subst e1 e2; clear hc2 hb2 q1 q2 q3) | (at_builtin; refine wpList_plain (by rfl) (fun K hK => ?_); refine wp_app _ _ rfl w.heap.size (.slice a0 n0 c0) L rfl Q1.out.1 _ 1 ⟨x, _, _⟩ rfl (alloc_new _ _ _) Q2.out.sl (by omega) q4 (fun v' w' ho hg hat => ?_); refine hK _ _ ?_; have HF4 := Lib.hid (Q1.out.app Q2.out ho hg hat); have HB4 : Hid (Below w.heap.size w w') := Q3.out.trans (grow_low Q1.out.1 hg q4); clear ho hg hat hK; obtain ⟨pa, pc, e3, -, -⟩ := HF4.out.form; rw [List.length_append, List.length_singleton] at e3; subst e3))
        go_roundg (l.length - (k + 1))
        case measure => omega
        case rel => exact ⟨k + 1, L ++ [Ev.mk x (.slice ua x.cl.lines.length uk) (.slice va x.outs.length vk)], by first | rfl | go_num | (congr 1; omega), by omega, by omega, (show List.map (fun z => z.e) (L ++ [Ev.mk x (.slice ua x.cl.lines.length uk) (.slice va x.outs.length vk)]) = stand (l.take (k + 1)) from List.map_append.trans HL2.out), HF4.out, HB4.out, ⟨_, _, _, rfl⟩⟩
      · have hsb : (x.st == 0) = false := by simp [hs]
        have HL2 : Hid ((L.map (·.e)) = stand (l.take (k + 1))) := by rw [HST.out, HL.out, if_neg hs, List.append_nil]; rfl
        have HN : Hid (∀ o, Full w.heap.size (wr.alloc o) (.slice a0 n0 c0) L ∧ Below w.heap.size w (wr.alloc o)) := fun o => ⟨HFu.out.grw (below_alloc wr o), below_trans HBn.out (below_alloc wr o)⟩
        clear hs
        go_wp2
        go_roundg (l.length - (k + 1))
        case measure => omega
        case rel => exact ⟨k + 1, L, by first | rfl | go_num | (congr 1; omega), by omega, by omega, HL2.out, (HN.out _).1, (HN.out _).2, ⟨_, _, _, rfl⟩⟩
    · have hltz : ¬ (k : Int) < (l.length : Int) := by omega
      have HLe : Hid (L.map (·.e) = stand l) := by have := HL.out; rw [List.take_of_length_le (by omega)] at this; exact this
      go_wp2
      go_ret
      first | exact ⟨_, L, rfl, HLe.out, HFu.out, HBn.out⟩ | exact ⟨_, rfl, L, HLe.out, HFu.out, HBn.out⟩
set_option maxHeartbeats 4000000 in
theorem rstand_any (l : List En) (v : Value) (w : World) (h : EnsAt All w v l) (hl : l.length ≤ 100000) :
    Calls Tryd.prog 19 #[v] w fun e w' => ∃ v' L, e = .returned v' ∧ L.map (·.e) = stand l ∧ Full w.heap.size w' v' L ∧ Below w.heap.size w w' := by
  obtain ⟨fa, fk, rfl, hm1, hm2⟩ := h.form
  have h' : EnsAt (fun b => b < w.heap.size) w (.slice fa l.length fk) l := h.move (moves_weak w fun b hb _ => hb)
  have HK : Hid (∀ w', Below w.heap.size w w' → EnsAt (fun b => b < w.heap.size) w' (.slice fa l.length fk) l) := fun w' hb => h'.move ⟨hb.size, fun b hb' hk => ⟨hk, hb.block b hb'⟩⟩
  clear h h'
  go_enter Tryd.func19, Tryd.ntmps19
  go_wp2
  go_loopg [3, 4] (l.length) (fun gg s3 s8 wr => ∃ (k : Nat) (L : List Ev), s8 = .int .i64 k ∧ k ≤ l.length ∧ l.length - k ≤ gg ∧ Hid (L.map (·.e) = stand (l.take k)) ∧ Hid (Full w.heap.size wr s3 L) ∧ Hid (Below w.heap.size w wr) ∧ (∃ a n c, s3 = .slice a n c))
  case atStart => exact ⟨0, [], rfl, Nat.zero_le _, by omega, rfl, Full.nil _ _, Below.refl _ _, ⟨_, _, _, rfl⟩⟩
  case round =>
    obtain ⟨k, L, rfl, hk, hgk, HL, HFu, HBn, a0, n0, c0, rfl⟩ := hrel
    by_cases hlt : k < l.length
    · have hltz : (k : Int) < (l.length : Int) := by omega
      obtain ⟨b, o, m2, mo, rfl, -, hx, hcell, hcont⟩ := EnsAt.get (HK.out _ HBn.out) k hlt
      have HST := Lib.hid (stand_take hx)
      generalize l[k] = x at *
      obtain ⟨x0, x1, x2, x3, x4, x5, x6, x7, x8, x9⟩ := hcell
      have HCO := Lib.hid hcont
      obtain ⟨am, km, e1, -, -⟩ := Cm.LnsAt.form hcont.1
      obtain ⟨ao, ko, e2, -, -⟩ := hcont.2.form
      dsimp only at e1 e2
      subst e1 e2
      have hi1 : k < l.length := hlt
      clear hcont hx
      by_cases hs : x.st = 0
      · have hsb : (x.st == 0) = true := by simp [hs]
        have HAPP : Hid (Full w.heap.size (wr.alloc (.cells (enc x (.slice am x.cl.lines.length km) (.slice ao x.outs.length ko)) TE)) (.slice a0 n0 c0) L ∧ Cont (fun b => (Value.slice a0 n0 c0).ownBlock ≠ some b) (wr.alloc (.cells (enc x (.slice am x.cl.lines.length km) (.slice ao x.outs.length ko)) TE)) ⟨x, (.slice am x.cl.lines.length km), (.slice ao x.outs.length ko)⟩ ∧ Below w.heap.size w (wr.alloc (.cells (enc x (.slice am x.cl.lines.length km) (.slice ao x.outs.length ko)) TE)) ∧ w.heap.size ≤ (wr.alloc (.cells (enc x (.slice am x.cl.lines.length km) (.slice ao x.outs.length ko)) TE)).heap.size) := by
          have hsz := HBn.out.size
          have b1 := below_alloc wr (.cells (enc x (.slice am x.cl.lines.length km) (.slice ao x.outs.length ko)) TE)
          refine ⟨HFu.out.grw b1, ?_, HBn.out.trans (b1.mono (by omega)), by have := b1.size; omega⟩
          refine HCO.out.move ⟨b1.size, fun b hb' hk => ⟨fun e => ?_, b1.block b hb'⟩⟩
          have := (HFu.out.1.lt b e).1
          omega
        obtain ⟨q1, q2, q3, q4⟩ := HAPP.out
        have Q1 := Lib.hid q1
        have Q2 := Lib.hid q2
        have Q3 := Lib.hid q3
        clear q1 q2 q3 HAPP
        have hLl : L.length ≤ 100000 := by
          have := congrArg List.length HL.out
          have h2 := stand_len l k
          rw [List.length_map] at this
          omega
        have HL2 : Hid ((L.map (·.e)) ++ [x] = stand (l.take (k + 1))) := by rw [HST.out, HL.out, if_pos hs]; rfl
        clear hs
        go_wp2_with (first | (at_builtin; refine wpList_plain (by rfl) (fun K hK => ?_); refine wp_app _ _ rfl w.heap.size (.slice a0 n0 c0) L rfl Q1.out.1 _ 1 ⟨x, _, _⟩ rfl (alloc_new _ _ _) Q2.out.sl (by omega) q4 (fun v' w' ho hg hat => ?_); refine hK _ _ ?_; have HF4 := Lib.hid (Q1.out.app Q2.out ho hg hat); have HB4 : Hid (Below w.heap.size w w') := Q3.out.trans (grow_low Q1.out.1 hg q4); clear ho hg hat hK; obtain ⟨pa, pc, e3, -, -⟩ := HF4.out.form; rw [List.length_append, List.length_singleton] at e3; subst e3))
        go_roundg (l.length - (k + 1))
        case measure => omega
        case rel => exact ⟨k + 1, L ++ [Ev.mk x (.slice am x.cl.lines.length km) (.slice ao x.outs.length ko)], by first | rfl | go_num | (congr 1; omega), by omega, by omega, (show List.map (fun z => z.e) (L ++ [Ev.mk x (.slice am x.cl.lines.length km) (.slice ao x.outs.length ko)]) = stand (l.take (k + 1)) from List.map_append.trans HL2.out), HF4.out, HB4.out, ⟨_, _, _, rfl⟩⟩
      · have hsb : (x.st == 0) = false := by simp [hs]
        have HL2 : Hid ((L.map (·.e)) = stand (l.take (k + 1))) := by rw [HST.out, HL.out, if_neg hs, List.append_nil]; rfl
        clear hs
        go_wp2
        go_roundg (l.length - (k + 1))
        case measure => omega
        case rel => exact ⟨k + 1, L, by first | rfl | go_num | (congr 1; omega), by omega, by omega, HL2.out, HFu.out, HBn.out, ⟨_, _, _, rfl⟩⟩
    · have hltz : ¬ (k : Int) < (l.length : Int) := by omega
      have HLe : Hid (L.map (·.e) = stand l) := by have := HL.out; rw [List.take_of_length_le (by omega)] at this; exact this
      go_wp2
      go_ret
      first | exact ⟨_, L, rfl, HLe.out, HFu.out, HBn.out⟩ | exact ⟨_, rfl, L, HLe.out, HFu.out, HBn.out⟩
end Go.Proofs.YtjgceppbhmmbjaaDoor.Bk
end

/-
  What layer 18's works answers, as a contract.
-/
section
set_option linter.unusedSimpArgs false
set_option linter.unusedVariables false
set_option maxRecDepth 100000
namespace Go.Proofs.YtjgceppbhmmbjaaDoor.Bk
open Go.RowKit
open Cm (Ln Cl cl0 LnsAt ClCells lnv clv LnOk ClOk boxc)
open Sh (Ot)

def wc1 : Cl := ⟨[67, 49], [77, 49], [70, 49], 0, 1, [], [wkL]⟩
def wc2 : Cl := ⟨[67, 50], [77, 49], [70, 49], 0, 7, [67, 49], [wkL]⟩
def wc3 : Cl := ⟨[67, 51], [77, 49], [70, 49], 0, 8, [67, 49], []⟩
def wc4 : Cl := ⟨[67, 51], [77, 49], [70, 49], 0, 8, [67, 50], []⟩
def wc9 : Cl := ⟨[67, 57], [77, 49], [70, 49], 0, 8, [88], []⟩
def wl1 : List En := [⟨wc1, 0, 0, []⟩]
def wl2 : List En := [⟨wc1, 0, 2, []⟩, ⟨wc2, 0, 0, []⟩]
def wl3 : List En := [⟨wc1, 0, 2, []⟩, ⟨wc2, 0, 1, []⟩, ⟨wc4, 0, 1, []⟩]
theorem wk_lok : LnOk wkL := ⟨⟨by decide, by decide⟩, ⟨by decide, by decide⟩, ⟨by decide, by decide⟩, ⟨by decide, by decide⟩, by decide, by decide, fun t ht => by simp [wkL] at ht⟩
theorem wk_lo (x : Ln) (hx : x ∈ [wkL]) : LnOk x := (List.mem_singleton.1 hx) ▸ wk_lok
theorem wk_lf (x : Ln) (hx : x ∈ [wkL]) : x.mods.length ≤ 1000000 := (List.mem_singleton.1 hx) ▸ (by decide)
theorem wc_ok (c : Cl) (hc : c = wc1 ∨ c = wc2 ∨ c = wc3 ∨ c = wc4 ∨ c = wc9) : ClOk c ∧ Fit c := by
  rcases hc with rfl | rfl | rfl | rfl | rfl
  · exact ⟨⟨⟨by decide, by decide⟩, ⟨by decide, by decide⟩, by decide, by decide, by decide, by decide, by decide, fun x hx => wk_lo x hx⟩, by decide, fun x hx => wk_lf x hx⟩
  · exact ⟨⟨⟨by decide, by decide⟩, ⟨by decide, by decide⟩, by decide, by decide, by decide, by decide, by decide, fun x hx => wk_lo x hx⟩, by decide, fun x hx => wk_lf x hx⟩
  all_goals exact ⟨⟨⟨by decide, by decide⟩, ⟨by decide, by decide⟩, by decide, by decide, by decide, by decide, by decide, fun x hx => by cases hx⟩, by decide, fun x hx => by cases hx⟩
theorem wl_fit (x : En) (hx : x ∈ wl1 ∨ x ∈ wl2 ∨ x ∈ wl3) : FitE x := by
  have h : x.outs = [] ∧ (x.cl = wc1 ∨ x.cl = wc2 ∨ x.cl = wc3 ∨ x.cl = wc4 ∨ x.cl = wc9) := by
    simp only [wl1, wl2, wl3, List.mem_cons, List.not_mem_nil, or_false] at hx
    rcases hx with rfl | (rfl | rfl) | rfl | rfl | rfl <;> simp
  exact ⟨(wc_ok _ h.2).2, by rw [h.1]; decide⟩
theorem wk_put (l : List En) (c : Cl) (t : Int) (l' : List En) (n : Nat) (a e : Int) (hp : putV l c t 9 = l') (hn : l'.length = n) (ha : putA l c 9 = a) (he : admE l c 9 = e) (v m : Value) (w : World) (h : EnsAt All w v l) (hm : LnsAt All w m c.lines) (hT : Da.Tab w) (hl : l.length ≤ 100000) (hfl : ∀ x ∈ l, FitE x) (hc : c = wc1 ∨ c = wc2 ∨ c = wc3 ∨ c = wc4 ∨ c = wc9) :
    Calls Tryd.prog 11 #[v, clv c m, .int .i64 t, .int .i64 9] w fun x w' => (∃ u k, x = .returned (.tuple #[.slice u n k, .int .i64 a, .int .i64 e]) ∧ EnsAt All w' (.slice u n k) l') ∧ Below w.heap.size w w' := by
  refine (put_any l c t 9 v m w h hm (wc_ok c hc).1 hT hl hfl (wc_ok c hc).2).mono ?_
  rintro x w' ⟨⟨u, L, rfl, hL, hF⟩, hb⟩
  have h1 := hF.at
  rw [hL, hp] at h1
  obtain ⟨ua, uk, rfl, -, -⟩ := h1.form
  rw [ha, he]
  rw [hn] at h1 ⊢
  exact ⟨⟨ua, uk, rfl, h1⟩, hb⟩
set_option maxHeartbeats 4000000 in
theorem works_any (w : World) (hT : Da.Tab w) : Calls Tryd.prog 10 #[] w fun e w' => e = .returned (.bool true) ∧ Below w.heap.size w w' := by
  have HP1 := Lib.hid fun W m (hW : Below w.heap.size w W) (hm : LnsAt All W m wc1.lines) => wk_put [] wc1 0 wl1 1 0 0 (by kernel_rfl) rfl (by kernel_rfl) (by kernel_rfl) (.slice none 0 0) m W (EnsAt.nil _ _) hm (Cm.tab_below hT hW) (by decide) (fun x hx => by cases hx) (Or.inl rfl)
  have HP2 := Lib.hid fun W u m (hW : Below w.heap.size w W) (hu : EnsAt All W u wl1) (hm : LnsAt All W m wc2.lines) => wk_put wl1 wc2 5 wl2 2 0 0 (by kernel_rfl) rfl (by kernel_rfl) (by kernel_rfl) u m W hu hm (Cm.tab_below hT hW) (by decide) (fun x hx => wl_fit x (Or.inl hx)) (Or.inr (Or.inl rfl))
  have HP3 := Lib.hid fun W u (hW : Below w.heap.size w W) (hu : EnsAt All W u wl2) => wk_put wl2 wc3 0 [] 0 0 14 (by kernel_rfl) rfl (by kernel_rfl) (by kernel_rfl) u (.slice none 0 0) W hu (⟨none, 0, rfl, by simp, by simp [maxLen], Or.inl rfl⟩ : LnsAt All W (.slice none 0 0) []) (Cm.tab_below hT hW) (by decide) (fun x hx => wl_fit x (Or.inr (Or.inl hx))) (Or.inr (Or.inr (Or.inl rfl)))
  have HP4 := Lib.hid fun W u (hW : Below w.heap.size w W) (hu : EnsAt All W u wl2) => wk_put wl2 wc4 0 wl3 3 1 0 (by kernel_rfl) rfl (by kernel_rfl) (by kernel_rfl) u (.slice none 0 0) W hu (⟨none, 0, rfl, by simp, by simp [maxLen], Or.inl rfl⟩ : LnsAt All W (.slice none 0 0) []) (Cm.tab_below hT hW) (by decide) (fun x hx => wl_fit x (Or.inr (Or.inl hx))) (Or.inr (Or.inr (Or.inr (Or.inl rfl))))
  have HS : Hid (∀ W u, EnsAt All W u wl3 → Calls Tryd.prog 18 #[u] W fun e w' => (∃ a k, e = .returned (.slice a 0 k)) ∧ Below W.heap.size W w') := fun W u hu => by
    refine (stand_any wl3 u W hu (by decide) (fun x hx => wl_fit x (Or.inr (Or.inr hx)))).mono ?_
    rintro e w' ⟨v', L, rfl, hL, hF, hb⟩
    have hL0 : L = [] := by
      rw [show stand wl3 = [] by kernel_rfl] at hL
      exact List.map_eq_nil_iff.1 hL
    obtain ⟨a, c, rfl, -, -⟩ := hF.form
    rw [hL0]
    exact ⟨⟨a, c, rfl⟩, hb⟩
  have HFi : Hid (∀ W u, EnsAt All W u wl3 → Calls Tryd.prog 16 #[u, .string ⟨#[67, 51]⟩] W fun e w' => e = .returned (.int .i64 2) ∧ Below W.heap.size W w') := fun W u hu => by
    refine (show Calls Tryd.prog 16 #[u, .string (mk [67, 51])] W _ from (find_any wl3 [67, 51] u W hu).mono ?_)
    rintro e w' ⟨rfl, rfl⟩
    rw [show findV wl3 [67, 51] = 2 by kernel_rfl]
    exact ⟨rfl, Below.refl _ _⟩
  have HAd : Hid (∀ W u, Below w.heap.size w W → EnsAt All W u wl2 → Calls Tryd.prog 14 #[u, clv wc9 (.slice none 0 0), .int .i64 9] W fun e w' => e = .returned (.int .i64 13) ∧ Below W.heap.size W w') := fun W u hW hu => by
    refine (admit_any wl2 wc9 9 u (.slice none 0 0) W hu (⟨none, 0, rfl, by simp, by simp [maxLen], Or.inl rfl⟩ : LnsAt All W (.slice none 0 0) []) (wc_ok wc9 (Or.inr (Or.inr (Or.inr (Or.inr rfl))))).1 (Cm.tab_below hT hW)).mono ?_
    rintro e w' ⟨rfl, hb⟩
    rw [show admE wl2 wc9 9 = 13 by kernel_rfl]
    exact ⟨rfl, hb⟩
  clear hT
  go_enter Tryd.func10, Tryd.ntmps10
  go_wp2_with fail
  try (go_at_call 25)
  refine (oneL _ _ 1 (by decide) w).mono ?_
  rintro e w1 ⟨m1, rfl, hm1, hb1⟩
  obtain ⟨ma, mc, rfl, -, -⟩ := Cm.LnsAt.form hm1
  have HB1 := Lib.hid hb1
  have HM1 := Lib.hid hm1
  clear hb1 hm1
  go_wp2_with fail
  try (go_at_call 11)
  refine (HP1.out w1 _ HB1.out HM1.out).mono ?_
  rintro e w2 ⟨⟨u2, k2, rfl, hu2⟩, hb2⟩
  have HB2 := Lib.hid (below_trans HB1.out hb2)
  have HU2 := Lib.hid hu2
  clear hb2 hu2 HP1 HB1 HM1
  go_wp2_with fail
  try (go_at_call 25)
  refine (oneL _ _ 7 (by decide) w2).mono ?_
  rintro e w3 ⟨m3, rfl, hm3, hb3⟩
  obtain ⟨ma3, mc3, rfl, -, -⟩ := Cm.LnsAt.form hm3
  have HB3 := Lib.hid (below_trans HB2.out hb3)
  have HU3 := Lib.hid (HU2.out.grw hb3)
  have HM3 := Lib.hid hm3
  clear hb3 hm3 HU2 HB2
  go_wp2_with fail
  try (go_at_call 11)
  refine (HP2.out w3 _ _ HB3.out HU3.out HM3.out).mono ?_
  rintro e w4 ⟨⟨u4, k4, rfl, hu4⟩, hb4⟩
  have HB4 := Lib.hid (below_trans HB3.out hb4)
  have HU4 := Lib.hid hu4
  clear hb4 hu4 HP2 HB3 HM3 HU3
  go_wp2_with fail
  try (go_at_call 25)
  refine (oneV _ _ w4).mono ?_
  rintro e w5 ⟨rfl, hb5⟩
  have HB5 := Lib.hid (below_trans HB4.out hb5)
  have HU5 := Lib.hid (HU4.out.grw hb5)
  clear hb5 HU4 HB4
  go_wp2_with fail
  try (go_at_call 11)
  refine (HP3.out w5 _ HB5.out HU5.out).mono ?_
  rintro e w6 ⟨⟨u6, k6, rfl, -⟩, hb6⟩
  have HB6 := Lib.hid (below_trans HB5.out hb6)
  have HU6 := Lib.hid (HU5.out.grw hb6)
  clear hb6 HP3 HB5 HU5
  go_wp2_with fail
  try (go_at_call 25)
  refine (oneV _ _ w6).mono ?_
  rintro e w7 ⟨rfl, hb7⟩
  have HB7 := Lib.hid (below_trans HB6.out hb7)
  have HU7 := Lib.hid (HU6.out.grw hb7)
  clear hb7 HU6 HB6
  go_wp2_with fail
  try (go_at_call 11)
  refine (HP4.out w7 _ HB7.out HU7.out).mono ?_
  rintro e w8 ⟨⟨u8, k8, rfl, hu8⟩, hb8⟩
  have HB8 := Lib.hid (below_trans HB7.out hb8)
  have HU8 := Lib.hid (HU7.out.grw hb8)
  have HV8 := Lib.hid hu8
  clear hb8 hu8 HP4 HB7 HU7
  obtain ⟨b, o, m0, mo0, rfl, -, -, g0, -⟩ := EnsAt.get HU8.out 0 (by decide)
  obtain ⟨b', o', m0', mo0', e0, -, -, g1, -⟩ := EnsAt.get HU8.out 1 (by decide)
  simp only [Option.some.injEq, Addr.mk.injEq, and_true] at e0
  obtain ⟨rfl, rfl⟩ := e0
  have z0 : w8.cell? ⟨b, o + 8, none⟩ = some (.int .i64 2) := by have := g0.2.2.2.2.2.2.2.2.1; simpa [wl2] using this
  have z1 : w8.cell? ⟨b, o + 10 + 7, none⟩ = some (.int .i64 0) := by have := g1.2.2.2.2.2.2.2.1; simpa [wl2] using this
  have z2 : w8.cell? ⟨b, o + 17, none⟩ = some (.int .i64 0) := z1
  clear g0 g1
  go_wp2_with fail
  try (go_at_call 18)
  refine (HS.out w8 _ HV8.out).mono ?_
  rintro e w9 ⟨⟨a9, k9, rfl⟩, hb9⟩
  have HB9 := Lib.hid (below_trans HB8.out hb9)
  have HU9 := Lib.hid (HU8.out.grw hb9)
  have HV9 := Lib.hid (HV8.out.grw hb9)
  clear hb9 HU8 HB8 HV8 z0 z1 z2 HS
  go_wp2_with fail
  try (go_at_call 16)
  refine (HFi.out w9 _ HV9.out).mono ?_
  rintro e w10 ⟨rfl, hb10⟩
  have HB10 := Lib.hid (below_trans HB9.out hb10)
  have HU10 := Lib.hid (HU9.out.grw hb10)
  clear hb10 HU9 HB9 HV9 HFi
  go_wp2_with fail
  try (go_at_call 25)
  refine (oneV _ _ w10).mono ?_
  rintro e w11 ⟨rfl, hb11⟩
  have HB11 := Lib.hid (below_trans HB10.out hb11)
  have HU11 := Lib.hid (HU10.out.grw hb11)
  clear hb11 HU10 HB10
  go_wp2_with fail
  try (go_at_call 14)
  refine (HAd.out w11 _ HB11.out HU11.out).mono ?_
  rintro e w12 ⟨rfl, hb12⟩
  have HB12 := Lib.hid (below_trans HB11.out hb12)
  clear hb12
  go_wp2
  go_ret
  exact ⟨rfl, HB12.out⟩
end Go.Proofs.YtjgceppbhmmbjaaDoor.Bk
end
