/-
  Texts put together (merge.py): PWr.
-/
import Derived.Test.YtfkhehkfeibdpaaGreatDoorMc30
import Derived.Test.YtfkhehkfeibdpaaGreatDoorMc31
/-
  What the writer's add does, as a contract: where the text does not grow too long.
-/
section
set_option linter.unusedSimpArgs false
set_option linter.unusedVariables false
set_option maxRecDepth 100000
namespace Go.Proofs.YtfkhehkfeibdpaaGreatDoor.Pl
open Go.RowKit
open Wo (Wd WdsAt box_cell box_two keepB heap_far)

theorem w64 (n : Int) (h0 : -9223372036854775808 ≤ n) (h1 : n ≤ 9223372036854775807) : wrap64 n = n := by unfold wrap64; omega
abbrev strs (ts : List Tx) : List Value := ts.map fun t => .string (mk t)
/-- The writer in its box: the words, and how many bytes they take with a blank behind each. -/
def WrAt (q : Nat) (ws : List Tx) (w : World) : Prop := ∃ v, w.heap[q]? = some (.cells #[v, .int .i64 (szW ws : Nat)] 49 (0, 0)) ∧ w.ownsRow (q + 1) 9 1 v ws.length (strs ws)
/-- What the writer leaves as it was. -/
def KeptW (q : Nat) (w w' : World) : Prop := Below q w w' ∧ w.heap.size ≤ w'.heap.size ∧ ∀ (k : Nat) (cs : Array Value) (T : TypeId), q < k → T ≠ 9 → w.heap[k]? = some (.cells cs T (0, 0)) → w'.heap[k]? = some (.cells cs T (0, 0))
theorem KeptW.refl (q : Nat) (w : World) : KeptW q w w := ⟨Below.refl _ _, Nat.le_refl _, fun _ _ _ _ _ h => h⟩
theorem KeptW.trans {q : Nat} {a b c : World} (h : KeptW q a b) (k : KeptW q b c) : KeptW q a c := ⟨h.1.trans k.1, Nat.le_trans h.2.1 k.2.1, fun i cs T hi hT hh => k.2.2 i cs T hi hT (h.2.2 i cs T hi hT hh)⟩
theorem KeptW.of {q : Nat} {w w' : World} (hb : Below w.heap.size w w') (hq : q < w.heap.size) : KeptW q w w' := ⟨hb.mono (Nat.le_of_lt hq), hb.size, fun i cs T _ _ hh => keepB hh hb⟩
theorem WrAt.lt {q : Nat} {ws : List Tx} {w : World} (h : WrAt q ws w) : q < w.heap.size := by obtain ⟨v, h, -⟩ := h; exact (Array.getElem?_eq_some_iff.1 h).1
theorem WrAt.grw {q : Nat} {ws : List Tx} {w w' : World} (h : WrAt q ws w) (hb : Below w.heap.size w w') : WrAt q ws w' := by
  obtain ⟨v, h1, h2⟩ := h
  exact ⟨v, keepB h1 hb, h2.kept (grown_of (p := none) hb) (by cases v.ownBlock <;> simp)⟩
theorem infoT : ∃ i, Tryz.prog.info? 9 = some i ∧ i.zero = some (.string ByteArray.empty) ∧ i.size = 1 ∧ i.bytes = 16 := by
  have hi : (Tryz.prog.info? 9).map (fun i => (i.zero, i.size, i.bytes)) = some (some (.string ByteArray.empty), 1, 16) := by kernel_rfl
  cases hq : Tryz.prog.info? 9 with
  | none => rw [hq] at hi; cases hi
  | some i =>
    rw [hq] at hi
    simp only [Option.map_some, Option.some.injEq, Prod.mk.injEq] at hi
    exact ⟨i, rfl, hi⟩
theorem sz_len (ws : List Tx) : ws.length ≤ szW ws := by
  induction ws with
  | nil => simp [szW]
  | cons x r ih => rw [sz_cons, List.length_cons]; omega
theorem sz_take (ts : List Tx) (n : Nat) (t : Tx) (h : ts[n]? = some t) : szW (ts.take (n + 1)) = szW (ts.take n) + (t.length + 1) := by
  rw [List.take_add_one, h, sz_app]; rfl
theorem sz_take_le (ts : List Tx) (n : Nat) : szW (ts.take n) ≤ szW ts := by
  conv => rhs; rw [← List.take_append_drop n ts, sz_app]
  omega
set_option maxHeartbeats 16000000 in
theorem add_any (q : Nat) (ws ts : List Tx) (tv : Value) (w : World) (h : WrAt q ws w) (ht : TxAt (fun b => b ≠ q) w tv ts) (hne : ts ≠ []) (hsz : szW ws + szW ts ≤ 65537) :
    Calls Tryz.prog 36 #[.pointer (some ⟨q, 0, none⟩), tv] w fun e w' => e = .returned (.tuple #[]) ∧ WrAt q (ws ++ ts) w' ∧ KeptW q w w' := by
  have hq := h.lt
  obtain ⟨lv, hbq, hown⟩ := h
  obtain ⟨iT, j1, j2, j3, j4⟩ := infoT
  obtain ⟨la, lc, rfl, hl1, hl2⟩ := own_form hown
  have hpos : 0 < ts.length := List.length_pos_iff.2 hne
  have HT := Lib.hid ht
  obtain ⟨ta, tc, rfl, ht1, ht2, -⟩ := ht
  unfold maxLen at ht2
  have HW := Lib.hid hown
  have HQ := Lib.hid hbq
  have hwl := sz_len ws
  have htl := sz_len ts
  have HG0 := Lib.hid (grown_of (p := some q) (Below.refl w.heap.size w))
  have HN := Lib.hid hne
  clear hbq hown hne
  go_enter Tryz.func36, Tryz.ntmps36
  go_wp2
  go_loopg [8] (ts.length) (fun g i wr => ∃ n : Nat, n ≤ ts.length ∧ g = ts.length - n ∧ i = .int .i64 n ∧ Hid (wr.heap[q]? = some (.cells #[.slice la ws.length lc, .int .i64 (szW ws + szW (ts.take n) : Nat)] 49 (0, 0))) ∧ Hid (w.grownBy wr (some q)))
  case atStart => exact ⟨0, Nat.zero_le _, rfl, rfl, HQ.out, HG0.out⟩
  case round =>
    clear HG0 HQ
    obtain ⟨n, hn, hgk, rfl, HQr, HGr⟩ := hrel
    obtain ⟨c0, c1, f0, f1⟩ := box_two HQr.out
    by_cases hlt : n < ts.length
    · obtain ⟨b, o, rfl, hx, hu⟩ : ∃ b o, ta = some ⟨b, o, none⟩ ∧ ts[n]? = some ts[n] ∧ wr.cell? ⟨b, o + n, none⟩ = some (.string (mk ts[n])) := by
        obtain ⟨a', c', he, _, _, h3⟩ := TxAt.rd HT.out HGr.out
        injection he with e1 e2 e3
        subst e1
        rcases h3 with h | ⟨b, o, ha, _, hb, hc⟩
        · exact absurd h HN.out
        · have hx := List.getElem?_eq_getElem hlt
          obtain ⟨u, q1, rfl⟩ := hc n _ hx
          exact ⟨b, o, ha, hx, q1⟩
      have hst := sz_take ts n _ hx
      have hsl := sz_take_le ts (n + 1)
      have hms := mk_size ts[n]
      have HST := Lib.hid hst
      clear hx
      generalize ts[n] = t at *
      generalize hye : szW (ts.take n) = y at *
      generalize hxe : szW ws = x at *
      have HV : Hid (((x + szW (ts.take (n + 1)) : Nat) : Int) = wrap64 ((x : Int) + (y : Int) + wrap64 ((t.length : Int) + 1))) := by
        show _ = _
        rw [HST.out, w64 ((t.length : Int) + 1) (by omega) (by omega), w64 _ (by omega) (by omega)]
        omega
      have HQ2 := Lib.hid (heap_setCell_same wr q 1 _ _ (.int .i64 (wrap64 ((x : Int) + (y : Int) + wrap64 ((t.length : Int) + 1)))) HQr.out)
      have HG2 := Lib.hid (grown_set HGr.out 1 (.int .i64 (wrap64 ((x : Int) + (y : Int) + wrap64 ((t.length : Int) + 1)))))
      clear hst HQr hye hxe HST hsl
      go_wp2
      go_roundg (ts.length - (n + 1))
      case rel => exact ⟨n + 1, by omega, rfl, by go_num, by rw [HV.out]; exact HQ2.out, HG2.out⟩
      case measure => omega
    · have hall : ts.take n = ts := List.take_of_length_le (by omega)
      rw [hall] at HQr c1
      clear hall
      have hrow := TxAt.rd HT.out HGr.out
      obtain ⟨b, o, rfl, HNw⟩ : ∃ b o, ta = some ⟨b, o, none⟩ ∧ Hid (∀ (j : Nat) u, (strs ts)[j]? = some u → wr.cell? ((⟨b, o, none⟩ : Addr).add j) = some u) := by
        obtain ⟨a', c', he, _, _, h3⟩ := hrow
        injection he with e1 e2 e3
        subst e1
        rcases h3 with h | ⟨b, o, ha, _, hb, hc⟩
        · exact absurd h HN.out
        · refine ⟨b, o, ha, fun j u hu => ?_⟩
          rw [List.getElem?_map] at hu
          cases hj : ts[j]? with
          | none => rw [hj] at hu; cases hu
          | some t =>
            rw [hj] at hu
            obtain rfl := Option.some.inj hu
            obtain ⟨u, q1, rfl⟩ := hc j _ hj
            have ea : (⟨b, o, none⟩ : Addr).add j = ⟨b, o + j, none⟩ := by unfold Addr.add; split <;> simp_all
            rw [ea]; exact q1
      have HO := Lib.hid (own_rd HW.out HGr.out (Nat.lt_succ_self q))
      have HON : Hid (∀ z ∈ strs ts, z.oneCell' = true) := fun z hz => by obtain ⟨t, _, rfl⟩ := List.mem_map.1 hz; rfl
      have HLN : Hid (ws.length + ts.length ≤ maxLen) := by show _ ≤ _; simp only [maxLen]; omega
      have HLB : Hid ((ws.length + ts.length) * 16 ≤ 140737488355328) := by show _ ≤ _; omega
      have HLL : Hid ((strs ts).length = ts.length * 1) := by show _ = _; simp
      have hsub : wrap64 (((szW ws + szW ts : Nat) : Int) - 1) = ((szW ws + szW ts : Nat) : Int) - 1 := w64 _ (by omega) (by omega)
      have hns : ¬ (65536 : Int) < ((szW ws + szW ts : Nat) : Int) - 1 := by omega
      have hgs := HGr.out.size
      clear hrow HT
      generalize hxy : szW ws + szW ts = xy at *
      go_wp2_with (at_builtin; refine wpList_append_own_at _ (by rfl) _ _ 47 (by rfl) (q + 1) 9 iT (.string ByteArray.empty) 1 16 Tryz.underlying47 j1 j2 j3 j4 (by rfl) (by omega) (.slice la ws.length lc) ws.length (strs ws) (by rfl) HO.out ⟨b, o, none⟩ ts.length tc (strs ts) (by rfl) HLL.out HNw.out HON.out HLN.out HLB.out (by omega) ?_)
      intro v6 w6 hown6 hgrow hnil hat
      obtain ⟨sa2, sc2, rfl, -, -⟩ := own_form hown6
      have hrow : ∀ k, (Value.slice la ws.length lc).ownBlock = some k → q < k := fun k hk => (HO.out.lt k hk).1
      have hq6 : w6.heap[q]? = some (.cells #[.slice la ws.length lc, .int .i64 (xy : Nat)] 49 (0, 0)) := by
        rw [hgrow.block q (Nat.lt_of_lt_of_le hq hgs) (fun e => Nat.lt_irrefl _ (hrow q e.symm))]; exact HQr.out
      obtain ⟨s0, s1, s2, s3⟩ := box_two hq6
      have HF : Hid (WrAt q (ws ++ ts) (w6.setCell ⟨q, 0, none⟩ (.slice sa2 (ws.length + ts.length) sc2)) ∧ KeptW q w (w6.setCell ⟨q, 0, none⟩ (.slice sa2 (ws.length + ts.length) sc2))) := by
        have hs6 := hgrow.size
        have hset : w6.grownBy (w6.setCell ⟨q, 0, none⟩ (.slice sa2 (ws.length + ts.length) sc2)) (some q) := grown_set (grown_of (Below.refl _ w6)) 0 _
        refine ⟨⟨.slice sa2 (ws.length + ts.length) sc2, ?_, ?_⟩, ⟨?_, ?_, ?_⟩⟩
        · rw [sz_app, hxy]
          exact heap_setCell_same w6 q 0 _ _ _ hq6
        · have hk := hown6.kept hset (by
            cases hv : (Value.slice sa2 (ws.length + ts.length) sc2).ownBlock with
            | none => exact Or.inl rfl
            | some k => exact Or.inr fun e => by have := (hown6.lt k hv).1; have : k = q := Option.some.inj e; omega)
          have e1 : strs (ws ++ ts) = strs ws ++ strs ts := by simp [strs]
          rw [e1, List.length_append]
          exact hk
        · refine ((Below.refl q w).trans ⟨HGr.out.os, HGr.out.tape, HGr.out.output, HGr.out.size, fun k hk => HGr.out.block k (by omega) (fun e => by have := Option.some.inj e; omega)⟩).trans ?_
          exact (⟨hgrow.os, hgrow.tape, hgrow.output, hgrow.size, fun k hk => hgrow.block k (by omega) (fun e => by have := hrow k e.symm; omega)⟩ : Below q wr w6).setCell (p := ⟨q, 0, none⟩) (Nat.le_refl _) _
        · have : (w6.setCell ⟨q, 0, none⟩ (.slice sa2 (ws.length + ts.length) sc2)).heap.size = w6.heap.size := by simp [World.setCell]
          omega
        · intro k cs T hk hT hh
          have h1 : wr.heap[k]? = some (.cells cs T (0, 0)) := grown_heap hh HGr.out (by omega)
          have h2 : w6.heap[k]? = some (.cells cs T (0, 0)) := Wo.kept_other h1 HO.out hT hgrow
          exact heap_far h2 (by omega)
      clear hown6 hgrow hnil hat hq6 hrow
      go_wp2
      go_end0
      exact ⟨rfl, HF.out.1, HF.out.2⟩
end Go.Proofs.YtfkhehkfeibdpaaGreatDoor.Pl
end
