/-
  Texts put together (merge.py): QMath, CMath, CSumMath, DMath, LMath, HMath, BMath, VMath, MMath, QSpec, QMem, DDate, LMem, BOts.
-/
import Derived.Lib.Join
import Derived.Lib.Strings
import Derived.Lib.SplitLaws
import Derived.Below
import Derived.Laws.AppendOwn
import Derived.Deep.AppendLies
import Derived.Maps.AppendAt
import Derived.WalkKit
import Derived.Lib.Hide
import Derived.BigQuiet
import Derived.Deep.LoopGhost
import Derived.Deep.RegionHeld3
import Derived.WalkLawsBesides
import Derived.Deep.RegionLaw
import Derived.Lib.Builder
import Derived.Handy
import Derived.Lib.SliceRun
import Derived.Test.YtpfpjbeofogbgaaProg
set_option linter.unusedSimpArgs false
set_option linter.unusedVariables false
section
namespace Go.Proofs.Ytpfpjbeofogbgaa
abbrev Tx := List UInt8
abbrev Sg := List (List Tx)
def mk (l : Tx) : ByteArray := ⟨l.toArray⟩
theorem mk_list (l : Tx) : (mk l).data.toList = l := by simp [mk]
theorem mk_of (s : ByteArray) : mk s.data.toList = s := Lib.mk_data s
theorem mk_size (l : Tx) : (mk l).size = l.length := by rw [Lib.size_eq, mk_list]
def signB (c : UInt8) : Bool := decide (33 ≤ c.toNat) && decide (c.toNat ≤ 126) && !(decide (c.toNat = 45)) && !(decide (c.toNat = 46)) && !(decide (48 ≤ c.toNat) && decide (c.toNat ≤ 57)) && !(decide (65 ≤ c.toNat) && decide (c.toNat ≤ 90)) && !(decide (97 ≤ c.toNat) && decide (c.toNat ≤ 122))
end Go.Proofs.Ytpfpjbeofogbgaa
end
section
namespace Go.Proofs.Ytpfpjbeofogbgaa.Ce
def good (a : Int) : Bool := decide (0 ≤ a) && decide (a ≤ 10000000000000)
theorem good_iff (a : Int) : good a = true ↔ 0 ≤ a ∧ a ≤ 10000000000000 := by
 unfold good; simp
theorem good_not (a : Int) : good a = false ↔ a < 0 ∨ 10000000000000 < a := by
 have h := good_iff a
 cases g : good a
 ·simp only [true_iff]
  rw [g] at h
  simp at h
  omega
 ·rw [g] at h
  simp at h
  simp
  omega
def scaleV (a n d : Int) : Int := if good a = true ∧ 0 ≤ n ∧ 1 ≤ d ∧ good (a * n / d) = true then a * n / d else 0
def partV (a p : Int) : Int := if 0 ≤ p ∧ p ≤ 10000 then scaleV a p 10000 else 0
end Go.Proofs.Ytpfpjbeofogbgaa.Ce
end
section
namespace Go.Proofs.Ytpfpjbeofogbgaa.Ce
def allG (f : Nat → Int) : Nat → Bool
 | 0 => true
 | n + 1 => allG f n && good (f n)
def tot (f : Nat → Int) : Nat → Int
 | 0 => 0
 | n + 1 => tot f n + f n
def sumV (f : Nat → Int) (n : Nat) : Int := if allG f n = true ∧ tot f n ≤ 10000000000000 then tot f n else 0
def sumE (f : Nat → Int) (n : Nat) : Int := if allG f n = true then (if tot f n ≤ 10000000000000 then 0 else 2) else 1
theorem sum_end (f : Nat → Int) (n : Nat) (g : allG f n = true) (h : tot f n ≤ 10000000000000) : sumV f n = tot f n ∧ sumE f n = 0 := by
 constructor
 ·unfold sumV; rw [if_pos ⟨g, h⟩]
 ·unfold sumE; rw [if_pos g, if_pos h]
end Go.Proofs.Ytpfpjbeofogbgaa.Ce
end
section
namespace Go.Proofs.Ytpfpjbeofogbgaa.Da
def leapB (y : Int) : Bool := (y % 4 == 0 && y % 100 != 0) || y % 400 == 0
def lens : List Int := [31, 28, 31, 30, 31, 30, 31, 31, 30, 31, 30, 31]
def lenT (m : Int) : Int := lens.getD (m - 1).toNat 0
def lenM (y m : Int) : Int := if (m == 2 && leapB y) = true then 29 else lenT m
def yr (n : Int) : Int := n.tdiv 10000
def mo (n : Int) : Int := (n.tdiv 100).tmod 100
def da (n : Int) : Int := n.tmod 100
def good (n : Int) : Bool := decide (1 ≤ yr n ∧ yr n ≤ 9999 ∧ 1 ≤ mo n ∧ mo n ≤ 12 ∧ 1 ≤ da n ∧ da n ≤ lenM (yr n) (mo n))
theorem yr_eq (n : Int) (h : 0 ≤ n) : yr n = n / 10000 := by unfold yr; exact Int.tdiv_eq_ediv_of_nonneg h
theorem mo_eq (n : Int) (h : 0 ≤ n) : mo n = n / 100 % 100 := by unfold mo; rw [Int.tdiv_eq_ediv_of_nonneg h, Int.tmod_eq_emod_of_nonneg (by omega)]
theorem da_eq (n : Int) (h : 0 ≤ n) : da n = n % 100 := by unfold da; exact Int.tmod_eq_emod_of_nonneg h
theorem good_iff (n : Int) : good n = true ↔ (1 ≤ yr n ∧ yr n ≤ 9999 ∧ 1 ≤ mo n ∧ mo n ≤ 12 ∧ 1 ≤ da n ∧ da n ≤ lenM (yr n) (mo n)) := by simp [good]
theorem parts (n : Int) (h : 0 ≤ n) : n = yr n * 10000 + mo n * 100 + da n ∧ 0 ≤ mo n ∧ mo n ≤ 99 ∧ 0 ≤ da n ∧ da n ≤ 99 ∧ 0 ≤ yr n := by
 rw [yr_eq n h, mo_eq n h, da_eq n h]; omega
def nxt (n : Int) : Int := if da n < lenM (yr n) (mo n) then n + 1 else if mo n < 12 then yr n * 10000 + (mo n + 1) * 100 + 1 else (yr n + 1) * 10000 + 1 * 100 + 1
def stepN : Nat → Int
 | 0 => 10101
 | k + 1 => nxt (stepN k)
def ofV (d : Int) : Int := if 0 ≤ d ∧ d < 3652059 then stepN d.toNat else 0
def ofE (d : Int) : Int := if 0 ≤ d ∧ d < 3652059 then 0 else 3
theorem of_in (d : Int) (h0 : 0 ≤ d) (h1 : d < 3652059) : ofE d = 0 := by simp [ofE, h0, h1]
end Go.Proofs.Ytpfpjbeofogbgaa.Da
end
section
namespace Go.Proofs.Ytpfpjbeofogbgaa.Cm
structure Ln where
 proc : Tx
 mods : List Tx
 date : Int
 units : Int
 billed : Int
 prior : Int
structure Cl where
 id : Tx
 mem : Tx
 fam : Tx
 net : Int
 does : Int
 ref : Tx
 lines : List Ln
def ln0 : Ln := ⟨[], [], 0, 0, 0, 0⟩
def cl0 : Cl := ⟨[], [], [], 0, 0, [], []⟩
def I64 (n : Int) : Prop := -9223372036854775808 ≤ n ∧ n ≤ 9223372036854775807
def LnOk (x : Ln) : Prop := I64 x.date ∧ I64 x.units ∧ I64 x.billed ∧ I64 x.prior ∧ x.proc.length ≤ 281474976710656 ∧ x.mods.length ≤ 281474976710656 ∧ ∀ t ∈ x.mods, t.length ≤ 281474976710656
def ClOk (c : Cl) : Prop := I64 c.net ∧ I64 c.does ∧ c.id.length ≤ 281474976710656 ∧ c.mem.length ≤ 281474976710656 ∧ c.fam.length ≤ 281474976710656 ∧ c.ref.length ≤ 281474976710656 ∧ c.lines.length ≤ 281474976710656 ∧ ∀ x ∈ c.lines, LnOk x
def signB (c : UInt8) : Bool := (decide (65 ≤ c.toNat) && decide (c.toNat ≤ 90)) || (decide (48 ≤ c.toNat) && decide (c.toNat ≤ 57))
def codeB (s : Tx) (f t : Int) : Bool := decide (f ≤ (s.length : Int)) && decide ((s.length : Int) ≤ t) && s.all signB
def modsB (l : List Tx) : Bool := decide (l.length ≤ 4) && l.all fun x => codeB x 2 2
def codesB (l : Ln) : Bool := codeB l.proc 5 5 && modsB l.mods
def unitsB (n : Int) : Bool := decide (1 ≤ n) && decide (n ≤ 9999)
def moneyB (l : Ln) : Bool := Ce.good l.billed && Ce.good l.prior && decide (l.prior ≤ l.billed)
def lineE (l : Ln) : Int := if codesB l = true then (if Da.good l.date = true then (if unitsB l.units = true then (if moneyB l = true then 0 else 8) else 3) else 7) else 9
def bil (ls : List Ln) (i : Nat) : Int := (ls.getD i ln0).billed
def totE (ls : List Ln) : Int := if Ce.sumE (bil ls) ls.length = 0 then 0 else 8
def firstE (y : Int) : List Ln → Int
 | [] => 0
 | x :: r => if lineE x = 0 then (if Da.yr x.date = y then firstE y r else 7) else lineE x
def linesE (ls : List Ln) : Int := firstE (Da.yr (ls.getD 0 ln0).date) ls
def namesB (c : Cl) : Bool := codeB c.id 1 12 && (codeB c.mem 1 12 && codeB c.fam 1 12)
def netB (n : Int) : Bool := decide (n = 0) || decide (n = 1)
def refB (c : Cl) : Bool := if c.does = 1 then decide (c.ref = []) else codeB c.ref 1 12
def doesB (n : Int) : Bool := decide (n = 1) || (decide (n = 7) || decide (n = 8))
def headE (c : Cl) : Int := if namesB c = true then (if netB c.net = true then (if refB c = true then (if doesB c.does = true then 0 else 3) else 9) else 3) else 9
def voidB (c : Cl) : Bool := (decide (c.does = 8) == decide (c.lines.length = 0))
def restE (c : Cl) : Int := if c.lines.length ≤ 999 then (if voidB c = true then (if linesE c.lines = 0 then totE c.lines else linesE c.lines) else 6) else 10
def checkE (c : Cl) : Int := if headE c = 0 then restE c else headE c
end Go.Proofs.Ytpfpjbeofogbgaa.Cm
end
section
namespace Go.Proofs.Ytpfpjbeofogbgaa.Sh
def least (a b : Int) : Int := if b < a then b else a
def d0 (al : Int) (dd : Bool) (de net : Int) : Int := if dd = true ∧ net = 0 then least de al else 0
def c0 (al : Int) (dd : Bool) (cp de net : Int) : Int := least cp (al - d0 al dd de net)
def k0 (al : Int) (dd : Bool) (cp cn de net : Int) : Int := Ce.partV (al - d0 al dd de net - c0 al dd cp de net) cn
structure Ot where
 al : Int
 de : Int
 cp : Int
 cn : Int
 plan : Int
 wr : Int
 pr : Int
 deny : Int
def member (o : Ot) : Int := o.de + o.cp + o.cn
def rest (al pr : Int) : Int := if pr < al then al - pr else 0
end Go.Proofs.Ytpfpjbeofogbgaa.Sh
end
section
namespace Go.Proofs.Ytpfpjbeofogbgaa.Bk
open Cm (Cl cl0)
open Sh (Ot)
structure En where
 cl : Cl
 tb : Int
 st : Int
 outs : List Ot
def en0 : En := ⟨cl0, 0, 0, []⟩
def find : List En → Tx → Option Nat
 | [], _ => none
 | e :: l, id => if e.cl.id = id then some 0 else (find l id).map (· + 1)
theorem find_none : ∀ (l : List En) (id : Tx), find l id = none ↔ ∀ e ∈ l, e.cl.id ≠ id
 | [], id => by simp [find]
 | e :: l, id => by
  unfold find
  by_cases h : e.cl.id = id
  ·rw [if_pos h]; simp [h]
  ·rw [if_neg h]
   simp only [Option.map_eq_none_iff, find_none l id, List.mem_cons, forall_eq_or_imp]
   exact ⟨fun k => ⟨h, k⟩, fun k => k.2⟩
end Go.Proofs.Ytpfpjbeofogbgaa.Bk
end
section
namespace Go.Proofs.Ytpfpjbeofogbgaa.Sv
open Cm (Ln Cl codeB)
open Sh (Ot member)
structure Ca where
 grp : Tx
 why : Int
 ct : Int
structure Sr where
 proc : Tx
 bi : Int
 paid : Int
 cas : List Ca
structure Cp where
 id : Tx
 st : Int
 bi : Int
 paid : Int
 mem : Int
 svs : List Sr
def cp0 : Cp := ⟨[], 0, 0, 0, 0, []⟩
def gCO : Tx := [67, 79]
def gPR : Tx := [80, 82]
def gOA : Tx := [79, 65]
def okM (st n : Int) : Bool := if st = 1 then Ce.good n else decide (n ≤ 0) && decide (-10000000000000 ≤ n)
def casE (st : Int) (c : Ca) : Int :=
 if c.grp = gCO ∨ c.grp = gPR ∨ c.grp = gOA then (if 1 ≤ c.why ∧ c.why ≤ 999 then (if c.ct ≠ 0 ∧ okM st c.ct = true then 0 else 8) else 9) else 9
def casesE (st : Int) : List Ca → Int
 | [] => 0
 | c :: l => if casE st c = 0 then casesE st l else casE st c
def sumC : List Ca → Int
 | [] => 0
 | c :: l => c.ct + sumC l
def sumP : List Ca → Int
 | [] => 0
 | c :: l => (if c.grp = gPR then c.ct else 0) + sumP l
def svcE (st : Int) (s : Sr) : Int :=
 if codeB s.proc 5 5 = true then (if s.cas.length ≤ 5 then (if okM st s.bi = true ∧ okM st s.paid = true then (if casesE st s.cas = 0 then (if s.paid + sumC s.cas = s.bi then 0 else 17) else casesE st s.cas) else 8) else 6) else 9
def svcsE (st : Int) : List Sr → Int
 | [] => 0
 | s :: l => if svcE st s = 0 then svcsE st l else svcE st s
def totB : List Sr → Int
 | [] => 0
 | s :: l => s.bi + totB l
def totP : List Sr → Int
 | [] => 0
 | s :: l => s.paid + totP l
def totM : List Sr → Int
 | [] => 0
 | s :: l => sumP s.cas + totM l
def totC : List Sr → Int
 | [] => 0
 | s :: l => sumC s.cas + totC l
def checkE (x : Cp) : Int :=
 if codeB x.id 1 12 = true ∧ (x.st = 1 ∨ x.st = 22) then (if 1 ≤ x.svs.length ∧ x.svs.length ≤ 999 then (if svcsE x.st x.svs = 0 then (if x.bi = totB x.svs ∧ x.paid = totP x.svs ∧ x.mem = totM x.svs ∧ okM x.st (totB x.svs) = true then 0 else 17) else svcsE x.st x.svs) else 6) else 9
theorem cas_ok {st : Int} {c : Ca} (h : casE st c = 0) : (c.grp = gCO ∨ c.grp = gPR ∨ c.grp = gOA) ∧ (1 ≤ c.why ∧ c.why ≤ 999) ∧ c.ct ≠ 0 ∧ okM st c.ct = true := by
 unfold casE at h
 split at h
 ·split at h
  ·split at h
   ·next a b d => exact ⟨a, b, d.1, d.2⟩
   ·simp at h
  ·simp at h
 ·simp at h
theorem cas_of {st : Int} {c : Ca} (a : c.grp = gCO ∨ c.grp = gPR ∨ c.grp = gOA) (b : 1 ≤ c.why ∧ c.why ≤ 999) (d : c.ct ≠ 0) (e : okM st c.ct = true) : casE st c = 0 := by
 unfold casE; rw [if_pos a, if_pos b, if_pos ⟨d, e⟩]
theorem cases_iff (st : Int) : ∀ (l : List Ca), casesE st l = 0 ↔ ∀ c ∈ l, casE st c = 0
 | [] => by simp [casesE]
 | c :: l => by
  unfold casesE
  by_cases h : casE st c = 0
  ·rw [if_pos h, cases_iff st l]; simp [h]
  ·rw [if_neg h]; simp [h]
theorem svc_iff (st : Int) (s : Sr) : svcE st s = 0 ↔ codeB s.proc 5 5 = true ∧ s.cas.length ≤ 5 ∧ (okM st s.bi = true ∧ okM st s.paid = true) ∧ (∀ c ∈ s.cas, casE st c = 0) ∧ s.paid + sumC s.cas = s.bi := by
 rw [← cases_iff]
 unfold svcE
 constructor
 ·intro h
  split at h
  ·split at h
   ·split at h
    ·split at h
     ·split at h
      ·next a b c d e => exact ⟨a, b, c, d, e⟩
      ·simp at h
     ·next k => exact absurd h k
    ·simp at h
   ·simp at h
  ·simp at h
 ·rintro ⟨a, b, c, d, e⟩
  rw [if_pos a, if_pos b, if_pos c, if_pos d, if_pos e]
theorem svcs_iff (st : Int) : ∀ (l : List Sr), svcsE st l = 0 ↔ ∀ s ∈ l, svcE st s = 0
 | [] => by simp [svcsE]
 | s :: l => by
  unfold svcsE
  by_cases h : svcE st s = 0
  ·rw [if_pos h, svcs_iff st l]; simp [h]
  ·rw [if_neg h]; simp [h]
theorem check_iff (x : Cp) : checkE x = 0 ↔ (codeB x.id 1 12 = true ∧ (x.st = 1 ∨ x.st = 22)) ∧ (1 ≤ x.svs.length ∧ x.svs.length ≤ 999) ∧ (∀ s ∈ x.svs, svcE x.st s = 0) ∧ (x.bi = totB x.svs ∧ x.paid = totP x.svs ∧ x.mem = totM x.svs ∧ okM x.st (totB x.svs) = true) := by
 rw [← svcs_iff]
 unfold checkE
 constructor
 ·intro h
  split at h
  ·split at h
   ·split at h
    ·split at h
     ·next a b c d => exact ⟨a, b, c, d⟩
     ·simp at h
    ·next k => exact absurd h k
   ·simp at h
  ·simp at h
 ·rintro ⟨a, b, c, d⟩
  rw [if_pos a, if_pos b, if_pos c, if_pos d]
theorem tot_bal (st : Int) : ∀ (l : List Sr), (∀ s ∈ l, svcE st s = 0) → totB l = totP l + totC l
 | [], _ => rfl
 | s :: l, h => by
  have a := ((svc_iff st s).1 (h s (List.mem_cons_self ..))).2.2.2.2
  have b := tot_bal st l (fun x hx => h x (List.mem_cons_of_mem _ hx))
  simp only [totB, totP, totC]; omega
theorem ok_one (n : Int) : okM 1 n = true ↔ 0 ≤ n ∧ n ≤ 10000000000000 := by simp [okM, Ce.good_iff]
theorem ok_back (n : Int) : okM 22 n = true ↔ n ≤ 0 ∧ -10000000000000 ≤ n := by simp [okM]
def sgn (st : Int) : Int := if st = 1 then 1 else -1
theorem ok_sgn {st n : Int} (h : okM st n = true) : 0 ≤ sgn st * n := by
 unfold okM at h; unfold sgn
 split at h
 ·next e => rw [if_pos e]; have := (Ce.good_iff n).1 h; omega
 ·next e => rw [if_neg e]; simp at h; omega
theorem sumP_sgn (st : Int) : ∀ (l : List Ca), (∀ c ∈ l, casE st c = 0) → 0 ≤ sgn st * sumP l ∧ sgn st * sumP l ≤ sgn st * sumC l
 | [], _ => by simp [sumP, sumC]
 | c :: l, h => by
  have a := ok_sgn (cas_ok (h c (List.mem_cons_self ..))).2.2.2
  have b := sumP_sgn st l (fun x hx => h x (List.mem_cons_of_mem _ hx))
  simp only [sumP, sumC, Int.mul_add]
  split <;> omega
theorem tot_sgn (st : Int) : ∀ (l : List Sr), (∀ s ∈ l, svcE st s = 0) → 0 ≤ sgn st * totP l ∧ 0 ≤ sgn st * totM l ∧ 0 ≤ sgn st * totB l
 | [], _ => by simp [totP, totM, totB]
 | s :: l, h => by
  have a := (svc_iff st s).1 (h s (List.mem_cons_self ..))
  have b := tot_sgn st l (fun x hx => h x (List.mem_cons_of_mem _ hx))
  have p := ok_sgn a.2.2.1.1
  have q := ok_sgn a.2.2.1.2
  have m := sumP_sgn st s.cas a.2.2.2.1
  simp only [totP, totM, totB, Int.mul_add]
  omega
def casN (c : Ca) : Ca := ⟨c.grp, c.why, -c.ct⟩
def svcN (s : Sr) : Sr := ⟨s.proc, -s.bi, -s.paid, s.cas.map casN⟩
def back (x : Cp) : Cp := ⟨x.id, 22, -x.bi, -x.paid, -x.mem, x.svs.map svcN⟩
theorem ok_neg {n : Int} (h : okM 1 n = true) : okM 22 (-n) = true := by rw [ok_one] at h; rw [ok_back]; omega
theorem sumC_neg : ∀ (l : List Ca), sumC (l.map casN) = -sumC l
 | [] => rfl
 | c :: l => by simp only [List.map_cons, sumC, sumC_neg l, casN]; omega
theorem sumP_neg : ∀ (l : List Ca), sumP (l.map casN) = -sumP l
 | [] => rfl
 | c :: l => by
  simp only [List.map_cons, sumP, sumP_neg l, casN]
  split <;> omega
theorem tot_neg : ∀ (l : List Sr), totB (l.map svcN) = -totB l ∧ totP (l.map svcN) = -totP l ∧ totM (l.map svcN) = -totM l
 | [] => ⟨rfl, rfl, rfl⟩
 | s :: l => by
  have t := tot_neg l
  have p := sumP_neg s.cas
  simp only [List.map_cons, totB, totP, totM, t.1, t.2.1, t.2.2, svcN, p]
  omega
theorem svc_back {s : Sr} (h : svcE 1 s = 0) : svcE 22 (svcN s) = 0 := by
 obtain ⟨a, b, c, d, e⟩ := (svc_iff 1 s).1 h
 refine (svc_iff 22 _).2 ⟨a, by simpa [svcN] using b, ⟨ok_neg c.1, ok_neg c.2⟩, ?_, ?_⟩
 ·intro k hk
  obtain ⟨k', k1, rfl⟩ := List.mem_map.1 hk
  obtain ⟨p, q, r, t⟩ := cas_ok (d k' k1)
  exact cas_of p q (by simp only [casN]; omega) (ok_neg t)
 ·simp only [svcN, sumC_neg]; omega
theorem back_ok {x : Cp} (h : checkE x = 0) (hs : x.st = 1) : checkE (back x) = 0 := by
 obtain ⟨a, b, c, d1, d2, d3, d4⟩ := (check_iff x).1 h
 rw [hs] at c d4
 have t := tot_neg x.svs
 refine (check_iff _).2 ⟨⟨a.1, Or.inr rfl⟩, by simpa [back] using b, ?_, ?_⟩
 ·intro s h2
  obtain ⟨s', k1, rfl⟩ := List.mem_map.1 h2
  exact svc_back (c s' k1)
 ·simp only [back, t.1, t.2.1, t.2.2]
  exact ⟨by rw [d1], by rw [d2], by rw [d3], ok_neg d4⟩
def five (o : Ot) : List Ca := [⟨gCO, if o.deny = 0 then 45 else o.deny, o.wr⟩, ⟨gPR, 1, o.de⟩, ⟨gPR, 2, o.cn⟩, ⟨gPR, 3, o.cp⟩, ⟨gOA, 23, o.pr⟩]
def casV (o : Ot) : List Ca := (five o).filter fun c => decide (c.ct ≠ 0)
def oneV (l : Ln) (o : Ot) : Sr := ⟨l.proc, l.billed, o.plan, casV o⟩
def svsV : List Ln → List Ot → List Sr
 | l :: ls, o :: os => oneV l o :: svsV ls os
 | _, _ => []
def memV : List Ot → Int
 | [] => 0
 | o :: l => member o + memV l
def raw (c : Cl) (os : List Ot) : Cp := ⟨c.id, 1, totB (svsV c.lines os), totP (svsV c.lines os), memV os, svsV c.lines os⟩
def ofE (c : Cl) (os : List Ot) : Int := if os.length = c.lines.length then checkE (raw c os) else 1
def ofV (c : Cl) (os : List Ot) : Cp := if ofE c os = 0 then raw c os else cp0
theorem sumP_filter : ∀ (l : List Ca), sumP (l.filter fun c => decide (c.ct ≠ 0)) = sumP l
 | [] => rfl
 | c :: l => by
  by_cases h : c.ct = 0
  ·rw [List.filter_cons_of_neg (by simp [h]), sumP_filter l]; simp only [sumP]; split <;> omega
  ·rw [List.filter_cons_of_pos (by simp [h])]; simp only [sumP, sumP_filter l]
theorem cas_mem (o : Ot) : sumP (casV o) = member o := by
 unfold casV; rw [sumP_filter]
 have e1 : gCO ≠ gPR := by decide
 have e2 : gOA ≠ gPR := by decide
 simp only [five, sumP, member, if_neg e1, if_neg e2, if_true]; omega
theorem svs_len : ∀ (ls : List Ln) (os : List Ot), os.length = ls.length → (svsV ls os).length = ls.length
 | [], [], _ => rfl
 | [], o :: os, h => by simp at h
 | l :: ls, [], h => by simp at h
 | l :: ls, o :: os, h => by simp only [svsV, List.length_cons]; rw [svs_len ls os (by simpa using h)]
theorem mem_tot : ∀ (ls : List Ln) (os : List Ot), os.length = ls.length → totM (svsV ls os) = memV os
 | [], [], _ => rfl
 | [], o :: os, h => by simp at h
 | l :: ls, [], h => by simp at h
 | l :: ls, o :: os, h => by
  simp only [svsV, totM, memV, oneV, cas_mem]; rw [mem_tot ls os (by simpa using h)]
theorem tot_app : ∀ (a b : List Sr), totB (a ++ b) = totB a + totB b ∧ totP (a ++ b) = totP a + totP b ∧ totM (a ++ b) = totM a + totM b
 | [], b => by simp [totB, totP, totM]
 | s :: a, b => by
  have t := tot_app a b
  simp only [List.cons_append, totB, totP, totM, t.1, t.2.1, t.2.2]
  omega
end Go.Proofs.Ytpfpjbeofogbgaa.Sv
end
section
namespace Go.Proofs.Ytpfpjbeofogbgaa.Re
open Sv (Ca Sr Cp ofE ofV back)
open Bk (En)
open Sh (Ot)
def sameA : List Ca → List Ca → Bool
 | [], [] => true
 | a :: l, b :: m => (decide (a.grp = b.grp) && (decide (a.why = b.why) && decide (a.ct = b.ct))) && sameA l m
 | _, _ => false
def sameS : List Sr → List Sr → Bool
 | [], [] => true
 | a :: l, b :: m => (decide (a.proc = b.proc) && (decide (a.bi = b.bi) && (decide (a.paid = b.paid) && sameA a.cas b.cas))) && sameS l m
 | _, _ => false
def sameB (a b : Cp) : Bool := decide (a.id = b.id) && (decide (a.st = b.st) && (decide (a.bi = b.bi) && (decide (a.paid = b.paid) && (decide (a.mem = b.mem) && sameS a.svs b.svs))))
theorem sameA_iff : ∀ (a b : List Ca), sameA a b = true ↔ a = b
 | [], [] => by simp [sameA]
 | [], _ :: _ => by simp [sameA]
 | _ :: _, [] => by simp [sameA]
 | ⟨g, w, c⟩ :: l, ⟨g', w', c'⟩ :: m => by simp [sameA, sameA_iff l m, and_assoc]
theorem sameS_iff : ∀ (a b : List Sr), sameS a b = true ↔ a = b
 | [], [] => by simp [sameS]
 | [], _ :: _ => by simp [sameS]
 | _ :: _, [] => by simp [sameS]
 | ⟨p, b, d, c⟩ :: l, ⟨p', b', d', c'⟩ :: m => by simp [sameS, sameS_iff l m, sameA_iff, and_assoc]
theorem same_iff (a b : Cp) : sameB a b = true ↔ a = b := by
 obtain ⟨a1, a2, a3, a4, a5, a6⟩ := a
 obtain ⟨b1, b2, b3, b4, b5, b6⟩ := b
 simp [sameB, sameS_iff]
def findC : List Cp → Tx → Option Cp
 | [], _ => none
 | x :: l, id => if x.id = id then some x else findC l id
def without (l : List Cp) (id : Tx) : List Cp := l.filter fun x => decide (x.id ≠ id)
def hasB (l : List Cp) (id : Tx) : Bool := l.any fun x => decide (x.id = id)
def toldE : List Cp → List Cp → Int
 | _, [] => 0
 | seen, x :: l => if hasB seen x.id = true then 12 else (if x.st = 1 ∧ Sv.checkE x = 0 then toldE (seen ++ [x]) l else 1)
def nowV (y : En) : Cp := ofV y.cl y.outs
def entE (y : En) : Int := if y.st = 0 then ofE y.cl y.outs else 0
def backO : Option Cp → List Cp
 | none => []
 | some k => [back k]
def isB (k : Option Cp) (now : Cp) : Bool := match k with
 | none => false
 | some k => sameB k now
def entO (was : List Cp) (y : En) : List Cp :=
 if y.st = 0 then (if isB (findC was y.cl.id) (nowV y) = true then [] else backO (findC was y.cl.id) ++ [nowV y]) else backO (findC was y.cl.id)
def entN (y : En) : List Cp := if y.st = 0 then [nowV y] else []
def mkE : List Cp → List En → Int
 | was, [] => if was.length = 0 then 0 else 13
 | was, y :: l => if entE y = 0 then mkE (without was y.cl.id) l else entE y
def mkO : List Cp → List En → List Cp
 | _, [] => []
 | was, y :: l => entO was y ++ mkO (without was y.cl.id) l
def mkN : List En → List Cp
 | [] => []
 | y :: l => entN y ++ mkN l
def sum : List Cp → Int
 | [] => 0
 | x :: l => x.paid + sum l
def makeE (n : Int) (last : List Cp) (l : List En) (held : Int) : Int :=
 if (0 ≤ n ∧ n ≤ 999999999) ∧ 0 ≤ held ∧ held ≤ 1152921504606846976 then (if toldE [] last = 0 then mkE last l else toldE [] last) else 1
def heldV (s held : Int) : Int := if s < held then s else held
def paidV (s held : Int) : Int := s - heldV s held
def restV (s held : Int) : Int := held - heldV s held
def ids (l : List Cp) : List Tx := l.map fun x => x.id
theorem has_iff (l : List Cp) (id : Tx) : hasB l id = true ↔ id ∈ ids l := by simp [hasB, ids]
theorem told_iff : ∀ (l seen : List Cp), (ids seen).Nodup → (toldE seen l = 0 ↔ (ids (seen ++ l)).Nodup ∧ ∀ x ∈ l, x.st = 1 ∧ Sv.checkE x = 0)
 | [], seen, h => by simp [toldE, h]
 | x :: l, seen, h => by
  unfold toldE
  by_cases h1 : hasB seen x.id = true
  ·rw [if_pos h1]
   have h2 := (has_iff seen x.id).1 h1
   refine ⟨fun e => by simp at e, fun e => ?_⟩
   have e1 := e.1
   simp only [ids, List.map_append, List.map_cons, List.nodup_append] at e1
   exact absurd rfl (e1.2.2 x.id h2 x.id (List.mem_cons_self ..))
  ·rw [if_neg h1]
   have h2 : x.id ∉ ids seen := fun e => h1 ((has_iff seen x.id).2 e)
   have h3 : (ids (seen ++ [x])).Nodup := by
    simp only [ids, List.map_append, List.map_cons, List.map_nil, List.nodup_append]
    refine ⟨h, by simp, ?_⟩
    intro a ha b hb
    simp at hb; subst hb
    intro e; subst e; exact h2 ha
   by_cases h4 : x.st = 1 ∧ Sv.checkE x = 0
   ·rw [if_pos h4, told_iff l (seen ++ [x]) h3]
    simp only [List.append_assoc, List.cons_append, List.nil_append, List.mem_cons, forall_eq_or_imp]
    exact ⟨fun e => ⟨e.1, h4, e.2⟩, fun e => ⟨e.1, e.2.2⟩⟩
   ·rw [if_neg h4]
    refine ⟨fun e => by simp at e, fun e => absurd (e.2 x (List.mem_cons_self ..)) h4⟩
theorem told_ok {l : List Cp} : toldE [] l = 0 ↔ (ids l).Nodup ∧ ∀ x ∈ l, x.st = 1 ∧ Sv.checkE x = 0 := told_iff l [] (by simp [ids])
theorem mk_cons {was : List Cp} {y : En} {l : List En} (h : mkE was (y :: l) = 0) : entE y = 0 ∧ mkE (without was y.cl.id) l = 0 := by
 unfold mkE at h
 by_cases h1 : entE y = 0
 ·rw [if_pos h1] at h; exact ⟨h1, h⟩
 ·rw [if_neg h1] at h; exact absurd h h1
theorem find_in : ∀ (l : List Cp) (id : Tx) (k : Cp), findC l id = some k → k ∈ l ∧ k.id = id
 | [], id, k, h => by simp [findC] at h
 | x :: l, id, k, h => by
  unfold findC at h
  by_cases h1 : x.id = id
  ·rw [if_pos h1] at h; simp at h; subst h; exact ⟨List.mem_cons_self .., h1⟩
  ·rw [if_neg h1] at h
   have := find_in l id k h
   exact ⟨List.mem_cons_of_mem _ this.1, this.2⟩
theorem find_none : ∀ (l : List Cp) (id : Tx), id ∉ ids l → findC l id = none
 | [], _, _ => rfl
 | x :: l, id, h => by
  unfold findC
  simp only [ids, List.map_cons, List.mem_cons, not_or] at h
  rw [if_neg (Ne.symm h.1), find_none l id h.2]
theorem without_none : ∀ (l : List Cp) (id : Tx), id ∉ ids l → without l id = l := by
 intro l id h
 unfold without
 rw [List.filter_eq_self]
 intro x hx
 have : x.id ≠ id := fun e => h (List.mem_map.2 ⟨x, hx, e⟩)
 simp [this]
theorem without_ids (l : List Cp) (id : Tx) (h : (ids l).Nodup) : (ids (without l id)).Nodup := by
 unfold ids without at *
 exact h.sublist (List.filter_sublist.map _)
theorem without_mem {l : List Cp} {id : Tx} {x : Cp} (h : x ∈ without l id) : x ∈ l := (List.mem_filter.1 h).1
theorem now_ok {y : En} (h : ofE y.cl y.outs = 0) : (nowV y).st = 1 ∧ Sv.checkE (nowV y) = 0 := by
 unfold nowV ofV; rw [if_pos h]
 unfold ofE at h
 split at h
 ·exact ⟨rfl, h⟩
 ·simp at h
theorem mk_checks : ∀ (l : List En) (was : List Cp), (∀ x ∈ was, x.st = 1 ∧ Sv.checkE x = 0) → mkE was l = 0 → ∀ x ∈ mkO was l, Sv.checkE x = 0
 | [], _, _, _, x, hx => by simp [mkO] at hx
 | y :: l, was, hw, h, x, hx => by
  have k := mk_cons h
  simp only [mkO] at hx
  rcases List.mem_append.1 hx with hx | hx
  ·have hb : ∀ x ∈ backO (findC was y.cl.id), Sv.checkE x = 0 := by
    intro x hx
    cases hf : findC was y.cl.id with
    | none => rw [hf] at hx; simp [backO] at hx
    | some c =>
     rw [hf] at hx; simp [backO] at hx; subst hx
     have := hw c (find_in was _ c hf).1
     exact Sv.back_ok this.2 this.1
   unfold entO at hx
   by_cases hs : y.st = 0
   ·have ho : ofE y.cl y.outs = 0 := by have := k.1; unfold entE at this; rw [if_pos hs] at this; exact this
    rw [if_pos hs] at hx
    split at hx
    ·simp at hx
    ·rcases List.mem_append.1 hx with hx | hx
     ·exact hb x hx
     ·simp at hx; subst hx; exact (now_ok ho).2
   ·rw [if_neg hs] at hx; exact hb x hx
  ·exact mk_checks l _ (fun z hz => hw z (without_mem hz)) k.2 x hx
end Go.Proofs.Ytpfpjbeofogbgaa.Re
end
section
namespace Go.Proofs.Ytpfpjbeofogbgaa
end Go.Proofs.Ytpfpjbeofogbgaa
end
section
namespace Go.Proofs.Ytpfpjbeofogbgaa
open Go.RowKit
abbrev All : Nat → Prop := fun _ => True
def RowAt {α : Type} (K : Nat → Prop) (R : World → Value → α → Prop) (w : World) (v : Value) (xs : List α) : Prop :=
 ∃ a c, v = .slice a xs.length c ∧ xs.length ≤ c ∧ c ≤ maxLen ∧ (xs = [] ∨ ∃ b o, a = some ⟨b, o, none⟩ ∧ K b ∧ b < w.heap.size ∧ ∀ (j : Nat) x, xs[j]? = some x → ∃ u, w.cell? ⟨b, o + j, none⟩ = some u ∧ R w u x)
def StrAt (_ : World) (u : Value) (x : Tx) : Prop := u = .string (mk x)
def TxAt (K : Nat → Prop) : World → Value → List Tx → Prop := RowAt K StrAt
def ElAt (K : Nat → Prop) : World → Value → Sg → Prop := RowAt K (TxAt K)
def SgAt (K : Nat → Prop) : World → Value → List Sg → Prop := RowAt K (ElAt K)
def Moves (K K' : Nat → Prop) (w w' : World) : Prop := w.heap.size ≤ w'.heap.size ∧ ∀ b, b < w.heap.size → K b → K' b ∧ w'.heap[b]? = w.heap[b]?
theorem RowAt.move {α : Type} {K K' : Nat → Prop} {R R' : World → Value → α → Prop} {w w' : World} {v : Value} {xs : List α} (h : RowAt K R w v xs) (hm : Moves K K' w w') (hR : ∀ u x, x ∈ xs → R w u x → R' w' u x) : RowAt K' R' w' v xs := by
 obtain ⟨a, c, rfl, h1, h2, h3⟩ := h
 refine ⟨a, c, rfl, h1, h2, h3.imp id ?_⟩
 rintro ⟨b, o, rfl, hk, hb, hc⟩
 obtain ⟨k', hh⟩ := hm.2 b hb hk
 refine ⟨b, o, rfl, k', Nat.lt_of_lt_of_le hb hm.1, fun j x hj => ?_⟩
 obtain ⟨u, hu, hr⟩ := hc j x hj
 exact ⟨u, by rw [World.cell?_of_block (w := w) hh]; exact hu, hR u x (List.mem_of_getElem? hj) hr⟩
theorem TxAt.move {K K' : Nat → Prop} {w w' : World} {v : Value} {xs : List Tx} (h : TxAt K w v xs) (hm : Moves K K' w w') : TxAt K' w' v xs := RowAt.move h hm fun _ _ _ h => h
theorem ElAt.move {K K' : Nat → Prop} {w w' : World} {v : Value} {xs : Sg} (h : ElAt K w v xs) (hm : Moves K K' w w') : ElAt K' w' v xs := RowAt.move h hm fun _ _ _ h => TxAt.move h hm
theorem SgAt.move {K K' : Nat → Prop} {w w' : World} {v : Value} {xs : List Sg} (h : SgAt K w v xs) (hm : Moves K K' w w') : SgAt K' w' v xs := RowAt.move h hm fun _ _ _ h => ElAt.move h hm
theorem Below.moves {w w' : World} (h : Below w.heap.size w w') : Moves All All w w' := ⟨h.size, fun b hb _ => ⟨trivial, h.block b hb⟩⟩
theorem moves_weak {K K' : Nat → Prop} (w : World) (h : ∀ b, b < w.heap.size → K b → K' b) : Moves K K' w w := ⟨Nat.le_refl _, fun b hb hk => ⟨h b hb hk, rfl⟩⟩
theorem TxAt.nil (K : Nat → Prop) (w : World) : TxAt K w (.slice none 0 0) [] := ⟨none, 0, rfl, by simp, by simp [maxLen], Or.inl rfl⟩
theorem ElAt.nil (K : Nat → Prop) (w : World) : ElAt K w (.slice none 0 0) [] := ⟨none, 0, rfl, by simp, by simp [maxLen], Or.inl rfl⟩
theorem SgAt.nil (K : Nat → Prop) (w : World) : SgAt K w (.slice none 0 0) [] := ⟨none, 0, rfl, by simp, by simp [maxLen], Or.inl rfl⟩
end Go.Proofs.Ytpfpjbeofogbgaa
end
section
namespace Go.Proofs.Ytpfpjbeofogbgaa.Da
open Go.RowKit
end Go.Proofs.Ytpfpjbeofogbgaa.Da
end
section
namespace Go.Proofs.Ytpfpjbeofogbgaa.Cm
open Go.RowKit
abbrev lnv (x : Ln) (m : Value) : Value := .agg #[.string (mk x.proc), m, .int .i64 x.date, .int .i64 x.units, .int .i64 x.billed, .int .i64 x.prior]
abbrev clv (c : Cl) (m : Value) : Value := .agg #[.string (mk c.id), .string (mk c.mem), .string (mk c.fam), .int .i64 c.net, .int .i64 c.does, .string (mk c.ref), m]
def LnCells (w : World) (b o : Nat) (x : Ln) (m : Value) : Prop :=
 w.cell? ⟨b, o, none⟩ = some (.string (mk x.proc)) ∧ w.cell? ⟨b, o + 1, none⟩ = some m ∧ w.cell? ⟨b, o + 2, none⟩ = some (.int .i64 x.date) ∧ w.cell? ⟨b, o + 3, none⟩ = some (.int .i64 x.units) ∧ w.cell? ⟨b, o + 4, none⟩ = some (.int .i64 x.billed) ∧ w.cell? ⟨b, o + 5, none⟩ = some (.int .i64 x.prior)
def ClCells (w : World) (b o : Nat) (c : Cl) (m : Value) : Prop :=
 w.cell? ⟨b, o, none⟩ = some (.string (mk c.id)) ∧ w.cell? ⟨b, o + 1, none⟩ = some (.string (mk c.mem)) ∧ w.cell? ⟨b, o + 2, none⟩ = some (.string (mk c.fam)) ∧ w.cell? ⟨b, o + 3, none⟩ = some (.int .i64 c.net) ∧ w.cell? ⟨b, o + 4, none⟩ = some (.int .i64 c.does) ∧ w.cell? ⟨b, o + 5, none⟩ = some (.string (mk c.ref)) ∧ w.cell? ⟨b, o + 6, none⟩ = some m
def LnsAt (K : Nat → Prop) (w : World) (v : Value) (ls : List Ln) : Prop :=
 ∃ a c, v = .slice a ls.length c ∧ ls.length ≤ c ∧ c ≤ maxLen ∧ (ls = [] ∨ ∃ b o, a = some ⟨b, o, none⟩ ∧ K b ∧ b < w.heap.size ∧ ∀ (j : Nat) x, ls[j]? = some x → ∃ m, LnCells w b (o + j * 6) x m ∧ TxAt K w m x.mods)
def ClsAt (K : Nat → Prop) (w : World) (v : Value) (cs : List Cl) : Prop :=
 ∃ a c, v = .slice a cs.length c ∧ cs.length ≤ c ∧ c ≤ maxLen ∧ (cs = [] ∨ ∃ b o, a = some ⟨b, o, none⟩ ∧ K b ∧ b < w.heap.size ∧ ∀ (j : Nat) x, cs[j]? = some x → ∃ m, ClCells w b (o + j * 7) x m ∧ LnsAt K w m x.lines)
theorem LnCells.of {w w' : World} {b o : Nat} {x : Ln} {m : Value} (h : LnCells w b o x m) (he : w'.heap[b]? = w.heap[b]?) : LnCells w' b o x m := by
 obtain ⟨h0, h1, h2, h3, h4, h5⟩ := h
 refine ⟨?_, ?_, ?_, ?_, ?_, ?_⟩ <;> rw [World.cell?_of_block (w := w) he] <;> assumption
theorem ClCells.of {w w' : World} {b o : Nat} {x : Cl} {m : Value} (h : ClCells w b o x m) (he : w'.heap[b]? = w.heap[b]?) : ClCells w' b o x m := by
 obtain ⟨h0, h1, h2, h3, h4, h5, h6⟩ := h
 refine ⟨?_, ?_, ?_, ?_, ?_, ?_, ?_⟩ <;> rw [World.cell?_of_block (w := w) he] <;> assumption
theorem LnsAt.move {K K' : Nat → Prop} {w w' : World} {v : Value} {ls : List Ln} (h : LnsAt K w v ls) (hm : Moves K K' w w') : LnsAt K' w' v ls := by
 obtain ⟨a, c, rfl, h1, h2, h3⟩ := h
 refine ⟨a, c, rfl, h1, h2, h3.imp id ?_⟩
 rintro ⟨b, o, rfl, hk, hb, hc⟩
 obtain ⟨k', hh⟩ := hm.2 b hb hk
 refine ⟨b, o, rfl, k', Nat.lt_of_lt_of_le hb hm.1, fun j x hj => ?_⟩
 obtain ⟨m, hu, hr⟩ := hc j x hj
 exact ⟨m, hu.of hh, TxAt.move hr hm⟩
theorem ClsAt.move {K K' : Nat → Prop} {w w' : World} {v : Value} {cs : List Cl} (h : ClsAt K w v cs) (hm : Moves K K' w w') : ClsAt K' w' v cs := by
 obtain ⟨a, c, rfl, h1, h2, h3⟩ := h
 refine ⟨a, c, rfl, h1, h2, h3.imp id ?_⟩
 rintro ⟨b, o, rfl, hk, hb, hc⟩
 obtain ⟨k', hh⟩ := hm.2 b hb hk
 refine ⟨b, o, rfl, k', Nat.lt_of_lt_of_le hb hm.1, fun j x hj => ?_⟩
 obtain ⟨m, hu, hr⟩ := hc j x hj
 exact ⟨m, hu.of hh, LnsAt.move hr hm⟩
theorem LnsAt.get {K : Nat → Prop} {w : World} {a : Option Addr} {n c : Nat} {ls : List Ln} (h : LnsAt K w (.slice a n c) ls) (k : Nat) (hk : k < ls.length) :
  ∃ b o m, a = some ⟨b, o, none⟩ ∧ ls[k]? = some ls[k] ∧ LnCells w b (o + k * 6) ls[k] m ∧ TxAt K w m ls[k].mods := by
 obtain ⟨a', c', he, h1, h2, h3⟩ := h
 have ha : a = a' := by injection he
 subst ha
 rcases h3 with h | ⟨b, o, ha, _, _, hc⟩
 ·subst h; simp at hk
 ·have hx := List.getElem?_eq_getElem hk
  obtain ⟨m, q1, q2⟩ := hc k _ hx
  exact ⟨b, o, m, ha, hx, q1, q2⟩
theorem ClsAt.get {K : Nat → Prop} {w : World} {a : Option Addr} {n c : Nat} {ls : List Cl} (h : ClsAt K w (.slice a n c) ls) (k : Nat) (hk : k < ls.length) :
  ∃ b o m, a = some ⟨b, o, none⟩ ∧ ls[k]? = some ls[k] ∧ ClCells w b (o + k * 7) ls[k] m ∧ LnsAt K w m ls[k].lines := by
 obtain ⟨a', c', he, h1, h2, h3⟩ := h
 have ha : a = a' := by injection he
 subst ha
 rcases h3 with h | ⟨b, o, ha, _, _, hc⟩
 ·subst h; simp at hk
 ·have hx := List.getElem?_eq_getElem hk
  obtain ⟨m, q1, q2⟩ := hc k _ hx
  exact ⟨b, o, m, ha, hx, q1, q2⟩
theorem tx_get {K : Nat → Prop} {w : World} {a : Option Addr} {n c : Nat} {xs : List Tx} (h : TxAt K w (.slice a n c) xs) (k : Nat) (hk : k < xs.length) :
  ∃ b o, a = some ⟨b, o, none⟩ ∧ xs[k]? = some xs[k] ∧ w.cell? ⟨b, o + k, none⟩ = some (.string (mk xs[k])) := by
 obtain ⟨a', c', he, h1, h2, h3⟩ := h
 have ha : a = a' := by injection he
 subst ha
 rcases h3 with h | ⟨b, o, ha, _, _, hc⟩
 ·subst h; simp at hk
 ·have hx := List.getElem?_eq_getElem hk
  obtain ⟨m, q1, rfl⟩ := hc k _ hx
  exact ⟨b, o, ha, hx, q1⟩
theorem TxAt.form {K : Nat → Prop} {w : World} {v : Value} {xs : List Tx} (h : TxAt K w v xs) : ∃ a c, v = .slice a xs.length c ∧ xs.length ≤ c ∧ c ≤ 9223372036854775807 := by
 obtain ⟨a, c, rfl, h1, h2, _⟩ := h
 exact ⟨a, c, rfl, h1, by unfold maxLen at h2; exact h2⟩
theorem LnsAt.form {K : Nat → Prop} {w : World} {v : Value} {xs : List Ln} (h : LnsAt K w v xs) : ∃ a c, v = .slice a xs.length c ∧ xs.length ≤ c ∧ c ≤ 9223372036854775807 := by
 obtain ⟨a, c, rfl, h1, h2, _⟩ := h
 exact ⟨a, c, rfl, h1, by unfold maxLen at h2; exact h2⟩
theorem ClsAt.form {K : Nat → Prop} {w : World} {v : Value} {xs : List Cl} (h : ClsAt K w v xs) : ∃ a c, v = .slice a xs.length c ∧ xs.length ≤ c ∧ c ≤ 9223372036854775807 := by
 obtain ⟨a, c, rfl, h1, h2, _⟩ := h
 exact ⟨a, c, rfl, h1, by unfold maxLen at h2; exact h2⟩
theorem below_alloc (w : World) (o : Obj) : Below w.heap.size w (w.alloc o) := (Below.refl _ w).alloc (Nat.le_refl _) o
theorem below_trans {a b c : World} (h : Below a.heap.size a b) (k : Below b.heap.size b c) : Below a.heap.size a c := h.trans (k.mono h.size)
theorem below_drewq {w w' : World} (h : ∃ q, w' = w.drewN q) : Below w.heap.size w w' := by
 obtain ⟨q, rfl⟩ := h
 exact (Below.refl _ _).trans ⟨rfl, rfl, rfl, Nat.le_refl _, fun _ _ => rfl⟩
def LnBox (w : World) (b : Nat) (x : Ln) (m : Value) : Prop :=
 w.cell? ⟨b, 0, none⟩ = some (.string (mk x.proc)) ∧ w.cell? ⟨b, 1, none⟩ = some m ∧ w.cell? ⟨b, 2, none⟩ = some (.int .i64 x.date) ∧ w.cell? ⟨b, 3, none⟩ = some (.int .i64 x.units) ∧ w.cell? ⟨b, 4, none⟩ = some (.int .i64 x.billed) ∧ w.cell? ⟨b, 5, none⟩ = some (.int .i64 x.prior)
def ClBox (w : World) (b : Nat) (c : Cl) (m : Value) : Prop :=
 w.cell? ⟨b, 0, none⟩ = some (.string (mk c.id)) ∧ w.cell? ⟨b, 1, none⟩ = some (.string (mk c.mem)) ∧ w.cell? ⟨b, 2, none⟩ = some (.string (mk c.fam)) ∧ w.cell? ⟨b, 3, none⟩ = some (.int .i64 c.net) ∧ w.cell? ⟨b, 4, none⟩ = some (.int .i64 c.does) ∧ w.cell? ⟨b, 5, none⟩ = some (.string (mk c.ref)) ∧ w.cell? ⟨b, 6, none⟩ = some m
theorem LnBox.grw {w w' : World} {b : Nat} {x : Ln} {m : Value} (h : LnBox w b x m) (hb : Below w.heap.size w w') : LnBox w' b x m := by
 obtain ⟨h0, h1, h2, h3, h4, h5⟩ := h
 have hl := World.block_lt_of_cell? w _ h0
 refine ⟨?_, ?_, ?_, ?_, ?_, ?_⟩ <;> rw [World.cell?_of_block (w := w) (hb.block b hl)] <;> assumption
theorem ClBox.grw {w w' : World} {b : Nat} {x : Cl} {m : Value} (h : ClBox w b x m) (hb : Below w.heap.size w w') : ClBox w' b x m := by
 obtain ⟨h0, h1, h2, h3, h4, h5, h6⟩ := h
 have hl := World.block_lt_of_cell? w _ h0
 refine ⟨?_, ?_, ?_, ?_, ?_, ?_, ?_⟩ <;> rw [World.cell?_of_block (w := w) (hb.block b hl)] <;> assumption
end Go.Proofs.Ytpfpjbeofogbgaa.Cm
end
section
set_option maxRecDepth 100000
namespace Go.Proofs.Ytpfpjbeofogbgaa.Bk
open Go.RowKit
open Cm (Ln Cl LnsAt lnv clv LnOk ClOk)
open Sh (Ot)
theorem keepB {w w' : World} {q : Nat} {o : Obj} (h : w.heap[q]? = some o) (hb : Below w.heap.size w w') : w'.heap[q]? = some o := by
 rw [hb.block q (Array.getElem?_eq_some_iff.1 h).1]; exact h
theorem heap_far {w : World} {b q j : Nat} {o : Obj} {u : Value} (h : w.heap[b]? = some o) (hne : b ≠ q) : (w.setCell ⟨q, j, none⟩ u).heap[b]? = some o := by
 rw [Below.heap_setCell _ _ _ _ hne]; exact h
theorem below_alloc (w : World) (o : Obj) : Below w.heap.size w (w.alloc o) := (Below.refl _ w).alloc (Nat.le_refl _) o
theorem below_trans {a b c : World} (h : Below a.heap.size a b) (k : Below b.heap.size b c) : Below a.heap.size a c := h.trans (k.mono h.size)
theorem alloc_new (w : World) (cs : Array Value) (t : TypeId) : (w.alloc (.cells cs t)).heap[w.heap.size]? = some (.cells cs t (0, 0)) := heap_alloc_new w _
theorem heap_set {w : World} {b : Nat} {cs : Array Value} {t : TypeId} (h : w.heap[b]? = some (.cells cs t (0, 0))) (j : Nat) (u : Value) : (w.setCell ⟨b, j, none⟩ u).heap[b]? = some (.cells (cs.setIfInBounds j u) t (0, 0)) := by
 simp [World.setCell, Array.getElem?_modify, h]
theorem add_lit (b o j : Nat) : (⟨b, o, none⟩ : Addr).add j = ⟨b, o + j, none⟩ := by unfold Addr.add; split <;> simp_all
def oc (o : Ot) : List Value := [.int .i64 o.al, .int .i64 o.de, .int .i64 o.cp, .int .i64 o.cn, .int .i64 o.plan, .int .i64 o.wr, .int .i64 o.pr, .int .i64 o.deny]
def OtCells (w : World) (b o : Nat) (x : Ot) : Prop := w.cell? ⟨b, o, none⟩ = some (.int .i64 x.al) ∧ w.cell? ⟨b, o + 1, none⟩ = some (.int .i64 x.de) ∧ w.cell? ⟨b, o + 2, none⟩ = some (.int .i64 x.cp) ∧ w.cell? ⟨b, o + 3, none⟩ = some (.int .i64 x.cn) ∧ w.cell? ⟨b, o + 4, none⟩ = some (.int .i64 x.plan) ∧ w.cell? ⟨b, o + 5, none⟩ = some (.int .i64 x.wr) ∧ w.cell? ⟨b, o + 6, none⟩ = some (.int .i64 x.pr) ∧ w.cell? ⟨b, o + 7, none⟩ = some (.int .i64 x.deny)
theorem OtCells.of {w w' : World} {b o : Nat} {x : Ot} (h : OtCells w b o x) (he : w'.heap[b]? = w.heap[b]?) : OtCells w' b o x := by
 obtain ⟨h0, h1, h2, h3, h4, h5, h6, h7⟩ := h
 refine ⟨?_, ?_, ?_, ?_, ?_, ?_, ?_, ?_⟩ <;> rw [World.cell?_of_block (w := w) he] <;> assumption
def OtsAt (K : Nat → Prop) (w : World) (v : Value) (l : List Ot) : Prop :=
 ∃ a c, v = .slice a l.length c ∧ l.length ≤ c ∧ c ≤ maxLen ∧ (l = [] ∨ ∃ b o, a = some ⟨b, o, none⟩ ∧ K b ∧ b < w.heap.size ∧ ∀ (j : Nat) x, l[j]? = some x → OtCells w b (o + j * 8) x)
theorem OtsAt.move {K K' : Nat → Prop} {w w' : World} {v : Value} {l : List Ot} (h : OtsAt K w v l) (hm : Moves K K' w w') : OtsAt K' w' v l := by
 obtain ⟨a, c, rfl, h1, h2, h3⟩ := h
 refine ⟨a, c, rfl, h1, h2, h3.imp id ?_⟩
 rintro ⟨b, o, rfl, hk, hb, hc⟩
 obtain ⟨k', hh⟩ := hm.2 b hb hk
 exact ⟨b, o, rfl, k', Nat.lt_of_lt_of_le hb hm.1, fun j x hj => (hc j x hj).of hh⟩
theorem OtsAt.grw {w w' : World} {v : Value} {l : List Ot} (h : OtsAt All w v l) (hb : Below w.heap.size w w') : OtsAt All w' v l := h.move (Below.moves hb)
theorem OtsAt.nil (K : Nat → Prop) (w : World) : OtsAt K w (.slice none 0 0) [] := ⟨none, 0, rfl, by simp, by simp [maxLen], Or.inl rfl⟩
theorem OtsAt.form {K : Nat → Prop} {w : World} {v : Value} {xs : List Ot} (h : OtsAt K w v xs) : ∃ a c, v = .slice a xs.length c ∧ xs.length ≤ c ∧ c ≤ 9223372036854775807 := by
 obtain ⟨a, c, rfl, h1, h2, _⟩ := h
 exact ⟨a, c, rfl, h1, by unfold maxLen at h2; exact h2⟩
theorem OtsAt.get {K : Nat → Prop} {w : World} {a : Option Addr} {n c : Nat} {ls : List Ot} (h : OtsAt K w (.slice a n c) ls) (k : Nat) (hk : k < ls.length) :
  ∃ b o, a = some ⟨b, o, none⟩ ∧ b < w.heap.size ∧ ls[k]? = some ls[k] ∧ OtCells w b (o + k * 8) ls[k] := by
 obtain ⟨a', c', he, h1, h2, h3⟩ := h
 have ha : a = a' := by injection he
 subst ha
 rcases h3 with h | ⟨b, o, ha, _, hb, hc⟩
 ·subst h; simp at hk
 ·have hx := List.getElem?_eq_getElem hk
  exact ⟨b, o, ha, hb, hx, hc k _ hx⟩
end Go.Proofs.Ytpfpjbeofogbgaa.Bk
end
