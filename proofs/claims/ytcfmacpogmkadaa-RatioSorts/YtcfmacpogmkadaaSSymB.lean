/-
  What slices.symMergeCmpFunc leaves where both parts are longer than one element, as a contract.
-/
import Derived.Test.YtcfmacpogmkadaaSSymBA
import Derived.Test.YtcfmacpogmkadaaSSymBB
import Derived.Test.YtcfmacpogmkadaaSSymBC
namespace Go.Proofs.Ytcfmacpogmkadaa
open Go.Shelf Go.RowKit Go.Lib Go.Sort
variable {α : Type} [Inhabited α]

theorem symBig (enc : α → Value) (cf : α → α → Int) (hO : SWO (ltOf cf)) (g : Nat) (cb : Array Value) (blk off cap a m b n : Nat) (d0 d : Array α) (w0 w : World)
    (eg : ∀ args w, (callFunc g args).run Try.prog w = .ok (.enter g args) w) (hcmp : CmpLays1 Try.prog g cb enc cf blk off d0.size w0) (R : Row1 enc w0 blk off d0) (hs : d0.size = d.size) (S : SW enc w0 blk off d w)
    (ham : a + 1 < m) (hmb : m + 1 < b) (hb : b ≤ d.size) (hl : SortedIn (ltOf cf) a m d) (hr : SortedIn (ltOf cf) m b d) (hn : b - a ≤ n + 1) (ih : SymOK enc cf g cb blk off cap d.size w0 n) (hsz : d.size < 1152921504606846976) :
    Calls Try.prog 44 #[.slice (some ⟨blk, off, none⟩) d.size cap, .int .i64 a, .int .i64 m, .int .i64 b, .func (.func g) #[] cb] w fun e w' => e = .returned (.tuple #[]) ∧ ∃ d', PermIn a b d d' ∧ SortedIn (ltOf cf) a b d' ∧ SW enc w0 blk off d' w' := by
  rcases Nat.lt_trichotomy m ((a + b) / 2) with c | c | c
  · exact symBigB enc cf hO g cb blk off cap a m b n d0 d w0 w eg hcmp R hs S ham hmb hb hl hr hn ih hsz c
  · exact symBigC enc cf hO g cb blk off cap a m b n d0 d w0 w eg hcmp R hs S ham hmb hb hl hr hn ih hsz c
  · exact symBigA enc cf hO g cb blk off cap a m b n d0 d w0 w eg hcmp R hs S ham hmb hb hl hr hn ih hsz c
end Go.Proofs.Ytcfmacpogmkadaa
