/-
  What slices.symMergeCmpFunc leaves where both parts are longer than one element, as a contract, given the contract for less: two sorted parts become one.
-/
import Derived.Test.YtcfmacpogmkadaaSSymL
import Derived.Test.YtcfmacpogmkadaaSSymR
namespace Go.Proofs.Ytcfmacpogmkadaa
open Go.Shelf Go.RowKit Go.Lib Go.Sort
variable {α : Type} [Inhabited α]

/-- The contract, for parts of at most n places together. -/
def SymOK (enc : α → Value) (cf : α → α → Int) (g : Nat) (cb : Array Value) (blk off cap len : Nat) (w0 : World) (n : Nat) : Prop :=
  ∀ (a m b : Nat) (d : Array α) (w : World), b - a ≤ n → a < m → m < b → b ≤ d.size → d.size = len → SortedIn (ltOf cf) a m d → SortedIn (ltOf cf) m b d → SW enc w0 blk off d w →
    Calls Try.prog 44 #[.slice (some ⟨blk, off, none⟩) len cap, .int .i64 a, .int .i64 m, .int .i64 b, .func (.func g) #[] cb] w fun e w' => e = .returned (.tuple #[]) ∧ ∃ d', PermIn a b d d' ∧ SortedIn (ltOf cf) a b d' ∧ SW enc w0 blk off d' w'
end Go.Proofs.Ytcfmacpogmkadaa
