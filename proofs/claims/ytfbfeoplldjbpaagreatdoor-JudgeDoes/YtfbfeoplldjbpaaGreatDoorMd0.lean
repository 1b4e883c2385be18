/-
  Words that the other texts use.
-/
import Derived.Test.YtfbfeoplldjbpaaGreatDoorProg
import Derived.Below
import Derived.WalkKit
import Derived.Lib.Hide
namespace Go.Proofs.YtfbfeoplldjbpaaGreatDoor
open Go.RowKit
abbrev iI (x:Int):Value:=.int .i64 x
abbrev pP (b o:Nat):Value:=.pointer (some ⟨b,o,none⟩)
theorem zZ {p:Prop} (h:p):Hid p:=h
theorem tT {α:Sort _} {a b c d:α} (h:a=b) (k:b=c) (l:c=d):a=d:=(h.trans k).trans l
end Go.Proofs.YtfbfeoplldjbpaaGreatDoor
