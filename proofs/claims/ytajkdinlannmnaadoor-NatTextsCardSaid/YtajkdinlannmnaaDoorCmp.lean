/-
  nat.Cmp: how two numbers stand.
-/
import Derived.Test.YtajkdinlannmnaaDoorTrim
import Derived.Test.YtajkdinlannmnaaDoorBits
import Derived.Test.YtajkdinlannmnaaDoorBlk
import Derived.Test.YtajkdinlannmnaaDoorNum2
namespace Go.Proofs.YtajkdinlannmnaaDoor
open Go.RowKit Num

theorem quiet_here {P : Program} {f : FuncId} {args : Array Value} {w : World} {n : Nat} {v : Value}
    (h : Calls P f args (w.drewN n) fun e w' => e = .returned v ∧ w.drewN n = w') : Calls P f args (w.drewN n) fun e w'' => e = .returned v ∧ ∃ m, w'' = w.drewN m :=
  h.mono fun _ _ ⟨he, hm⟩ => ⟨he, n, hm.symm⟩

theorem drewN_trans {w w2 : World} {a : Nat} (h : w2 = w.drewN a) (b : Nat) : ∃ q, w2.drewN b = w.drewN q := ⟨a + b, by rw [h, World.drewN_drewN]⟩

def CmpPost (x y : Nat) (w : World) (e : Ending) (w' : World) : Prop := e = .returned (.int .i64 (cmpI x y)) ∧ ∃ q, w' = w.drewN q

end Go.Proofs.YtajkdinlannmnaaDoor
