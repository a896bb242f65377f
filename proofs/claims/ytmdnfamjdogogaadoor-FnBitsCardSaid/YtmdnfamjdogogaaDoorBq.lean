/- A region that draws its order and whose operations leave what stood alone: one walk in the text's order serves every order. No law is stated here. -/
import Derived.Test.YtmdnfamjdogogaaDoorReg
import Derived.Deep.QuietTactic
import Derived.WalkKit
namespace Go.Proofs.YtmdnfamjdogogaaDoor
set_option linter.unusedSimpArgs false
set_option linter.unusedVariables false
open Go.RowKit
/-- a world behind w that keeps all that stood in w -/
structure BelowW (w : World) where
  at' : World
  kept : Below w.heap.size w at'
theorem BelowW.none (w : World) : Nonempty (BelowW w) := ⟨⟨w, Below.refl _ _⟩⟩
theorem wp_region_below {P : Program} {id : Nat} {Q : Exit → Act → World → Prop} {a : Act} {w : World} {l : List Oper} (hm : P.follows .mixedOrders = true) (hB : Region.lexB .any l.toArray = true)
    (h : wpQuiet P l.toArray (fun w' => ∃ x : BelowW w, w' = x.at') (fun a' => ∀ w', (∃ x : BelowW w, w' = x.at') → Q .normal a' w') l a) : (Code.region id l.toArray true).wp P Q a w :=
  wp_region_quiet (C := fun w' => ∃ x : BelowW w, w' = x.at') hm hB ⟨⟨_, Blw.drew (Below.refl _ _)⟩, rfl⟩ (by simpa using h)
theorem Calls.below {P : Program} {f : FuncId} {args : Array Value} {w : World} {x : BelowW w} {v : Value}
    (h : Calls P f args x.at' fun e w' => e = .returned v ∧ Below x.at'.heap.size x.at' w') : Calls P f args x.at' fun e w'' => e = .returned v ∧ ∃ y : BelowW w, w'' = y.at' :=
  h.mono fun _ w1 ⟨he, hb⟩ => ⟨he, ⟨w1, Blw.after x.kept hb⟩, rfl⟩
end Go.Proofs.YtmdnfamjdogogaaDoor
