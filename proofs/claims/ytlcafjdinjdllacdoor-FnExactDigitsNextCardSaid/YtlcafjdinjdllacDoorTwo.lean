/- The library's table, out of what the card lists: the one cell that is read. No law is stated here. -/
import Derived.Test.YtlcafjdinjdllacDoorRd
import Derived.Test.YtlcafjdinjdllacDoorDu
namespace Go.Proofs.YtlcafjdinjdllacDoor
set_option linter.unusedSimpArgs false
set_option linter.unusedVariables false
open Go.ChangeShapes Go.WideShapes Go.ChangeAt Go.RowKit Go.Joins

theorem d64At : Tryd.prog.globalNamed "math/bits.deBruijn64tab" = some 2 := by kernel_rfl
theorem d64Type : (Tryd.prog.globals[2]?).map (·.type) = some 47 := by kernel_rfl
theorem cellsU8 : Tryd.prog.cellsOf 5 = 1 := by kernel_rfl
set_option maxRecDepth 10000 in
theorem two_second {W : World} {x : String × DataW Unit} {r : List (String × DataW Unit)} (h : laidMetH Tryd.prog (x :: ("math/bits.deBruijn64tab", Rows.laid_math_bits_deBruijn64tab) :: r) W) (hp : ∀ W, laidMetH Tryd.prog (x :: ("math/bits.deBruijn64tab", Rows.laid_math_bits_deBruijn64tab) :: r) W = laidMet Tryd.prog (x :: ("math/bits.deBruijn64tab", Rows.laid_math_bits_deBruijn64tab) :: r) W) : Two W := by
  rw [hp] at h
  have h2 := h.tail
  obtain ⟨ps, ⟨g, t, cs, fuel, p, q, hg, ht, hv, hd, _, _⟩, _, _⟩ := h2
  obtain rfl := Option.some.inj (d64At.symm.trans hg)
  obtain rfl := Option.some.inj (d64Type.symm.trans ht)
  have hds : ∃ ds, (Rows.laid_math_bits_deBruijn64tab : DataW Unit) = .agg ds ∧ ds[1]? = some (.lit (.int .u8 1)) := ⟨_, rfl, rfl⟩
  obtain ⟨ds, e, e1⟩ := hds
  rw [e] at hd
  obtain ⟨m, q, h1⟩ := rd_array Tryd.underlying47 hd (i := 1) (by decide) e1
  rw [cellsU8] at h1
  have a := rd_int Tryd.underlying5 h1
  have a1 : cs.toList[1]? = some (.int .u8 1) := by
    have e : ((cs.toList.drop (1 * 1)).take 1)[0]? = some (.int .u8 1) := by rw [a]; rfl
    rw [List.getElem?_take, if_pos (by omega), List.getElem?_drop] at e
    simpa using e
  have hat : ∀ (i : Nat) (v : Value), cs.toList[i]? = some v → W.cell? ⟨2, i, none⟩ = some v := fun i v hi => by
    rw [World.var?_cell d64At hv i]; simpa using hi
  exact hat 1 _ a1
theorem Two.pos {w : World} (h : Two w) : 2 < w.heap.size := World.block_lt_of_cell? w _ h
end Go.Proofs.YtlcafjdinjdllacDoor
