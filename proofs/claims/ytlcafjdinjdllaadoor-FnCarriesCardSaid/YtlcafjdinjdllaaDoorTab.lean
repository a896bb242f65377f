/- The program's table, out of what the card lists: its cells. No law is stated here. -/
import Derived.Test.YtlcafjdinjdllaaDoorTie
import Derived.Test.YtlcafjdinjdllaaDoorCards
import Derived.Test.YtlcafjdinjdllaaDoorGa
import Derived.WalkKit
import Derived.ProofKit
import Derived.OpenShut
import Derived.ChangeSame
import Derived.JoinedOf
import Derived.JoinedAt
import Derived.RowKit3
import Derived.Lib.SmallJoins
import Derived.LaidMore
import Derived.Lay
import Derived.SevenTiedAt
import Derived.Stop.Joined
import Derived.Test.YtlcafjdinjdllaaDoorDl
import Derived.Test.YtlcafjdinjdllaaDoorRd
import Derived.Stop.LaidErr
import Derived.ChangeVars
import Derived.ChangeStays
import Derived.WideKeyArgs
import Derived.WalkSmall
import Derived.Carry
namespace Go.Proofs.YtlcafjdinjdllaaDoor
set_option linter.unusedSimpArgs false
set_option linter.unusedVariables false
open Go.ChangeShapes Go.WideShapes Go.ChangeAt Go.RowKit Go.Joins


def rowData (r : Nat) : DataW Unit := .agg [.agg [.lit (.int .i64 (rowX r)), .lit (.int .i64 (rowY r))], .lit (.string (rowS r)), .agg [.lit (.int .i64 (rowN r 0 : Nat)), .lit (.int .i64 (rowN r 1 : Nat)), .lit (.int .i64 (rowN r 2 : Nat))]]
theorem adder_data : (Rows.laid_loop_example_dragonnumbers_impl_adder : DataW Unit) = .agg ((List.range 15).map rowData) := by kernel_rfl
theorem cellsRow : Tryd.prog.cellsOf 78 = 6 := by kernel_rfl
theorem cellsGa : Tryd.prog.cellsOf 29 = 2 := by kernel_rfl
theorem cellsIn : Tryd.prog.cellsOf 3 = 1 := by kernel_rfl
theorem cellsSt : Tryd.prog.cellsOf 9 = 1 := by kernel_rfl
theorem cellsN : Tryd.prog.cellsOf 76 = 3 := by kernel_rfl
theorem adderAt : Tryd.prog.globalNamed "loop.example/dragonnumbers/impl.adder" = some 0 := by kernel_rfl
theorem adderType : (Tryd.prog.globals[0]?).map (·.type) = some 79 := by kernel_rfl

theorem tab_of_read {W : World} {fuel : Nat} {cs : Array Value} {p : List MemPlace} {enc : TypeId × Value → Unit} {spare : Nat → Bool} {held : Bool} (hv : W.var? Tryd.prog "loop.example/dragonnumbers/impl.adder" = some cs)
    (h : DataW.trod enc Tryd.prog W 0 spare held fuel 79 cs.toList = some (Rows.laid_loop_example_dragonnumbers_impl_adder, p)) : Tab W := by
  rw [adder_data] at h
  have hat : ∀ (i : Nat) (v : Value), cs.toList[i]? = some v → W.cell? ⟨0, i, none⟩ = some v := fun i v hi => by
    rw [World.var?_cell adderAt hv i]; simpa using hi
  have key : ∀ r, r < 15 → W.cell? ⟨0, r * 6, none⟩ = some (.int .i64 (rowX r)) ∧ W.cell? ⟨0, r * 6 + 1, none⟩ = some (.int .i64 (rowY r)) ∧ W.cell? ⟨0, r * 6 + 2, none⟩ = some (.string (bs (rowS r))) ∧ ∀ b, b < 3 → W.cell? ⟨0, r * 6 + 3 + b, none⟩ = some (.int .i64 (rowN r b : Nat)) := by
    intro r hr
    obtain ⟨m, q, h1⟩ := rd_array Tryd.underlying79 h (i := r) (d := rowData r) hr (by simp [hr])
    rw [cellsRow] at h1
    obtain ⟨m1, q1, h2⟩ := rd_struct Tryd.underlying78 h1 (i := 0) (ft := 29) (fo := 0) rfl rfl rfl rfl cellsGa
    obtain ⟨m2, q2, h3⟩ := rd_struct Tryd.underlying78 h1 (i := 1) (ft := 9) (fo := 2) rfl rfl rfl rfl cellsSt
    obtain ⟨m3, q3, h4⟩ := rd_struct Tryd.underlying78 h1 (i := 2) (ft := 76) (fo := 3) rfl rfl rfl rfl cellsN
    obtain ⟨m4, q4, h5⟩ := rd_struct Tryd.underlying29 h2 (i := 0) (ft := 3) (fo := 0) rfl rfl rfl rfl cellsIn
    obtain ⟨m5, q5, h6⟩ := rd_struct Tryd.underlying29 h2 (i := 1) (ft := 3) (fo := 1) rfl rfl rfl rfl cellsIn
    have a0 := rd_int Tryd.underlying3 h5
    have a1 := rd_int Tryd.underlying3 h6
    have a2 := rd_str Tryd.underlying9 h3
    rw [drop_take _ _ _ _ _ (by decide)] at a0 a1
    refine ⟨hat _ _ ?_, hat _ _ ?_, hat _ _ ?_, ?_⟩
    · simpa using at_of_one a0 (by decide)
    · simpa using at_of_one a1 (by decide)
    · simpa using at_of_one a2 (by decide)
    · intro b hb
      obtain ⟨m6, q6, h7⟩ := rd_array Tryd.underlying76 h4 (i := b) (d := .lit (.int .i64 (rowN r b : Nat))) hb (by match b, hb with | 0, _ => rfl | 1, _ => rfl | 2, _ => rfl)
      rw [cellsIn, Nat.mul_one] at h7
      have a3 := rd_int Tryd.underlying3 h7
      rw [drop_take _ _ _ _ _ (by omega)] at a3
      exact hat _ _ (by rw [Nat.add_assoc]; exact at_of_one a3 (by omega))
  exact ⟨World.block_lt_of_cell? W _ (key 0 (by omega)).1, key⟩

/-- the table stands second on the list -/
theorem tab_second {W : World} {x : String × DataW Unit} {r : List (String × DataW Unit)} (h : laidMetH Tryd.prog (x :: ("loop.example/dragonnumbers/impl.adder", Rows.laid_loop_example_dragonnumbers_impl_adder) :: r) W) (hp : ∀ W, laidMetH Tryd.prog (x :: ("loop.example/dragonnumbers/impl.adder", Rows.laid_loop_example_dragonnumbers_impl_adder) :: r) W = laidMet Tryd.prog (x :: ("loop.example/dragonnumbers/impl.adder", Rows.laid_loop_example_dragonnumbers_impl_adder) :: r) W) : Tab W := by
  rw [hp] at h
  have h2 := h.tail
  obtain ⟨ps, ⟨g, t, cs, fuel, p, q, hg, ht, hv, hd, _, _⟩, _, _⟩ := h2
  obtain rfl := Option.some.inj (adderAt.symm.trans hg)
  obtain rfl := Option.some.inj (adderType.symm.trans ht)
  exact tab_of_read hv hd
theorem laidOutD : laidOutB Tryd.prog = true := by kernel_rfl
/-- the table reads behind the call as ahead of it -/
theorem vars_shut {H : Type} {enc : TypeId × Value → H} {W W' : World} {g : Nat} {t : TypeId} {cs : Array Value} {fuel : Nat} {d : DataW H} {p : List MemPlace} (hg : Tryd.prog.globalNamed "loop.example/dragonnumbers/impl.adder" = some g) (ht : (Tryd.prog.globals[g]?).map (·.type) = some t)
    (hv : W.var? Tryd.prog "loop.example/dragonnumbers/impl.adder" = some cs) (hd : DataW.trod enc Tryd.prog W 0 (fun _ => true) true fuel t cs.toList = some (d, p)) (hlt : ∀ x ∈ p, x.block < W.heap.size) (hT : Tab W) (hB : Below W.heap.size W W') :
    DataW.TrodVars enc Tryd.prog W' (fun b => decide (b < W.heap.size)) ["loop.example/dragonnumbers/impl.adder"] [d] (MemPlace.row ⟨g, 0, none⟩ cs.size ++ p) := by
  obtain rfl := Option.some.inj (adderAt.symm.trans hg)
  obtain rfl := Option.some.inj (adderType.symm.trans ht)
  have hr : Tryd.prog.readableRec 79 = true := by kernel_rfl
  have hd' := DataW.trod_stays (w' := W') (sp' := fun b => decide (b < W.heap.size)) (kids_book laidOutD hr) (book_sized hr) (fun h => by cases h) ⟨of_decide_eq_true (by kernel_rfl), book_self _⟩ hd (fun x hx => hB.same (hlt x hx)) (fun x hx => by simpa using hlt x hx)
  exact trodVars_mk1 hg ht (var?_below hB hg hT.1 hv) hd'
end Go.Proofs.YtlcafjdinjdllaaDoor
