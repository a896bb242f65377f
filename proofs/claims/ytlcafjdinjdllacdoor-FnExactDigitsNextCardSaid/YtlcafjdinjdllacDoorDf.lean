/- Chapter 2, the program's side: the digits of a number. -/
import Derived.Test.YtlcafjdinjdllacDoorDe3
import Derived.Test.YtlcafjdinjdllacDoorEq
import Derived.Test.YtlcafjdinjdllacDoorBy
import Derived.Laws.Bits128
namespace Go.Proofs.YtlcafjdinjdllacDoor
set_option linter.unusedSimpArgs false
set_option linter.unusedVariables false
open Go.RowKit

theorem i64_and1 (n : Int) : bits .and .i64 n 1 = n % 2 := by
  have h1 : (BitVec.ofInt 64 1).toNat = 2 ^ 1 - 1 := by decide
  have key : (BitVec.ofInt 64 n &&& BitVec.ofInt 64 1).toNat = (n % ((2 ^ 64 : Nat) : Int)).toNat % 2 ^ 1 := by
    rw [BitVec.toNat_and, BitVec.toNat_ofInt, h1, Nat.and_two_pow_sub_one_eq_mod]
  show IntKind.i64.wrap ((BitVec.ofInt 64 n &&& BitVec.ofInt 64 1).toNat : Nat) = n % 2
  rw [key, IntKind.wrap_i64]
  omega

def DgRel (x0 y0 : Int) (w : World) (m : Nat) (v : Value) (wr : World) : Prop :=
  ∃ (x y : Int) (pre : List UInt8), wr.ownsRow (w.heap.size + 1) 5 1 v pre.length (pre.map encB) ∧ (-1000000 ≤ x ∧ x ≤ 1000000) ∧ (-1000000 ≤ y ∧ y ≤ 1000000) ∧ pre ++ dgs x y = dgs x0 y0 ∧ pre.length + ms x y ≤ 3000000000001 ∧ m = ms x y ∧
    Below w.heap.size w wr ∧ wr.cell? ⟨w.heap.size, 0, none⟩ = some (.int .i64 x) ∧ wr.cell? ⟨w.heap.size, 1, none⟩ = some (.int .i64 y) ∧ wr.frozen? ⟨w.heap.size, 0, none⟩ = false ∧ wr.frozen? ⟨w.heap.size, 1, none⟩ = false
/-- what the digits leave: a row of bytes of the call's own -/
def DgPost (x0 y0 : Int) (w : World) (e : Ending) (w' : World) : Prop :=
  ∃ v, e = .returned v ∧ w'.ownsRow w.heap.size 5 1 v (dgs x0 y0).length ((dgs x0 y0).map encB) ∧ Below w.heap.size w w'
end Go.Proofs.YtlcafjdinjdllacDoor
