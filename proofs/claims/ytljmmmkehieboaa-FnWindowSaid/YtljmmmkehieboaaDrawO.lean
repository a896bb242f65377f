/- What the law of windows draws: a list of points and two indexes. No law is stated here. -/
import Derived.Test.YtljmmmkehieboaaDrawM
namespace Go.Proofs.Ytljmmmkehieboaa
set_option linter.unusedSimpArgs false
set_option linter.unusedVariables false
open Go.RowKit Ieee

def WinOf (w : World) (e : Ending) (w' : World) : Prop :=
  ∃ (v : Value) (L : List SZ) (f t : Int), e = .returned (.tuple #[v, .int .i64 f, .int .i64 t]) ∧ w'.ownsRow w.heap.size 31 1 v L.length (L.map encZ) ∧ L.length ≤ 70 ∧ (∀ q ∈ L, Bq 200 q) ∧ Below w.heap.size w w' ∧ (0 ≤ f ∧ f ≤ 5) ∧ (-100 ≤ t ∧ t ≤ 100)
set_option maxRecDepth 100000 in
set_option maxHeartbeats 4000000 in
theorem drawCurveWindow_c (v : Value) (w : World) (h : Code v w) : Calls Try.prog 31 #[v] w (WinOf w) := by
  go_enter Try.func31, Try.ntmps31
  go_wp2_with fail
  refine (l6Open_c v w h).mono ?_
  rintro e W1 ⟨sv, rfl, hr, hs, hz, hb⟩
  go_wp2_with fail
  refine (l92Path_c w.heap.size sv 0 W1 hs hr ⟨by omega, by omega⟩).mono ?_
  rintro e W2 ⟨v', L, p1, rfl, ho, hl, hq, q0, q1, h2, hs2, m2⟩
  have hrb : w.heap.size < W1.heap.size := World.block_lt_of_cell? W1 _ hr.1
  go_wp2_with fail
  refine (pick_h w.heap.size sv p1 6 W2 hs2 h2 ⟨by omega, by omega⟩ ⟨by omega, by omega⟩).mono ?_
  rintro e W3 ⟨⟨v, p2, ⟨k, rfl, k0, k1⟩, rfl, s0, s1, h3, hs3, m3⟩, hbl⟩
  have HO := Lib.hid (own_pick ho hrb hbl)
  have HL := Lib.hid hl
  have HQ := Lib.hid hq
  have H := Lib.hid h3
  have S := Lib.hid hs3
  have M := Lib.hid (m2.trans m3)
  have HB1 := Lib.hid hb
  clear hs hr ho hl hq h2 hs2 m2 h3 hs3 m3 hbl hb h
  have k5 : 0 ≤ k ∧ k ≤ 5 := by omega
  clear k0 k1
  obtain ⟨k0, k1⟩ := k5
  go_wp2_with fail
  refine (pick_h w.heap.size sv p2 9 W3 S.out H.out ⟨by omega, by omega⟩ ⟨by omega, by omega⟩).mono ?_
  rintro e V1 ⟨⟨v, p3, ⟨x, rfl, x0, x1⟩, rfl, t0, t1, h3, hs3, m3⟩, hbl⟩
  have HO := Lib.hid (own_pick HO.out hrb hbl)
  have H := Lib.hid h3
  have S := Lib.hid hs3
  have M := Lib.hid (M.out.trans m3)
  have x2 : x ≤ 8 := by omega
  clear h3 hs3 m3 hbl x1
  go_wp2_with fail
  refine (pick_h w.heap.size sv p3 8 V1 S.out H.out ⟨by omega, by omega⟩ ⟨by omega, by omega⟩).mono ?_
  rintro e V2 ⟨⟨v, p4, ⟨y, rfl, y0, y1⟩, rfl, u0, u1, h3, hs3, m3⟩, hbl⟩
  have HO := Lib.hid (own_pick HO.out hrb hbl)
  have M := Lib.hid (M.out.trans m3)
  clear h3 hs3 m3 hbl
  obtain ⟨q, hq, q2, q3⟩ : ∃ q, y / 7 = q ∧ 0 ≤ q ∧ q ≤ 1 := ⟨_, rfl, by omega, by omega⟩
  have g1 : IntKind.i64.wrap (y.tdiv 7) = q := by rw [Int.tdiv_eq_ediv_of_nonneg y0, hq]; exact IntWalk.i64_in _ (by omega)
  go_wp2_with fail
  go_ret3
  exact ⟨v', L, k, k + x - q * 3, rfl, ownsRow_low HB1.out.size HO.out, HL.out, HQ.out, M.out.2.2.2 w HB1.out (Nat.le_refl _), ⟨k0, k1⟩, by omega, by omega⟩
end Go.Proofs.Ytljmmmkehieboaa
