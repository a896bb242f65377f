/- A number's text with places stands for the number: the numbers' side. No law is stated here. -/
import Derived.Test.YtlcafjdinjdllabDoorPtx
import Derived.Test.YtlcafjdinjdllabDoorPe
import Derived.Test.YtlcafjdinjdllabDoorPy
import Derived.Test.YtlcafjdinjdllabDoorExq
namespace Go.Proofs.YtlcafjdinjdllabDoor
set_option linter.unusedSimpArgs false
set_option linter.unusedVariables false
open Go.RowKit Ieee

theorem val_dgsT : ∀ (n : Nat) (x y : Int), ms x y = n → valX (dgs x y).reverse = x ∧ valY (dgs x y).reverse = y := by
  intro n
  induction n using Nat.strongRecOn with
  | ind n ih =>
    intro x y hn
    by_cases hz : x = 0 ∧ y = 0
    · obtain ⟨rfl, rfl⟩ := hz
      rw [dgs_zero]; exact ⟨rfl, rfl⟩
    · have hl := ms_less hz
      obtain ⟨h1, h2⟩ := ih (ms (nX x y) (nY x y)) (by omega) _ _ rfl
      have hd := dg_bitc (d := lastD x y) (lastD_01 x y)
      rw [dgs_step hz, List.reverse_cons, valX_snoc, valY_snoc, h1, h2, hd]
      exact ⟨(back_x x y).symm, (back_y x y).symm⟩
theorem val_dgs1T (x y : Int) : valX (dgs1 x y).reverse = x ∧ valY (dgs1 x y).reverse = y := by
  unfold dgs1
  split
  · rename_i h; obtain ⟨rfl, rfl⟩ := h; decide
  · exact val_dgsT _ x y rfl
theorem ofV_casesT (x y : Int) : (∃ d, ofV x y = .tuple #[.string d, .bool true] ∧ vldB d = true ∧ valF (toL d) = (x, y) ∧ inB 1000000 x y = true) ∨ ofV x y = .tuple #[.string ⟨#[]⟩, .bool false] := by
  unfold ofV
  split
  · rename_i hi
    have e := toL_bs (strip (dgs1 x y).reverse)
    cases hv : vldB (bs (strip (dgs1 x y).reverse))
    · exact .inr (resD_f e.symm hv)
    · refine .inl ⟨_, resD_t e.symm hv, hv, ?_, hi⟩
      rw [e, val_strip]
      obtain ⟨h1, h2⟩ := val_dgs1T x y
      exact Prod.ext h1 h2
  · exact .inr rfl
theorem val_pad : ∀ (n : Nat) (l : List UInt8), valF (List.replicate n 48 ++ l) = valF l
  | 0, _ => rfl
  | n + 1, l => by rw [List.replicate_succ, List.cons_append, valF_zero]; exact val_pad n l
theorem cut_parts {s : ByteArray} {a r : List UInt8} (h : toL s = a ++ 46 :: r) (hno : ∀ c ∈ a, c ≠ 46) : toL (hdS s) = a ∧ toL (tlS s) = r := by
  have e : atP s = a.length := by unfold atP; rw [h]; exact dotL_ap r hno
  constructor
  · show toL (s.extract 0 (atP s)) = _
    rw [toL_extract, List.drop_zero, e, h, List.take_left]
  · show toL (s.extract (atP s + 1) s.size) = _
    rw [toL_extract, List.take_of_length_le (by rw [toL_len]; exact Nat.le_refl _), e, h, ← List.drop_drop, List.drop_left]
    rfl
theorem tx_parts {d : ByteArray} (hv : vldB d = true) (k : Nat) : toL (hdS (txS d k)) ++ toL (tlS (txS d k)) = toL (padS d k) ∧ (tlS (txS d k)).size = k ∧ (∀ c ∈ toL (tlS (txS d k)), bitC c = true) ∧ (txS d k).size = (padS d k).size + 1 := by
  have hd := vldB_len hv
  have hP := padS_size d k
  have hbits : ∀ c ∈ toL (padS d k), bitC c = true := by
    unfold padS
    rw [toL_ap, zz_toL']
    intro c hc
    rcases List.mem_append.1 hc with h | h
    · rw [(List.mem_replicate.1 h).2]; rfl
    · exact vldB_bits hv c h
  have e : toL (txS d k) = (toL (padS d k)).take ((padS d k).size - k) ++ 46 :: (toL (padS d k)).drop ((padS d k).size - k) := by
    unfold txS
    rw [toL_ap, toL_ap, toL_extract, toL_extract, List.drop_zero, List.take_of_length_le (l := toL (padS d k)) (i := (padS d k).size) (by rw [toL_len]; exact Nat.le_refl _), List.append_assoc]
    rfl
  obtain ⟨h1, h2⟩ := cut_parts e (bits_no46 (fun c hc => hbits c (List.mem_of_mem_take hc)))
  refine ⟨by rw [h1, h2, List.take_append_drop], ?_, ?_, ?_⟩
  · rw [← toL_len, h2, List.length_drop, toL_len]; omega
  · rw [h2]; exact fun c hc => hbits c (List.mem_of_mem_drop hc)
  · rw [← toL_len, e, List.length_append, List.length_cons, List.length_take, List.length_drop, toL_len]; omega
/-- ahead of some digits the number is small, if it is small behind them -/
theorem head_in : ∀ (l : List UInt8) (p : Int × Int), (∀ c ∈ l, bitC c = true) → in6 (vF p l).1 (vF p l).2 → in6 p.1 p.2
  | [], _, _, h => h
  | c :: l, p, hb, h => by
    have hd := dg_bit (hb c (by simp))
    have ih := head_in l (-p.1 - p.2 + dg c, p.1 - p.2) (fun c hc => hb c (by simp [hc])) h
    have h1 : in6 (-p.1 - p.2 + dg c) (p.1 - p.2) := ih
    unfold in6 at h1 ⊢
    omega
/-- the text of a small number: its point, multiplied back, is the number; and read exactly, it is the number, too -/
theorem text_back {d : ByteArray} {x y : Int} (hv : vldB d = true) {k : Nat} (hk : k ≤ 30) (hx : valF (toL d) = (x, y)) (hi : inB 1000000 x y = true) :
    ptB (txS d k) = true ∧ (tlS (txS d k)).size = k ∧ (txS d k).size ≤ 2000000 ∧ (valX (toL (hdS (txS d k) ++ tlS (txS d k))) = x ∧ valY (toL (hdS (txS d k) ++ tlS (txS d k))) = y) ∧
    ∃ p : Int × Int, Vl2 .f64 (ptR .f64 (txS d k)) (ptI .f64 (txS d k)) p ∧ ptR .f64 (txS d k) < 18446744073709551616 ∧ (∀ j, j < k → Okv2 .f64 (tb (tbI j p))) ∧ tbI k p = (x * 2 ^ un .f64, y * 2 ^ un .f64) := by
  have hc := txS_cut hv hk
  obtain ⟨t1, t2, t3, t4⟩ := tx_parts hv k
  have hd := vldB_len hv
  have hP := padS_size d k
  generalize txS d k = s at *
  obtain ⟨c0, c1, c2, c3⟩ := cutB_facts hc
  have e0 : valF (toL (hdS s) ++ toL (tlS s)) = (x, y) := by
    rw [t1]; unfold padS; rw [toL_ap, zz_toL', val_pad]; exact hx
  have ev : vF (valF (toL (hdS s))) (toL (tlS s)) = (x, y) := by rw [vF_app]; exact e0
  have e : vF (valX (toL (hdS s)), valY (toL (hdS s))) (toL (tlS s)) = (x, y) := ev
  obtain ⟨b1, b2, b3, b4⟩ := inB_le hi
  have hsm : in6 (valX (toL (hdS s))) (valY (toL (hdS s))) := head_in (toL (tlS s)) (valX (toL (hdS s)), valY (toL (hdS s))) t3 (by rw [e]; exact ⟨b1, b2, b3, b4⟩)
  have hi2 : inB 1000000 (valX (toL (hdS s))) (valY (toL (hdS s))) = true := by
    obtain ⟨a1, a2, a3, a4⟩ := hsm
    simp [inB, inR]; omega
  obtain ⟨a1, a2, a3, a4⟩ := hsm
  have hl : (toL (tlS s)).length = k := (toL_len _).trans t2
  have hx := exact_point t3 (by rw [hl]; exact hk) ⟨a1, a2⟩ ⟨a3, a4⟩ (by rw [e]; exact ⟨b1, b2⟩) (by rw [e]; exact ⟨b3, b4⟩)
  rw [e, hl] at hx
  obtain ⟨p, p1, p2, p3⟩ := hx
  obtain ⟨q1, -, -⟩ := last_ops .f64 c3 ⟨a1, a2⟩ ⟨a3, a4⟩
  refine ⟨by unfold ptB; rw [hc, hi2]; rfl, t2, by omega, ?_, p, p1, Format.add_lt _ q1, p2, p3⟩
  rw [toL_append]
  unfold valX valY
  rw [e0]
  exact ⟨rfl, rfl⟩
end Go.Proofs.YtlcafjdinjdllabDoor
