/- Short points are exact in the narrower width, too. No law is stated here. -/
import Derived.Test.YtlcafjdinjdllabPvd
namespace Go.Proofs.Ytlcafjdinjdllab
set_option linter.unusedSimpArgs false
set_option linter.unusedVariables false
open Ieee

theorem pdvd {a b : Nat} (h : a ≤ b) : (2 : Int) ^ a ∣ 2 ^ b := ⟨2 ^ (b - a), by rw [← Int.pow_add]; congr 1; omega⟩
theorem ev_two : ∀ (l : List UInt8), (2 : Int) ^ (l.length / 2) ∣ (ev l).1 ∧ (2 : Int) ^ (l.length / 2) ∣ (ev l).2 ∧ (2 : Int) ^ ((l.length + 1) / 2) ∣ (ev l).1 + (ev l).2
  | [] => ⟨⟨0, rfl⟩, ⟨0, rfl⟩, ⟨0, rfl⟩⟩
  | c :: l => by
    obtain ⟨h1, h2, h3⟩ := ev_two l
    show (2 : Int) ^ ((l.length + 1) / 2) ∣ (ev l).2 - ((ev l).1 + dg c * 2 ^ l.length) ∧ (2 : Int) ^ ((l.length + 1) / 2) ∣ -((ev l).1 + dg c * 2 ^ l.length) - (ev l).2 ∧ (2 : Int) ^ ((l.length + 1 + 1) / 2) ∣ (ev l).2 - ((ev l).1 + dg c * 2 ^ l.length) + (-((ev l).1 + dg c * 2 ^ l.length) - (ev l).2)
    have a1 : (2 : Int) ^ (l.length / 2 + 1) ∣ 2 * (ev l).1 := by rw [Int.pow_succ, Int.mul_comm]; exact Int.mul_dvd_mul_left 2 h1
    have p1 : (2 : Int) ^ ((l.length + 1) / 2) ∣ 2 ^ (l.length / 2 + 1) := pdvd (by omega)
    have p2 : (2 : Int) ^ ((l.length + 1) / 2) ∣ dg c * 2 ^ l.length := Int.dvd_mul_of_dvd_right (pdvd (by omega))
    have p3 : (2 : Int) ^ (l.length / 2 + 1) ∣ 2 * (dg c * 2 ^ l.length) := by
      have e : 2 * (dg c * 2 ^ l.length) = dg c * 2 ^ (l.length + 1) := by rw [Int.pow_succ, Int.mul_comm, Int.mul_assoc]
      rw [e]
      exact Int.dvd_mul_of_dvd_right (pdvd (by omega))
    have a2 := Int.dvd_trans p1 a1
    refine ⟨?_, ?_, ?_⟩
    · have e : (ev l).2 - ((ev l).1 + dg c * 2 ^ l.length) = (ev l).1 + (ev l).2 - 2 * (ev l).1 - dg c * 2 ^ l.length := by omega
      rw [e]; exact Int.dvd_sub (Int.dvd_sub h3 a2) p2
    · have e : -((ev l).1 + dg c * 2 ^ l.length) - (ev l).2 = -((ev l).1 + (ev l).2 + dg c * 2 ^ l.length) := by omega
      rw [e]; exact Int.dvd_neg.2 (Int.dvd_add h3 p2)
    · have e : (ev l).2 - ((ev l).1 + dg c * 2 ^ l.length) + (-((ev l).1 + dg c * 2 ^ l.length) - (ev l).2) = -(2 * (ev l).1 + 2 * (dg c * 2 ^ l.length)) := by omega
      rw [e, show (l.length + 1 + 1) / 2 = l.length / 2 + 1 by omega]; exact Int.dvd_neg.2 (Int.dvd_add a1 p3)
theorem ev_bd : ∀ (l : List UInt8), (∀ c ∈ l, bitC c = true) → (ev l).1.natAbs ≤ 2 * 2 ^ l.length ∧ (ev l).2.natAbs ≤ 2 * 2 ^ l.length
  | [], _ => by simp [ev]
  | [c], h => by
    have := dg_bit (h c (by simp))
    simp [ev]; omega
  | c :: d :: l, h => by
    have hc := dg_bit (h c (by simp))
    have hd := dg_bit (h d (by simp))
    obtain ⟨h1, h2⟩ := ev_bd l (fun c hc => h c (by simp [hc]))
    have e1 : (ev (c :: d :: l)).1 = -((ev l).1 + dg d * 2 ^ l.length) - (ev l).2 - ((ev l).2 - ((ev l).1 + dg d * 2 ^ l.length) + dg c * 2 ^ (l.length + 1)) := rfl
    have e2 : (ev (c :: d :: l)).2 = -((ev l).2 - ((ev l).1 + dg d * 2 ^ l.length) + dg c * 2 ^ (l.length + 1)) - (-((ev l).1 + dg d * 2 ^ l.length) - (ev l).2) := rfl
    have e3 : (2 : Nat) ^ (c :: d :: l).length = 4 * 2 ^ l.length := by simp [Nat.pow_succ]; omega
    have e4 : (2 : Int) ^ (l.length + 1) = 2 * 2 ^ l.length := by rw [Int.pow_succ, Int.mul_comm]
    rw [e1, e2, e3, e4]
    have e5 : ((2 ^ l.length : Nat) : Int) = 2 ^ l.length := Int.natCast_pow 2 _
    rw [← e5]
    generalize 2 ^ l.length = P at *
    have c1 : dg c = 0 ∨ dg c = 1 := by omega
    have d1 : dg d = 0 ∨ dg d = 1 := by omega
    rcases c1 with c1 | c1 <;> rcases d1 with d1 | d1 <;> rw [c1, d1] <;> omega
/-- exact in the narrower width -/
theorem okS {m : Int} {n e : Nat} (hn : n ≤ 40) (he : e + n = 149 ∨ e + n = 150) (hd : (2 : Int) ^ (n / 2) ∣ m) (hm : m.natAbs < 2 ^ (n + 4)) : Rep single (m.natAbs * 2 ^ e) ∧ Okv .f32 (m * 2 ^ e) := by
  have hr : Rep single (m.natAbs * 2 ^ e) := by
    refine rep_scale ⟨n / 2, ?_, ?_⟩ e
    · have : ((2 ^ (n / 2) : Nat) : Int) ∣ m := by rw [Int.natCast_pow]; exact hd
      exact Int.natCast_dvd_natCast.1 (Int.dvd_natAbs.2 this)
    · exact Nat.lt_of_lt_of_le hm (Nat.pow_le_pow_right (by omega) (by show n + 4 ≤ 23 + 1 + n / 2; omega))
  refine ⟨hr, ?_, ?_⟩
  · rw [natAbs_pow]; exact hr
  · rw [natAbs_pow]
    have h1 : m.natAbs * 2 ^ e ≤ 2 ^ (n + 4) * 2 ^ e := Nat.mul_le_mul_right _ (Nat.le_of_lt hm)
    rw [← Nat.pow_add] at h1
    have h2 : 2 ^ (n + 4 + e) ≤ 2 ^ (5 + 149) := Nat.pow_le_pow_right (by omega) (by omega)
    have h3 : 2 ^ (5 + 149) = 32 * 2 ^ 149 := by rw [Nat.pow_add]
    have h4 : 32 * 2 ^ 149 ≤ 2000000 * 2 ^ un .f32 := Nat.mul_le_mul_right _ (by omega)
    omega
theorem vl_halfS {x : Nat} {m : Int} {e : Nat} (hx : Vl .f32 x (m * 2 ^ (e + 1))) (hr : Rep single (m.natAbs * 2 ^ e)) (hl : m.natAbs * 2 ^ (e + 1) ≤ 2000000 * 2 ^ un .f32) :
    ∃ r, floatBits .quo .f32 x 1073741824 = some r ∧ Vl .f32 r (m * 2 ^ e) := by
  obtain ⟨s, V, h2, h3⟩ := hx
  have hV := sg_of h3
  refine ⟨_, fl_div2 h2 two_s, s, m.natAbs * 2 ^ e, ?_, ?_⟩
  · have h4 := fl_half (f := single) s V (lim_s (u := 1) (by rw [hV]; omega))
    have e1 : rndU single 1 V = m.natAbs * 2 ^ e := by
      rw [hV, Nat.pow_succ, ← Nat.mul_assoc]
      have := rndU_exact (f := single) (u := 1) (c := m.natAbs * 2 ^ e) hr
      rwa [Nat.pow_one] at this
    rw [e1] at h4
    exact h4
  · rw [hV] at h3
    have hp : (2 : Int) ^ (e + 1) ≠ 0 := Int.pow_ne_zero (by decide)
    rw [sg_scale] at h3 ⊢
    rw [Int.eq_of_mul_eq_mul_right hp h3]
theorem split2 (d : Int) {n e : Nat} (h : e + n = 149) : d * ((2 ^ un .f32 : Nat) : Int) = d * 2 ^ n * 2 ^ e := by
  rw [Int.mul_assoc, ← Int.pow_add, Int.natCast_pow]
  congr 2
  show 149 = n + e
  omega
theorem pv_ex32 : ∀ (l : List UInt8), (∀ c ∈ l, bitC c = true) → l.length ≤ 40 → ∀ e, e + l.length = 149 → Vl .f32 (pv .f32 l).1 ((ev l).1 * 2 ^ e) ∧ Vl .f32 (pv .f32 l).2 ((ev l).2 * 2 ^ e)
  | [], _, _, e, _ => by
    have e0 : ev [] = (0, 0) := rfl
    rw [e0]
    simp only [Int.zero_mul]
    exact ⟨vl_noughtK _, vl_noughtK _⟩
  | c :: l, h, hl, e, he => by
    simp only [List.length_cons] at hl he
    have hb := fun c hc => h c (List.mem_cons_of_mem _ hc)
    obtain ⟨x1, x2⟩ := pv_ex32 l hb (by omega) (e + 1) (by omega)
    obtain ⟨t1, t2, t3⟩ := ev_two l
    obtain ⟨u1, u2⟩ := ev_bd l hb
    obtain ⟨v1, v2, -⟩ := ev_two (c :: l)
    obtain ⟨w1, w2⟩ := ev_bd (c :: l) h
    simp only [List.length_cons] at v1 v2 w1 w2
    have hd := bit_vlK .f32 rfl c (h c (by simp))
    rw [split2 (dg c) (n := l.length) (e := e + 1) (by omega)] at hd
    have hdg := dg_bit (h c (by simp))
    have hn0 := Nat.two_pow_pos l.length
    have e5 : ((2 ^ l.length : Nat) : Int) = 2 ^ l.length := Int.natCast_pow 2 _
    have hdP : (dg c * 2 ^ l.length).natAbs ≤ 2 ^ l.length := by
      rw [natAbs_pow]
      exact Nat.le_trans (Nat.mul_le_mul_right _ (show (dg c).natAbs ≤ 1 by omega)) (by omega)
    have hA : (2 : Int) ^ (l.length / 2) ∣ (ev l).1 + dg c * 2 ^ l.length := Int.dvd_add t1 (Int.dvd_mul_of_dvd_right (pdvd (by omega)))
    have q4 : 2 ^ (l.length + 4) = 16 * 2 ^ l.length := by rw [Nat.pow_add, Nat.mul_comm]
    have q5 : 2 ^ (l.length + 1 + 4) = 16 * 2 ^ (l.length + 1) := by rw [Nat.pow_add, Nat.mul_comm]
    have hn1 := Nat.two_pow_pos (l.length + 1)
    have bA : ((ev l).1 + dg c * 2 ^ l.length).natAbs < 2 ^ (l.length + 4) := by
      have := Int.natAbs_add_le (ev l).1 (dg c * 2 ^ l.length)
      omega
    obtain ⟨p, p1, p2⟩ := vl_add x1 hd (by rw [← Int.add_mul]; exact (okS (n := l.length) (by omega) (by omega) hA bA).2)
    rw [← Int.add_mul] at p2
    obtain ⟨q, q1, q2⟩ := vl_add x2 (vl_noughtK _) (by rw [Int.add_zero]; exact (okS (n := l.length) (by omega) (by omega) t2 (by omega)).2)
    rw [Int.add_zero] at q2
    have E1 : (ev (c :: l)).1 = (ev l).2 - ((ev l).1 + dg c * 2 ^ l.length) := rfl
    have E2 : (ev (c :: l)).2 = -((ev l).1 + dg c * 2 ^ l.length) - (ev l).2 := rfl
    have o1 := okS (n := l.length + 1) (e := e + 1) (by omega) (by omega) v1 (by omega)
    have o2 := okS (n := l.length + 1) (e := e + 1) (by omega) (by omega) v2 (by omega)
    have o3 := okS (n := l.length + 1) (e := e) (by omega) (by omega) v1 (by omega)
    have o4 := okS (n := l.length + 1) (e := e) (by omega) (by omega) v2 (by omega)
    rw [E1] at o1 o3 ⊢
    rw [E2] at o2 o4 ⊢
    generalize (ev l).1 + dg c * 2 ^ l.length = A at *
    generalize (ev l).2 = B at *
    obtain ⟨f, f1, f2⟩ := vl_sub q2 p2 (by rw [← Int.sub_mul]; exact o1.2)
    obtain ⟨n, n1, n2⟩ := vl_sub (vl_noughtK .f32) p2 (by rw [Int.zero_sub, ← Int.neg_mul]; exact (okS (n := l.length) (by omega) (by omega) (Int.dvd_neg.2 hA) (by rw [Int.natAbs_neg]; exact bA)).2)
    rw [Int.zero_sub, ← Int.neg_mul] at n2
    obtain ⟨g, g1, g2⟩ := vl_sub n2 q2 (by rw [← Int.sub_mul]; exact o2.2)
    rw [← Int.sub_mul] at f2 g2
    obtain ⟨r, r1, r2⟩ := vl_halfS f2 o3.1 (by rw [← natAbs_pow]; exact o1.2.2)
    obtain ⟨i, i1, i2⟩ := vl_halfS g2 o4.1 (by rw [← natAbs_pow]; exact o2.2.2)
    have er : plR .f32 (pv .f32 l) c = p := by simp [plR, gd, p1]
    have ei : plI .f32 (pv .f32 l) = q := by simp [plI, gd, q1]
    obtain ⟨h1, h2⟩ := div_of (k := .f32) (x := p) (y := q) ⟨f1, r1, n1, g1, i1⟩
    have ep : pv .f32 (c :: l) = (divR .f32 (plR .f32 (pv .f32 l) c) (plI .f32 (pv .f32 l)), divI .f32 (plR .f32 (pv .f32 l) c) (plI .f32 (pv .f32 l))) := rfl
    rw [ep, er, ei, h1, h2]
    exact ⟨r2, i2⟩
end Go.Proofs.Ytlcafjdinjdllab
