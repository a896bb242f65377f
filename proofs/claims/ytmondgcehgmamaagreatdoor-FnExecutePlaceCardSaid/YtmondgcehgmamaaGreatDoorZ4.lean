/- Merged texts: Fl Fm Pv Vl Cw Cm Cs Bq Ca Wb Ce Yl Wc DrawW Po Same DrawZ Ym Pt Sub Sub2 Yn. No law is stated here. -/
import Derived.WalkKit
import Derived.Laws.ComplexArith
import GoSem.Op.Unary
import Derived.Deep.QuietTactic
import Derived.Sort.AtCall
import Derived.Lib.ParseIntB
import Derived.Shelf.Pu.ParseUintPublic10
import Derived.Laws.Externs
import Derived.Test.YtmondgcehgmamaaGreatDoorZ3
namespace Go.Proofs.YtmondgcehgmamaaGreatDoor
set_option linter.unusedSimpArgs false
set_option linter.unusedVariables false
open Ieee
/-- n over 2 to the power of p, rounded to the nearest, between two the even one -/
def rnd (n p : Nat) : Nat := n / 2 ^ p + (decide (2 ^ p < 2 * (n % 2 ^ p)) || (2 ^ p == 2 * (n % 2 ^ p) && n / 2 ^ p % 2 == 1)).toNat
theorem cut_rnd (s : Bool) (n p : Nat) : Toward.even.cut s n p = rnd n p := by
  unfold Toward.cut rnd
  simp only [Nat.one_shiftLeft]
  rcases Nat.le_total p (n.log2 + 2) with h | h
  · rw [Nat.min_eq_left h]
  · rw [Nat.min_eq_right h]
    have h1 : n < 2 ^ (n.log2 + 1) := Nat.lt_log2_self
    have h2 : 2 ^ (n.log2 + 2) = 2 * 2 ^ (n.log2 + 1) := by rw [Nat.pow_succ]; omega
    have h3 : 2 ^ (n.log2 + 2) ≤ 2 ^ p := Nat.pow_le_pow_right (by omega) h
    rw [Nat.div_eq_of_lt (by omega), Nat.mod_eq_of_lt (by omega), Nat.div_eq_of_lt (a := n) (b := 2 ^ p) (by omega), Nat.mod_eq_of_lt (a := n) (b := 2 ^ p) (by omega)]
    have e1 : decide (2 ^ (n.log2 + 2) < 2 * n) = false := by simp; omega
    have e2 : decide (2 ^ p < 2 * n) = false := by simp; omega
    simp [e1, e2]
theorem rnd_none (n : Nat) : rnd n 0 = n := by
  simp [rnd, Nat.mod_one]
theorem rnd_scale (n p t : Nat) : rnd (n * 2 ^ t) (p + t) = rnd n p := by
  unfold rnd
  have hp := Nat.two_pow_pos t
  rw [Nat.pow_add, Nat.mul_div_mul_right _ _ hp, Nat.mul_mod_mul_right]
  generalize n % 2 ^ p = r
  generalize 2 ^ p = g
  have e : 2 * (r * 2 ^ t) = (2 * r) * 2 ^ t := by rw [Nat.mul_assoc]
  have e1 : decide (g * 2 ^ t < 2 * (r * 2 ^ t)) = decide (g < 2 * r) := by
    rw [e]; exact decide_eq_decide.2 (Nat.mul_lt_mul_right hp)
  have e2 : (g * 2 ^ t == 2 * (r * 2 ^ t)) = (g == 2 * r) := by
    rw [e]
    rw [Bool.eq_iff_iff]
    simp only [beq_iff_eq]
    exact ⟨fun h => Nat.eq_of_mul_eq_mul_right hp h, fun h => by rw [h]⟩
  rw [e1, e2]
theorem rnd_exact (k p : Nat) : rnd (k * 2 ^ p) p = k := by
  have := rnd_scale k 0 p
  rw [Nat.zero_add, rnd_none] at this
  exact this
theorem rnd_le {n p M : Nat} (h : n ≤ M * 2 ^ p) : rnd n p ≤ M := by
  have hp := Nat.two_pow_pos p
  have h1 : n / 2 ^ p ≤ M := Nat.div_le_of_le_mul (by rw [Nat.mul_comm]; exact h)
  unfold rnd
  rcases Nat.lt_or_eq_of_le h1 with h2 | h2
  · have := Bool.toNat_le (decide (2 ^ p < 2 * (n % 2 ^ p)) || (2 ^ p == 2 * (n % 2 ^ p) && n / 2 ^ p % 2 == 1))
    omega
  · have h3 := Nat.div_add_mod n (2 ^ p)
    rw [h2, Nat.mul_comm] at h3
    have h4 : n % 2 ^ p = 0 := by omega
    rw [h4, h2]
    have e : (2 ^ p == 2 * 0) = false := by simp
    simp [e]
theorem rnd_ge {n p M : Nat} (h : M * 2 ^ p ≤ n) : M ≤ rnd n p := by
  have h1 : M ≤ n / 2 ^ p := (Nat.le_div_iff_mul_le (Nat.two_pow_pos p)).2 h
  unfold rnd
  omega
theorem log2_scale {n : Nat} (h : n ≠ 0) (t : Nat) : (n * 2 ^ t).log2 = n.log2 + t := by
  rw [Nat.log2_eq_iff (Nat.mul_ne_zero h (Nat.ne_of_gt (Nat.two_pow_pos t)))]
  refine ⟨?_, ?_⟩
  · rw [Nat.pow_add]; exact Nat.mul_le_mul_right _ (Nat.log2_self_le h)
  · rw [show n.log2 + t + 1 = (n.log2 + 1) + t by omega, Nat.pow_add]
    exact (Nat.mul_lt_mul_right (Nat.two_pow_pos t)).2 Nat.lt_log2_self
theorem nearest_zero (f : Format) (s : Bool) (p : Int) : f.nearest s 0 p = f.word s 0 := by simp [Format.nearest]
theorem nearest_shift (f : Format) (s : Bool) (m t : Nat) (p : Int) : f.nearest s (m * 2 ^ t) (p - t) = f.nearest s m p := by
  rcases Nat.eq_zero_or_pos m with rfl | hm
  · rw [Nat.zero_mul, nearest_zero, nearest_zero]
  have hm0 : m ≠ 0 := by omega
  have hmt : m * 2 ^ t ≠ 0 := Nat.mul_ne_zero hm0 (Nat.ne_of_gt (Nat.two_pow_pos t))
  unfold Format.nearest
  rw [if_neg hm0, if_neg hmt]
  simp only [log2_scale hm0, cut_rnd, Nat.shiftLeft_eq]
  have e : max (p - (t : Int) + ((m.log2 + t : Nat) : Int) - (f.fractionBits : Int)) f.leastPlace = max (p + (m.log2 : Int) - (f.fractionBits : Int)) f.leastPlace := by omega
  rw [e]
  generalize max (p + (m.log2 : Int) - (f.fractionBits : Int)) f.leastPlace = last
  have k : rnd (m * 2 ^ t * 2 ^ (p - (t : Int) - last).toNat) (last - (p - (t : Int))).toNat = rnd (m * 2 ^ (p - last).toNat) (last - p).toNat := by
    by_cases c1 : last ≤ p - t
    · rw [show (last - (p - (t : Int))).toNat = 0 by omega, show (last - p).toNat = 0 by omega, rnd_none, rnd_none, Nat.mul_assoc, ← Nat.pow_add, show t + (p - (t : Int) - last).toNat = (p - last).toNat by omega]
    · by_cases c2 : last ≤ p
      · rw [show (p - (t : Int) - last).toNat = 0 by omega, show (last - p).toNat = 0 by omega, rnd_none, Nat.pow_zero, Nat.mul_one]
        have e3 : t = (p - last).toNat + (last - (p - (t : Int))).toNat := by omega
        generalize (last - (p - (t : Int))).toNat = a at e3
        rw [e3, Nat.pow_add, ← Nat.mul_assoc, rnd_exact]
      · rw [show (p - (t : Int) - last).toNat = 0 by omega, show (p - last).toNat = 0 by omega, Nat.pow_zero, Nat.mul_one, Nat.mul_one, show (last - (p - (t : Int))).toNat = (last - p).toNat + t by omega, rnd_scale]
  rw [k]
/-- the number of units that a number of 2 to the power of -u units is rounded to -/
def dropU (f : Format) (u V : Nat) : Nat := max (V.log2 - f.fractionBits) u
def rndU (f : Format) (u V : Nat) : Nat := rnd V (dropU f u V) * 2 ^ (dropU f u V - u)
theorem nearest_eq (f : Format) (s : Bool) {V : Nat} (hV : V ≠ 0) (u : Nat) {p : Int} (hp : p + u = f.leastPlace) :
    f.nearest s V p = f.word s (min ((dropU f u V - u) * f.binade + rnd V (dropU f u V)) f.infRung) := by
  unfold Format.nearest dropU
  rw [if_neg hV]
  have e : max (p + (V.log2 : Int) - (f.fractionBits : Int)) f.leastPlace = p + ((max (V.log2 - f.fractionBits) u : Nat) : Int) := by omega
  simp only [e, cut_rnd, Nat.shiftLeft_eq]
  generalize max (V.log2 - f.fractionBits) u = d
  rw [show (p - (p + (d : Int))).toNat = 0 by omega, show (p + (d : Int) - p).toNat = d by omega, show (p + (d : Int) - f.leastPlace).toNat = d - u by omega, Nat.pow_zero, Nat.mul_one]
theorem infRung_le (f : Format) : f.infRung ≤ f.signWeight := Nat.le_of_lt (Format.infRung_lt f)
theorem read_word (f : Format) (s : Bool) {r : Nat} (h : r < f.infRung) :
    f.read (f.word s r) = if r < f.binade then .number s r f.leastPlace else .number s (f.binade + r % f.binade) (f.leastPlace + (r / f.binade - 1 : Nat)) := by
  have hw := infRung_le f
  have hpos : 0 < f.signWeight := by omega
  have e1 : (f.word s r / f.signWeight % 2 == 1) = s := by
    cases s
    · show (r / f.signWeight % 2 == 1) = false
      rw [Nat.div_eq_of_lt (by omega)]; rfl
    · show ((f.signWeight + r) / f.signWeight % 2 == 1) = true
      rw [Nat.add_div_left _ hpos, Nat.div_eq_of_lt (by omega)]; rfl
  have e2 : f.word s r % f.signWeight = r := by
    cases s
    · show r % f.signWeight = r
      exact Nat.mod_eq_of_lt (by omega)
    · show (f.signWeight + r) % f.signWeight = r
      rw [Nat.add_mod_left]; exact Nat.mod_eq_of_lt (by omega)
  unfold Format.read
  simp only [e1, e2, if_pos h]
/-- a word that stands for V units, of a sign -/
def Fl (f : Format) (x : Nat) (s : Bool) (V : Nat) : Prop := ∃ m k : Nat, f.read x = .number s m (f.leastPlace + (k : Int)) ∧ m * 2 ^ k = V ∧ m < 2 ^ (f.fractionBits + 1)
theorem binade_pos (f : Format) : 0 < f.binade := Nat.two_pow_pos _
theorem fl_word (f : Format) (s : Bool) {e k : Nat} (hk : k ≤ 2 * f.binade) (he : e = 0 ∨ f.binade ≤ k) (hr : e + 2 < 2 ^ f.exponentBits - 1) :
    e * f.binade + k < f.infRung ∧ Fl f (f.word s (e * f.binade + k)) s (k * 2 ^ e) := by
  have hb := binade_pos f
  have h2 : 2 ^ (f.fractionBits + 1) = 2 * f.binade := by rw [Nat.pow_succ, Nat.mul_comm]; rfl
  have hi : e * f.binade + k < f.infRung := by
    have h1 : (e + 2) * f.binade < f.infRung := (Nat.mul_lt_mul_right hb).2 hr
    rw [Nat.add_mul] at h1
    omega
  refine ⟨hi, ?_⟩
  unfold Fl
  rw [read_word f s hi, h2]
  generalize f.binade = B at *
  by_cases c : e * B + k < B
  · have e0 : e = 0 := by
      rcases he with h | h
      · exact h
      · have := Nat.zero_le (e * B); omega
    subst e0
    rw [if_pos c]
    exact ⟨0 * B + k, 0, by simp, by simp, by omega⟩
  · rw [if_neg c]
    by_cases c2 : k = 2 * B
    · subst c2
      have q : (e * B + 2 * B) / B = e + 2 := by rw [← Nat.add_mul]; exact Nat.mul_div_cancel _ hb
      have q2 : (e * B + 2 * B) % B = 0 := by rw [← Nat.add_mul]; exact Nat.mul_mod_left _ _
      refine ⟨B, e + 1, ?_, ?_, by omega⟩
      · rw [q, q2]; congr 1
      · rw [Nat.pow_succ]; ac_rfl
    · have kB : B ≤ k := by
        rcases he with h | h
        · subst h; omega
        · exact h
      obtain ⟨j, rfl⟩ : ∃ j, k = B + j := ⟨k - B, by omega⟩
      have e3 : e * B + (B + j) = j + B * (e + 1) := by rw [Nat.mul_add, Nat.mul_comm e B]; omega
      have q : (e * B + (B + j)) / B = e + 1 := by rw [e3, Nat.add_mul_div_left _ _ hb, Nat.div_eq_of_lt (by omega)]; omega
      have q2 : (e * B + (B + j)) % B = j := by rw [e3, Nat.add_mul_mod_self_left, Nat.mod_eq_of_lt (by omega)]
      refine ⟨B + j, e, ?_, rfl, by omega⟩
      rw [q, q2]; congr 1
theorem fl_zero (f : Format) (s : Bool) (hb : f.binade ≤ f.infRung) : Fl f (f.word s 0) s 0 := by
  have := binade_pos f
  refine ⟨0, 0, ?_, by simp, Nat.two_pow_pos _⟩
  rw [read_word f s (by omega), if_pos (by omega)]
  simp
theorem rnd_top (f : Format) (u V : Nat) : rnd V (dropU f u V) ≤ 2 * f.binade := by
  apply rnd_le
  have h1 : V < 2 ^ (V.log2 + 1) := Nat.lt_log2_self
  have h2 : 2 ^ (V.log2 + 1) ≤ 2 ^ (f.fractionBits + 1 + dropU f u V) := Nat.pow_le_pow_right (by omega) (by unfold dropU; omega)
  have h3 : 2 ^ (f.fractionBits + 1 + dropU f u V) = 2 * f.binade * 2 ^ dropU f u V := by
    rw [Nat.pow_add, Nat.pow_succ, Nat.mul_comm (2 ^ f.fractionBits) 2]; rfl
  omega
theorem rnd_bottom (f : Format) {u V : Nat} (hV : V ≠ 0) (h : u < dropU f u V) : f.binade ≤ rnd V (dropU f u V) := by
  apply rnd_ge
  have h1 : 2 ^ V.log2 ≤ V := Nat.log2_self_le hV
  have h2 : 2 ^ (f.fractionBits + dropU f u V) ≤ 2 ^ V.log2 := Nat.pow_le_pow_right (by omega) (by unfold dropU at *; omega)
  rw [Nat.pow_add] at h2
  exact Nat.le_trans h2 h1
theorem fl_nearest (f : Format) (s : Bool) (V u : Nat) {p : Int} (hp : p + u = f.leastPlace) (hl : dropU f u V - u + 2 < 2 ^ f.exponentBits - 1) :
    Fl f (f.nearest s V p) s (rndU f u V) := by
  by_cases hV : V = 0
  · subst hV
    rw [nearest_zero]
    have e : rndU f u 0 = 0 := by
      unfold rndU
      have : rnd 0 (dropU f u 0) ≤ 0 := rnd_le (by omega)
      rw [Nat.le_zero.1 this, Nat.zero_mul]
    rw [e]
    refine fl_zero f s ?_
    show f.binade ≤ (2 ^ f.exponentBits - 1) * f.binade
    exact Nat.le_mul_of_pos_left _ (by omega)
  · rw [nearest_eq f s hV u hp]
    have h := fl_word f s (e := dropU f u V - u) (rnd_top f u V) (by
      by_cases c : u < dropU f u V
      · exact .inr (rnd_bottom f hV c)
      · exact .inl (by omega)) hl
    rw [Nat.min_eq_left (Nat.le_of_lt h.1)]
    exact h.2
/-- representable -/
def Rep (f : Format) (c : Nat) : Prop := ∃ d, 2 ^ d ∣ c ∧ c < 2 ^ (f.fractionBits + 1 + d)
theorem rep_small {f : Format} {c : Nat} (h : c < 2 ^ (f.fractionBits + 1)) : Rep f c := ⟨0, by simp, by simpa using h⟩
theorem rep_scale {f : Format} {c : Nat} (h : Rep f c) (t : Nat) : Rep f (c * 2 ^ t) := by
  obtain ⟨d, h1, h2⟩ := h
  refine ⟨d + t, ?_, ?_⟩
  · rw [Nat.pow_add]; exact Nat.mul_dvd_mul_right h1 _
  · rw [← Nat.add_assoc, Nat.pow_add]; exact (Nat.mul_lt_mul_right (Nat.two_pow_pos t)).2 h2
theorem fl_rep {f : Format} {x : Nat} {s : Bool} {V : Nat} (h : Fl f x s V) : Rep f V := by
  obtain ⟨m, k, _, rfl, h⟩ := h
  exact rep_scale (rep_small h) k
theorem drop_le {f : Format} {u V d : Nat} (hV : V ≠ 0) (hu : u ≤ d) (h : V < 2 ^ (f.fractionBits + 1 + d)) : dropU f u V ≤ d := by
  have := (Nat.log2_lt hV).2 h
  unfold dropU
  omega
theorem rndU_exact {f : Format} {u c : Nat} (h : Rep f c) : rndU f u (c * 2 ^ u) = c := by
  by_cases hc : c = 0
  · subst hc
    rw [Nat.zero_mul]
    unfold rndU
    have : rnd 0 (dropU f u 0) ≤ 0 := rnd_le (by omega)
    rw [Nat.le_zero.1 this, Nat.zero_mul]
  obtain ⟨d, ⟨b, rfl⟩, h2⟩ := h
  have hn : 2 ^ d * b * 2 ^ u ≠ 0 := Nat.mul_ne_zero hc (Nat.ne_of_gt (Nat.two_pow_pos u))
  have hd : dropU f u (2 ^ d * b * 2 ^ u) ≤ d + u := drop_le hn (by omega) (by
    rw [← Nat.add_assoc, Nat.pow_add]; exact (Nat.mul_lt_mul_right (Nat.two_pow_pos u)).2 h2)
  have hd2 : u ≤ dropU f u (2 ^ d * b * 2 ^ u) := by unfold dropU; omega
  unfold rndU
  generalize dropU f u (2 ^ d * b * 2 ^ u) = D at hd hd2
  obtain ⟨a, rfl⟩ : ∃ a, D = u + a := ⟨D - u, by omega⟩
  obtain ⟨c, rfl⟩ : ∃ c, d = a + c := ⟨d - a, by omega⟩
  have e : 2 ^ (a + c) * b * 2 ^ u = 2 ^ c * b * 2 ^ (u + a) := by
    rw [Nat.pow_add, Nat.pow_add]; ac_rfl
  rw [e, rnd_exact, show u + a - u = a by omega, Nat.pow_add]
  ac_rfl
theorem rndU_zero (f : Format) (u : Nat) : rndU f u 0 = 0 := by
  have := rndU_exact (f := f) (u := u) (c := 0) ⟨0, by simp, Nat.two_pow_pos _⟩
  rwa [Nat.zero_mul] at this
theorem rndU_le {f : Format} {u V M : Nat} (hM : Rep f M) (h : V ≤ M * 2 ^ u) : rndU f u V ≤ M := by
  by_cases hV : V = 0
  · subst hV
    rw [rndU_zero]; omega
  obtain ⟨d, ⟨b, rfl⟩, h2⟩ := hM
  have hd : dropU f u V ≤ d + u := drop_le hV (by omega) (by
    rw [← Nat.add_assoc, Nat.pow_add]
    exact Nat.lt_of_le_of_lt h ((Nat.mul_lt_mul_right (Nat.two_pow_pos u)).2 h2))
  have hd2 : u ≤ dropU f u V := by unfold dropU; omega
  unfold rndU
  generalize dropU f u V = D at hd hd2
  obtain ⟨a, rfl⟩ : ∃ a, D = u + a := ⟨D - u, by omega⟩
  obtain ⟨c, rfl⟩ : ∃ c, d = a + c := ⟨d - a, by omega⟩
  have e : 2 ^ (a + c) * b * 2 ^ u = 2 ^ c * b * 2 ^ (u + a) := by
    rw [Nat.pow_add, Nat.pow_add]; ac_rfl
  rw [e] at h
  have := rnd_le h
  rw [show u + a - u = a by omega, Nat.pow_add]
  calc rnd V (u + a) * 2 ^ a ≤ 2 ^ c * b * 2 ^ a := Nat.mul_le_mul_right _ this
    _ = 2 ^ a * 2 ^ c * b := by ac_rfl
theorem drop_lim {f : Format} {u V M : Nat} (h : V < 2 ^ (f.fractionBits + 1 + u + M)) : dropU f u V - u ≤ M := by
  by_cases hV : V = 0
  · subst hV
    unfold dropU
    rw [Nat.log2_zero]
    omega
  · have := drop_le (f := f) (u := u) (V := V) (d := u + M) hV (by omega) (by rwa [← Nat.add_assoc])
    omega
/-- the whole number that a sign and a size stand for -/
def sg (s : Bool) (V : Nat) : Int := if s then -(V : Int) else V
theorem sg_abs (s : Bool) (V : Nat) : (sg s V).natAbs = V := by cases s <;> simp [sg]
theorem signed_sg (s : Bool) (m k : Nat) : signed s m k = sg s (m * 2 ^ k) := by
  unfold signed sg; rw [Nat.shiftLeft_eq]
theorem sg_scale (s : Bool) (m k : Nat) : sg s (m * 2 ^ k) = sg s m * 2 ^ k := by
  cases s <;> simp [sg, Int.neg_mul]
/-- the word of a sum -/
def sumW (f : Format) (s : Bool) (V : Nat) (t : Bool) (W : Nat) : Nat :=
  f.nearest (if sg s V + sg t W = 0 then s && t else decide (sg s V + sg t W < 0)) (sg s V + sg t W).natAbs f.leastPlace
theorem sum_write {f : Format} {s t : Bool} {m n i j : Nat} :
    ((Datum.number s m (f.leastPlace + (i : Int))).sum (.number t n (f.leastPlace + (j : Int)))).map f.write = some (sumW f s (m * 2 ^ i) t (n * 2 ^ j)) := by
  unfold Datum.sum
  have hb : min (f.leastPlace + (i : Int)) (f.leastPlace + (j : Int)) = f.leastPlace + ((min i j : Nat) : Int) := by omega
  simp only [hb, Option.map_some, Format.write, signed_sg]
  rw [show (f.leastPlace + (i : Int) - (f.leastPlace + ((min i j : Nat) : Int))).toNat = i - min i j by omega, show (f.leastPlace + (j : Int) - (f.leastPlace + ((min i j : Nat) : Int))).toNat = j - min i j by omega]
  have e1 : sg s (m * 2 ^ i) = sg s (m * 2 ^ (i - min i j)) * 2 ^ min i j := by
    rw [← sg_scale, Nat.mul_assoc, ← Nat.pow_add, show i - min i j + min i j = i by omega]
  have e2 : sg t (n * 2 ^ j) = sg t (n * 2 ^ (j - min i j)) * 2 ^ min i j := by
    rw [← sg_scale, Nat.mul_assoc, ← Nat.pow_add, show j - min i j + min i j = j by omega]
  unfold sumW
  rw [e1, e2, ← Int.add_mul]
  generalize sg s (m * 2 ^ (i - min i j)) + sg t (n * 2 ^ (j - min i j)) = T
  generalize min i j = b
  have hp : (0 : Int) < 2 ^ b := by exact_mod_cast Nat.two_pow_pos b
  have c1 : (T * 2 ^ b = 0) = (T = 0) := by
    apply propext
    refine ⟨fun h => ?_, fun h => by rw [h, Int.zero_mul]⟩
    rcases Int.mul_eq_zero.1 h with h | h
    · exact h
    · omega
  have c2 : (T * 2 ^ b < 0) = (T < 0) := by
    apply propext
    refine ⟨fun h => ?_, fun h => Int.mul_neg_of_neg_of_pos h hp⟩
    rcases Int.lt_or_le T 0 with h2 | h2
    · exact h2
    · have := Int.mul_nonneg h2 (Int.le_of_lt hp); omega
  have c3 : (T * 2 ^ b).natAbs = T.natAbs * 2 ^ b := by rw [Int.natAbs_mul, Int.natAbs_pow]; rfl
  have c4 : f.leastPlace = (f.leastPlace + (b : Int)) - (b : Int) := by omega
  simp only [c1, c2, c3]
  conv => rhs; rw [c4]
  rw [nearest_shift]
theorem fl_add {f : Format} {x y : Nat} {s t : Bool} {V W : Nat} (hx : Fl f x s V) (hy : Fl f y t W) : f.add x y = some (sumW f s V t W) := by
  obtain ⟨m, i, h1, rfl, _⟩ := hx
  obtain ⟨n, j, h2, rfl, _⟩ := hy
  unfold Format.add
  rw [h1, h2, sum_write]
theorem fl_sub {f : Format} {x y : Nat} {s t : Bool} {V W : Nat} (hx : Fl f x s V) (hy : Fl f y t W) : f.sub x y = some (sumW f s V (!t) W) := by
  obtain ⟨m, i, h1, rfl, _⟩ := hx
  obtain ⟨n, j, h2, rfl, _⟩ := hy
  unfold Format.sub
  rw [h1, h2]
  exact sum_write
end Go.Proofs.YtmondgcehgmamaaGreatDoor

namespace Go.Proofs.YtmondgcehgmamaaGreatDoor
set_option linter.unusedSimpArgs false
set_option linter.unusedVariables false
open Ieee
/-- the sign and the size of a sum -/
def sumS (s : Bool) (V : Nat) (t : Bool) (W : Nat) : Bool := if sg s V + sg t W = 0 then s && t else decide (sg s V + sg t W < 0)
def sumA (s : Bool) (V : Nat) (t : Bool) (W : Nat) : Nat := (sg s V + sg t W).natAbs
theorem sumA_le (s : Bool) (V : Nat) (t : Bool) (W : Nat) : sumA s V t W ≤ V + W := by
  unfold sumA
  have := Int.natAbs_add_le (sg s V) (sg t W)
  rw [sg_abs, sg_abs] at this
  exact this
theorem fl_sum {f : Format} (s : Bool) (V : Nat) (t : Bool) (W : Nat) (hl : dropU f 0 (sumA s V t W) - 0 + 2 < 2 ^ f.exponentBits - 1) :
    Fl f (sumW f s V t W) (sumS s V t W) (rndU f 0 (sumA s V t W)) := fl_nearest f _ _ 0 (by omega) hl
/-- the half -/
theorem quot_two {f : Format} {s : Bool} {m i : Nat} (hm : m < 2 ^ (f.fractionBits + 1)) :
    ((Datum.number s m (f.leastPlace + (i : Int))).quotient (f.fractionBits + 2) (.number false (2 ^ f.fractionBits) (1 - (f.fractionBits : Int)))).map f.write = some (f.nearest s (m * 2 ^ i) (f.leastPlace - 1)) := by
  have hp := Nat.two_pow_pos f.fractionBits
  have hne : 2 ^ f.fractionBits ≠ 0 := by omega
  unfold Datum.quotient
  simp only [if_neg hne, Option.map_some, Nat.log2_two_pow, Nat.shiftLeft_eq, Bool.xor_false, Format.write]
  have hlog : m.log2 ≤ f.fractionBits := by
    rcases Nat.eq_zero_or_pos m with rfl | h
    · rw [Nat.log2_zero]; omega
    · have := (Nat.log2_lt (by omega)).2 hm; omega
  obtain ⟨a, ha⟩ : ∃ a, f.fractionBits + 2 + f.fractionBits - m.log2 = f.fractionBits + a := ⟨f.fractionBits + 2 - m.log2, by omega⟩
  rw [ha]
  have e1 : m * 2 ^ (f.fractionBits + a) = m * 2 ^ a * 2 ^ f.fractionBits := by rw [Nat.add_comm, Nat.pow_add, Nat.mul_assoc]
  rw [e1, Nat.mul_div_cancel _ hp, Nat.mul_mod_left]
  have e2 : 2 * (m * 2 ^ a) + (0 != 0).toNat = m * 2 ^ (a + 1) := by
    rw [show (0 != 0) = false by rfl, Nat.pow_succ]
    simp only [Bool.toNat_false, Nat.add_zero, Nat.mul_comm, Nat.mul_left_comm]
  rw [e2]
  have e3 : f.leastPlace + (i : Int) - (1 - (f.fractionBits : Int)) - ((f.fractionBits + a : Nat) : Int) - 1 = (f.leastPlace + (i : Int) - 1) - ((a + 1 : Nat) : Int) - 0 := by omega
  rw [e3, Int.sub_zero, nearest_shift]
  have e4 : f.leastPlace - 1 = (f.leastPlace + (i : Int) - 1) - (i : Int) := by omega
  rw [e4, nearest_shift]
theorem fl_div2 {f : Format} {x two : Nat} {s : Bool} {V : Nat} (hx : Fl f x s V) (h2 : f.read two = .number false (2 ^ f.fractionBits) (1 - (f.fractionBits : Int))) :
    f.div x two = some (f.nearest s V (f.leastPlace - 1)) := by
  obtain ⟨m, i, h1, rfl, h3⟩ := hx
  unfold Format.div
  rw [h1, h2]
  exact quot_two h3
theorem fl_half {f : Format} (s : Bool) (V : Nat) (hl : dropU f 1 V - 1 + 2 < 2 ^ f.exponentBits - 1) : Fl f (f.nearest s V (f.leastPlace - 1)) s (rndU f 1 V) :=
  fl_nearest f s V 1 (by omega) hl
/-- both widths -/
theorem least_s : single.leastPlace = -149 := by decide
theorem least_d : double.leastPlace = -1074 := by decide
/-- the unit of a width, as an exponent -/
def un : FloatKind → Nat
  | .f32 => 149
  | .f64 => 1074
theorem lim_gen {f : Format} {U u V M : Nat} (hM : 21 + U ≤ f.fractionBits + 1 + M) (hE : M + 2 < 2 ^ f.exponentBits - 1) (h : V ≤ 2000000 * 2 ^ U * 2 ^ u) : dropU f u V - u + 2 < 2 ^ f.exponentBits - 1 := by
  have : dropU f u V - u ≤ M := drop_lim (by
    have h1 : 2000000 * 2 ^ U * 2 ^ u < 2 ^ 21 * 2 ^ U * 2 ^ u := (Nat.mul_lt_mul_right (Nat.two_pow_pos u)).2 ((Nat.mul_lt_mul_right (Nat.two_pow_pos U)).2 (by decide))
    rw [← Nat.pow_add, ← Nat.pow_add] at h1
    have h2 : 2 ^ (21 + U + u) ≤ 2 ^ (f.fractionBits + 1 + u + M) := Nat.pow_le_pow_right (by omega) (by omega)
    omega)
  omega
theorem lim_s {u V : Nat} (h : V ≤ 2000000 * 2 ^ un .f32 * 2 ^ u) : dropU single u V - u + 2 < 2 ^ single.exponentBits - 1 :=
  lim_gen (f := single) (U := un .f32) (M := 147) (by decide) (by decide) h
theorem lim_d {u V : Nat} (h : V ≤ 2000000 * 2 ^ un .f64 * 2 ^ u) : dropU double u V - u + 2 < 2 ^ double.exponentBits - 1 :=
  lim_gen (f := double) (U := un .f64) (M := 1043) (by decide) (by decide) h
theorem lim_d2 {u V : Nat} (h : V ≤ 2000000 * 2 ^ (un .f32 + 925) * 2 ^ u) : dropU double u V - u + 2 < 2 ^ double.exponentBits - 1 :=
  lim_gen (f := double) (U := un .f32 + 925) (M := 1043) (by decide) (by decide) h
/-- how both widths' units lie -/
structure Wd (US T : Nat) : Prop where
  place : single.leastPlace = double.leastPlace + (T : Int)
  one : 1 ≤ T
  limS : ∀ {u V : Nat}, V ≤ 2000000 * 2 ^ US * 2 ^ u → dropU single u V - u + 2 < 2 ^ single.exponentBits - 1
  limD : ∀ {u V : Nat}, V ≤ 2000000 * 2 ^ (US + T) * 2 ^ u → dropU double u V - u + 2 < 2 ^ double.exponentBits - 1
theorem wd : Wd (un .f32) 925 := ⟨by decide, by omega, lim_s, lim_d2⟩
theorem fl_place {f : Format} {x : Nat} {s : Bool} {V : Nat} (h : Fl f x s V) : ∃ m k : Nat, f.read x = .number s m (f.leastPlace + (k : Int)) ∧ m * 2 ^ k = V := by
  obtain ⟨m, k, h1, h2, _⟩ := h; exact ⟨m, k, h1, h2⟩
theorem notInf {f : Format} {x : Nat} {s : Bool} {V : Nat} (h : Fl f x s V) : (f.read x).isInfinity = false := by
  obtain ⟨m, k, h1, _⟩ := h
  rw [h1]; rfl
theorem rep_wide {V : Nat} (h : Rep single V) : Rep double V := by
  obtain ⟨d, h1, h2⟩ := h
  exact ⟨d, h1, Nat.lt_of_lt_of_le h2 (Nat.pow_le_pow_right (by omega) (by show 23 + 1 + d ≤ 52 + 1 + d; omega))⟩
theorem up_mul {V US T : Nat} (h : V ≤ 2000000 * 2 ^ US) : V * 2 ^ T ≤ 2000000 * 2 ^ (US + T) := by
  have := Nat.mul_le_mul_right (2 ^ T) h
  rw [Nat.mul_assoc, ← Nat.pow_add] at this
  exact this
theorem conv_up {US T x : Nat} (hw : Wd US T) {s : Bool} {V : Nat} (hx : Fl single x s V) (hV : V ≤ 2000000 * 2 ^ US) :
    floatToFloatBits .f32 x .f64 = some (double.nearest s (V * 2 ^ T) double.leastPlace) ∧ Fl double (double.nearest s (V * 2 ^ T) double.leastPlace) s (V * 2 ^ T) := by
  have hl : V * 2 ^ T ≤ 2000000 * 2 ^ (US + T) * 2 ^ 0 := by simpa using up_mul (T := T) hV
  have hF := fl_nearest double s (V * 2 ^ T) 0 (p := double.leastPlace) (by omega) (hw.limD hl)
  have he : rndU double 0 (V * 2 ^ T) = V * 2 ^ T := by
    have := rndU_exact (f := double) (u := 0) (rep_scale (rep_wide (fl_rep hx)) T)
    rw [Nat.pow_zero, Nat.mul_one] at this
    exact this
  rw [he] at hF
  refine ⟨?_, hF⟩
  obtain ⟨m, k, h1, rfl⟩ := fl_place hx
  have ew : double.nearest s m (single.leastPlace + (k : Int)) = double.nearest s (m * 2 ^ k * 2 ^ T) double.leastPlace := by
    have h := nearest_shift double s m (k + T) (single.leastPlace + (k : Int))
    have e : single.leastPlace + (k : Int) - ((k + T : Nat) : Int) = double.leastPlace := by rw [hw.place]; omega
    rw [e, Nat.pow_add, ← Nat.mul_assoc] at h
    exact h.symm
  unfold floatToFloatBits
  rw [if_neg (by decide)]
  have hd : FloatKind.f32.decode x = .number s m (single.leastPlace + (k : Int)) := h1
  rw [hd]
  show (if (double.read (double.nearest s m (single.leastPlace + (k : Int)))).isInfinity = true then none else some (double.nearest s m (single.leastPlace + (k : Int)))) = _
  rw [ew, notInf hF, if_neg (by decide)]
theorem conv_down {US T x : Nat} (hw : Wd US T) {s : Bool} {V : Nat} (hx : Fl double x s V) (hV : V ≤ 2000000 * 2 ^ (US + T)) :
    floatToFloatBits .f64 x .f32 = some (single.nearest s V (single.leastPlace - (T : Int))) ∧ Fl single (single.nearest s V (single.leastPlace - (T : Int))) s (rndU single T V) := by
  have hl : V ≤ 2000000 * 2 ^ US * 2 ^ T := by rw [Nat.mul_assoc, ← Nat.pow_add]; exact hV
  have hF := fl_nearest single s V T (p := single.leastPlace - (T : Int)) (by omega) (hw.limS hl)
  refine ⟨?_, hF⟩
  obtain ⟨m, k, h1, rfl⟩ := fl_place hx
  have ew : single.nearest s m (double.leastPlace + (k : Int)) = single.nearest s (m * 2 ^ k) (single.leastPlace - (T : Int)) := by
    have h := nearest_shift single s m k (double.leastPlace + (k : Int))
    have e : double.leastPlace + (k : Int) - ((k : Nat) : Int) = single.leastPlace - (T : Int) := by rw [hw.place]; omega
    rw [e] at h
    exact h.symm
  unfold floatToFloatBits
  rw [if_neg (by decide)]
  have hd : FloatKind.f64.decode x = .number s m (double.leastPlace + (k : Int)) := h1
  rw [hd]
  show (if (single.read (single.nearest s m (double.leastPlace + (k : Int)))).isInfinity = true then none else some (single.nearest s m (double.leastPlace + (k : Int)))) = _
  rw [ew, notInf hF, if_neg (by decide)]
theorem sg_neg (s : Bool) (V : Nat) : sg (!s) V = -sg s V := by cases s <;> simp [sg]
theorem sg0 (s : Bool) : sg s 0 = 0 := by cases s <;> rfl
theorem sumA_neg0 (s : Bool) (V : Nat) : sumA false 0 (!s) V = V := by
  unfold sumA; cases s <;> simp [sg]
theorem sumS_neg0 (s : Bool) (V t : Nat) : sumS false 0 (!s) (V * 2 ^ t) = sumS false 0 (!s) V := by
  have hp : (0 : Int) < 2 ^ t := by exact_mod_cast Nat.two_pow_pos t
  unfold sumS
  rw [sg0, Int.zero_add, Int.zero_add, sg_scale]
  generalize sg (!s) V = a
  have c1 : (a * 2 ^ t = 0) = (a = 0) := by
    apply propext
    refine ⟨fun h => ?_, fun h => by rw [h, Int.zero_mul]⟩
    rcases Int.mul_eq_zero.1 h with h | h
    · exact h
    · omega
  have c2 : (a * 2 ^ t < 0) = (a < 0) := by
    apply propext
    refine ⟨fun h => ?_, fun h => Int.mul_neg_of_neg_of_pos h hp⟩
    rcases Int.lt_or_le a 0 with h2 | h2
    · exact h2
    · have := Int.mul_nonneg h2 (Int.le_of_lt hp); omega
  simp only [c1, c2]
theorem two_s : single.read 1073741824 = .number false (2 ^ single.fractionBits) (1 - (single.fractionBits : Int)) := by decide +kernel
theorem two_d : double.read 4611686018427387904 = .number false (2 ^ double.fractionBits) (1 - (double.fractionBits : Int)) := by decide +kernel
theorem fl0 {f : Format} (hb : f.binade ≤ f.infRung) : Fl f 0 false 0 := fl_zero f false hb
theorem fl0_s : Fl single 0 false 0 := fl0 (by decide)
theorem fl0_d : Fl double 0 false 0 := fl0 (by decide +kernel)
/-- sizes of at most B whole units -/
theorem rnd_whole {f : Format} {u V B U : Nat} (hF : 23 ≤ f.fractionBits) (hB : B ≤ 2000000) (h : V ≤ B * 2 ^ U * 2 ^ u) : rndU f u V ≤ B * 2 ^ U :=
  rndU_le (rep_scale (rep_small (by
    have : 2 ^ 24 ≤ 2 ^ (f.fractionBits + 1) := Nat.pow_le_pow_right (by omega) (by omega)
    have e : (2 : Nat) ^ 24 = 16777216 := by decide
    omega)) U) h
theorem rnd_same {f : Format} {V : Nat} (h : Rep f V) : rndU f 0 V = V := by
  have := rndU_exact (f := f) (u := 0) h
  simpa using this
/-- a sum of sizes of whole units -/
theorem fl_sumB {f : Format} {U : Nat} (hF : 23 ≤ f.fractionBits) (hlim : ∀ {u V : Nat}, V ≤ 2000000 * 2 ^ U * 2 ^ u → dropU f u V - u + 2 < 2 ^ f.exponentBits - 1)
    {s t : Bool} {V W B C : Nat} (hV : V ≤ B * 2 ^ U) (hW : W ≤ C * 2 ^ U) (hB : B + C ≤ 2000000) :
    Fl f (sumW f s V t W) (sumS s V t W) (rndU f 0 (sumA s V t W)) ∧ rndU f 0 (sumA s V t W) ≤ (B + C) * 2 ^ U := by
  have h1 := sumA_le s V t W
  have h2 : sumA s V t W ≤ (B + C) * 2 ^ U * 2 ^ 0 := by rw [Nat.add_mul]; simp only [Nat.pow_zero, Nat.mul_one]; omega
  exact ⟨fl_sum s V t W (hlim (Nat.le_trans h2 (Nat.mul_le_mul_right _ (Nat.mul_le_mul_right _ hB)))), rnd_whole hF hB h2⟩
theorem fl_halfB {f : Format} {U : Nat} (hF : 23 ≤ f.fractionBits) (hlim : ∀ {u V : Nat}, V ≤ 2000000 * 2 ^ U * 2 ^ u → dropU f u V - u + 2 < 2 ^ f.exponentBits - 1)
    {s : Bool} {V B C : Nat} (hV : V ≤ C * 2 ^ U) (hC : C ≤ 2 * B) (hB : B ≤ 2000000) :
    Fl f (f.nearest s V (f.leastPlace - 1)) s (rndU f 1 V) ∧ rndU f 1 V ≤ B * 2 ^ U := by
  have h2 : V ≤ B * 2 ^ U * 2 ^ 1 := by
    refine Nat.le_trans hV (Nat.le_trans (Nat.mul_le_mul_right _ hC) ?_)
    rw [Nat.pow_one, Nat.mul_comm _ 2, ← Nat.mul_assoc]
    exact Nat.le_refl _
  exact ⟨fl_half s V (hlim (Nat.le_trans h2 (Nat.mul_le_mul_right _ (Nat.mul_le_mul_right _ hB)))), rnd_whole hF hB h2⟩
/-- '(y - x) / 2' and '(0 - x - y) / 2', each operation by itself -/
def DivOps (k : FloatKind) (two x y d n e r i : Nat) : Prop :=
  floatBits .sub k y x = some d ∧ floatBits .quo k d two = some r ∧ floatBits .sub k 0 x = some n ∧ floatBits .sub k n y = some e ∧ floatBits .quo k e two = some i
/-- a point: both parts are finite, of a size of at most B -/
def Pt (f : Format) (U B x y : Nat) : Prop := ∃ s V t W, Fl f x s V ∧ Fl f y t W ∧ V ≤ B * 2 ^ U ∧ W ≤ B * 2 ^ U
theorem divide_d {x y : Nat} {s t : Bool} {V W B C D : Nat} (hx : Fl double x s V) (hy : Fl double y t W) (hV : V ≤ B * 2 ^ un .f64) (hW : W ≤ C * 2 ^ un .f64) (hB : B + C ≤ 2 * D) (hD : D ≤ 1000000) :
    ∃ d n e r i, DivOps .f64 4611686018427387904 x y d n e r i ∧ Pt double (un .f64) D r i := by
  obtain ⟨d1, d2⟩ := fl_sumB (f := double) (s := t) (t := !s) (by decide) lim_d hW hV (by omega)
  obtain ⟨r1, r2⟩ := fl_halfB (f := double) (s := sumS t W (!s) V) (B := D) (by decide) lim_d d2 (by omega) (by omega)
  obtain ⟨n1, n2⟩ := fl_sumB (f := double) (s := false) (V := 0) (t := !s) (B := 0) (by decide) lim_d (by omega) hV (by omega)
  obtain ⟨e1, e2⟩ := fl_sumB (f := double) (s := sumS false 0 (!s) V) (t := !t) (by decide) lim_d n2 hW (by omega)
  obtain ⟨i1, i2⟩ := fl_halfB (f := double) (s := sumS (sumS false 0 (!s) V) (rndU double 0 (sumA false 0 (!s) V)) (!t) W) (B := D) (by decide) lim_d e2 (by omega) (by omega)
  exact ⟨_, _, _, _, _, ⟨fl_sub hy hx, fl_div2 d1 two_d, fl_sub fl0_d hx, fl_sub n1 hy, fl_div2 e1 two_d⟩, _, _, _, _, r1, i1, r2, i2⟩
/-- the same by way of the wider width -/
def WideOps (x y d e r i X Y N y' n' D E R I : Nat) : Prop :=
  floatToFloatBits .f32 x .f64 = some X ∧ floatToFloatBits .f32 y .f64 = some Y ∧ floatBits .sub .f64 0 X = some N ∧ floatToFloatBits .f64 Y .f32 = some y' ∧ floatToFloatBits .f64 N .f32 = some n' ∧
  floatBits .sub .f32 y' x = some d ∧ floatBits .sub .f32 n' y = some e ∧ floatToFloatBits .f32 d .f64 = some D ∧ floatToFloatBits .f32 e .f64 = some E ∧
  floatBits .quo .f64 D 4611686018427387904 = some R ∧ floatBits .quo .f64 E 4611686018427387904 = some I ∧ floatToFloatBits .f64 R .f32 = some r ∧ floatToFloatBits .f64 I .f32 = some i
theorem up_le {V B US : Nat} (h : V ≤ B * 2 ^ US) (hB : B ≤ 2000000) : V ≤ 2000000 * 2 ^ US := Nat.le_trans h (Nat.mul_le_mul_right _ hB)
/-- there and back -/
theorem updown {US T x : Nat} (hw : Wd US T) {s : Bool} {V : Nat} (h : Fl double x s (V * 2 ^ T)) (hr : Rep single V) (hV : V ≤ 2000000 * 2 ^ US) :
    ∃ x', floatToFloatBits .f64 x .f32 = some x' ∧ Fl single x' s V := by
  obtain ⟨c1, c2⟩ := conv_down hw h (up_mul hV)
  rw [rndU_exact hr] at c2
  exact ⟨_, c1, c2⟩
theorem half_route {US T x : Nat} (hw : Wd US T) {s : Bool} {V : Nat} (h : Fl single x s V) (hV : V ≤ 2000000 * 2 ^ US) :
    ∃ X R, floatToFloatBits .f32 x .f64 = some X ∧ floatBits .quo .f64 X 4611686018427387904 = some R ∧ floatToFloatBits .f64 R .f32 = some (single.nearest s V (single.leastPlace - 1)) := by
  obtain ⟨c1, c2⟩ := conv_up hw h hV
  have hm := up_mul (T := T) hV
  have hl : V * 2 ^ T ≤ 2000000 * 2 ^ (US + T) * 2 ^ 1 := by omega
  have hR := fl_half (f := double) s (V * 2 ^ T) (hw.limD hl)
  obtain ⟨T', hT⟩ : ∃ T', T = T' + 1 := ⟨T - 1, by have := hw.one; omega⟩
  have he : rndU double 1 (V * 2 ^ T) = V * 2 ^ T' := by
    have := rndU_exact (f := double) (u := 1) (rep_scale (rep_wide (fl_rep h)) T')
    rw [Nat.mul_assoc, ← Nat.pow_add] at this
    rw [hT]
    exact this
  rw [he] at hR
  have hm2 : V * 2 ^ T' ≤ V * 2 ^ T := Nat.mul_le_mul_left _ (Nat.pow_le_pow_right (by omega) (by omega))
  obtain ⟨g1, g2⟩ := conv_down hw hR (Nat.le_trans hm2 hm)
  refine ⟨_, _, c1, fl_div2 c2 two_d, ?_⟩
  refine g1.trans ?_
  have h := nearest_shift single s V T' (single.leastPlace - 1)
  have e : single.leastPlace - 1 - (T' : Int) = single.leastPlace - (T : Int) := by omega
  rw [e] at h
  rw [h]
theorem divide_s {US T x y : Nat} (hw : Wd US T) {s t : Bool} {V W B C D : Nat} (hx : Fl single x s V) (hy : Fl single y t W) (hV : V ≤ B * 2 ^ US) (hW : W ≤ C * 2 ^ US) (hB : B + C ≤ 2 * D) (hD : D ≤ 1000000) :
    ∃ d n e r i, DivOps .f32 1073741824 x y d n e r i ∧ Pt single US D r i ∧ ∃ X Y N y' n' D E R I, WideOps x y d e r i X Y N y' n' D E R I := by
  obtain ⟨d1, d2⟩ := fl_sumB (f := single) (s := t) (t := !s) (by decide) hw.limS hW hV (by omega)
  obtain ⟨r1, r2⟩ := fl_halfB (f := single) (s := sumS t W (!s) V) (B := D) (by decide) hw.limS d2 (by omega) (by omega)
  obtain ⟨n1, n2⟩ := fl_sumB (f := single) (s := false) (V := 0) (t := !s) (B := 0) (by decide) hw.limS (by omega) hV (by omega)
  rw [sumA_neg0, rnd_same (fl_rep hx)] at n1 n2
  obtain ⟨e1, e2⟩ := fl_sumB (f := single) (s := sumS false 0 (!s) V) (V := V) (t := !t) (B := B) (by decide) hw.limS hV hW (by omega)
  obtain ⟨i1, i2⟩ := fl_halfB (f := single) (s := sumS (sumS false 0 (!s) V) V (!t) W) (B := D) (by decide) hw.limS e2 (by omega) (by omega)
  obtain ⟨X, x1, x2⟩ : ∃ X, floatToFloatBits .f32 x .f64 = some X ∧ Fl double X s (V * 2 ^ T) := ⟨_, conv_up hw hx (up_le hV (by omega))⟩
  obtain ⟨Y, y1, y2⟩ : ∃ Y, floatToFloatBits .f32 y .f64 = some Y ∧ Fl double Y t (W * 2 ^ T) := ⟨_, conv_up hw hy (up_le hW (by omega))⟩
  have hX2 := up_mul (T := T) (up_le hV (by omega))
  have n3 := fl_sum (f := double) false 0 (!s) (V * 2 ^ T) (hw.limD (by rw [sumA_neg0, Nat.pow_zero, Nat.mul_one]; exact hX2))
  rw [sumA_neg0, rnd_same (fl_rep x2), sumS_neg0] at n3
  obtain ⟨y', p1, p2⟩ := updown hw y2 (fl_rep hy) (up_le hW (by omega))
  obtain ⟨n', q1, q2⟩ := updown hw n3 (fl_rep hx) (up_le hV (by omega))
  obtain ⟨D1, R, g1, g2, g3⟩ := half_route hw d1 (up_le d2 (by omega))
  obtain ⟨E1, I, k1, k2, k3⟩ := half_route hw e1 (up_le e2 (by omega))
  exact ⟨_, _, _, _, _, ⟨fl_sub hy hx, fl_div2 d1 two_s, fl_sub fl0_s hx, fl_sub n1 hy, fl_div2 e1 two_s⟩, ⟨_, _, _, _, r1, i1, r2, i2⟩,
    X, Y, _, y', n', D1, E1, R, I, x1, y1, fl_sub fl0_d x2, p1, q1, fl_sub p2 hx, fl_sub q2 hy, g1, k1, g2, k2, g3, k3⟩
/-- whole numbers -/
theorem fl_whole {f : Format} {U : Nat} (hF : 23 ≤ f.fractionBits) (hU : f.leastPlace = -(U : Int)) (hlim : ∀ {u V : Nat}, V ≤ 2000000 * 2 ^ U * 2 ^ u → dropU f u V - u + 2 < 2 ^ f.exponentBits - 1)
    (s : Bool) {m : Nat} (hm : m ≤ 2000000) : Fl f (f.nearest s m 0) s (m * 2 ^ U) := by
  have h := nearest_shift f s m U 0
  have e : (0 : Int) - (U : Int) = f.leastPlace := by omega
  rw [e] at h
  rw [← h]
  have hr : Rep f m := rep_small (by
    have : 2 ^ 24 ≤ 2 ^ (f.fractionBits + 1) := Nat.pow_le_pow_right (by omega) (by omega)
    have e : (2 : Nat) ^ 24 = 16777216 := by decide
    omega)
  have h2 := fl_nearest f s (m * 2 ^ U) 0 (p := f.leastPlace) (by omega) (hlim (by rw [Nat.pow_zero, Nat.mul_one]; exact Nat.mul_le_mul_right _ hm))
  rw [rnd_same (rep_scale hr U)] at h2
  exact h2
theorem whole_down {US T : Nat} (hw : Wd US T) (hU : double.leastPlace = -((US + T : Nat) : Int)) (s : Bool) {m : Nat} (hm : m ≤ 2000000) :
    floatToFloatBits .f64 (double.nearest s m 0) .f32 = some (single.nearest s m 0) := by
  obtain ⟨c1, _⟩ := conv_down hw (fl_whole (f := double) (by decide) hU hw.limD s hm) (Nat.mul_le_mul_right _ hm)
  refine c1.trans ?_
  have h := nearest_shift single s m (US + T) 0
  have e : (0 : Int) - ((US + T : Nat) : Int) = single.leastPlace - (T : Int) := by rw [hw.place, hU]; omega
  rw [e] at h
  rw [h]
end Go.Proofs.YtmondgcehgmamaaGreatDoor

namespace Go.Proofs.YtmondgcehgmamaaGreatDoor
set_option linter.unusedSimpArgs false
set_option linter.unusedVariables false
open Ieee
def two : FloatKind → Nat
  | .f32 => 1073741824
  | .f64 => 4611686018427387904
def one : FloatKind → Nat
  | .f32 => 1065353216
  | .f64 => 4607182418800017408
def gd (o : Option Nat) : Nat := o.getD 0
def divR (k : FloatKind) (x y : Nat) : Nat := gd (floatBits .quo k (gd (floatBits .sub k y x)) (two k))
def divI (k : FloatKind) (x y : Nat) : Nat := gd (floatBits .quo k (gd (floatBits .sub k (gd (floatBits .sub k 0 x)) y)) (two k))
theorem div_of {k : FloatKind} {x y d n e r i : Nat} (h : DivOps k (two k) x y d n e r i) : divR k x y = r ∧ divI k x y = i := by
  obtain ⟨h1, h2, h3, h4, h5⟩ := h
  constructor
  · simp [divR, gd, h1, h2]
  · simp [divI, gd, h3, h4, h5]
/-- 1 divided by the base so many times -/
def pw (k : FloatKind) : Nat → Nat × Nat
  | 0 => (one k, 0)
  | n + 1 => (divR k (pw k n).1 (pw k n).2, divI k (pw k n).1 (pw k n).2)
theorem fl_wholeK (k : FloatKind) (s : Bool) {m : Nat} (hm : m ≤ 2000000) : Fl k.format (k.format.nearest s m 0) s (m * 2 ^ un k) := by
  cases k
  · exact fl_whole (f := single) (U := un .f32) (by decide) (by decide) lim_s s hm
  · exact fl_whole (f := double) (U := un .f64) (by decide) (by decide) lim_d s hm
theorem one_word (k : FloatKind) : k.format.nearest false 1 0 = one k := by cases k <;> decide +kernel
theorem zero_word (k : FloatKind) : k.format.nearest false 0 0 = 0 := by cases k <;> decide +kernel
theorem fl_one (k : FloatKind) : Fl k.format (one k) false (1 * 2 ^ un k) := by rw [← one_word]; exact fl_wholeK k false (by omega)
theorem fl_nought (k : FloatKind) : Fl k.format 0 false (0 * 2 ^ un k) := by
  have := fl_wholeK k false (m := 0) (by omega)
  rw [zero_word] at this
  exact this
theorem sumB {k : FloatKind} {x y : Nat} {s t : Bool} {V W B C : Nat} (hx : Fl k.format x s V) (hy : Fl k.format y t W) (hV : V ≤ B * 2 ^ un k) (hW : W ≤ C * 2 ^ un k) (hB : B + C ≤ 2000000) :
    ∃ r S A, floatBits .add k x y = some r ∧ Fl k.format r S A ∧ A ≤ (B + C) * 2 ^ un k := by
  cases k
  · obtain ⟨h1, h2⟩ := fl_sumB (f := single) (s := s) (t := t) (by decide) lim_s hV hW hB
    exact ⟨_, _, _, fl_add hx hy, h1, h2⟩
  · obtain ⟨h1, h2⟩ := fl_sumB (f := double) (s := s) (t := t) (by decide) lim_d hV hW hB
    exact ⟨_, _, _, fl_add hx hy, h1, h2⟩
/-- the division of a point, with all that stands on the program's way -/
def Div (k : FloatKind) (x y r i : Nat) : Prop :=
  ∃ d n e, DivOps k (two k) x y d n e r i ∧ (k = .f32 → ∃ X Y N y' n' D E R I, WideOps x y d e r i X Y N y' n' D E R I)
theorem divK {k : FloatKind} {x y : Nat} {s t : Bool} {V W B C D : Nat} (hx : Fl k.format x s V) (hy : Fl k.format y t W) (hV : V ≤ B * 2 ^ un k) (hW : W ≤ C * 2 ^ un k) (hB : B + C ≤ 2 * D) (hD : D ≤ 1000000) :
    Div k x y (divR k x y) (divI k x y) ∧ Pt k.format (un k) D (divR k x y) (divI k x y) := by
  cases k
  · obtain ⟨d, n, e, r, i, h1, h2, h3⟩ := divide_s wd hx hy hV hW hB hD
    obtain ⟨e1, e2⟩ := div_of (k := .f32) h1
    rw [e1, e2]
    exact ⟨⟨d, n, e, h1, fun _ => h3⟩, h2⟩
  · obtain ⟨d, n, e, r, i, h1, h2⟩ := divide_d hx hy hV hW hB hD
    obtain ⟨e1, e2⟩ := div_of (k := .f64) h1
    rw [e1, e2]
    exact ⟨⟨d, n, e, h1, fun h => by cases h⟩, h2⟩
theorem pw_pt (k : FloatKind) : ∀ n, Pt k.format (un k) 1 (pw k n).1 (pw k n).2
  | 0 => ⟨_, _, _, _, fl_one k, fl_nought k, Nat.le_refl _, by omega⟩
  | n + 1 => by
    obtain ⟨s, V, t, W, h1, h2, h3, h4⟩ := pw_pt k n
    exact (divK h1 h2 h3 h4 (by omega) (by omega)).2
theorem pw_div (k : FloatKind) (n : Nat) : Div k (pw k n).1 (pw k n).2 (pw k (n + 1)).1 (pw k (n + 1)).2 := by
  obtain ⟨s, V, t, W, h1, h2, h3, h4⟩ := pw_pt k n
  exact (divK h1 h2 h3 h4 (D := 1) (by omega) (by omega)).1
/-- the word of a place -/
def bitW (k : FloatKind) (c : UInt8) : Nat := if c == 49 then one k else 0
theorem fl_bit (k : FloatKind) (c : UInt8) : ∃ V, Fl k.format (bitW k c) false V ∧ V ≤ 1 * 2 ^ un k := by
  unfold bitW
  split
  · exact ⟨_, fl_one k, Nat.le_refl _⟩
  · exact ⟨_, fl_nought k, by omega⟩
/-- with a place added -/
def plR (k : FloatKind) (z : Nat × Nat) (c : UInt8) : Nat := gd (floatBits .add k z.1 (bitW k c))
def plI (k : FloatKind) (z : Nat × Nat) : Nat := gd (floatBits .add k z.2 0)
/-- the point of places, from the last one on -/
def pv (k : FloatKind) : List UInt8 → Nat × Nat
  | [] => (0, 0)
  | c :: l => (divR k (plR k (pv k l) c) (plI k (pv k l)), divI k (plR k (pv k l) c) (plI k (pv k l)))
theorem pv_step {k : FloatKind} {l : List UInt8} {c : UInt8} {B : Nat} (hB : B ≤ 999999) (h : Pt k.format (un k) B (pv k l).1 (pv k l).2) :
    floatBits .add k (pv k l).1 (bitW k c) = some (plR k (pv k l) c) ∧ floatBits .add k (pv k l).2 0 = some (plI k (pv k l)) ∧
    Div k (plR k (pv k l) c) (plI k (pv k l)) (pv k (c :: l)).1 (pv k (c :: l)).2 ∧ Pt k.format (un k) (B + 1) (pv k (c :: l)).1 (pv k (c :: l)).2 := by
  obtain ⟨s, V, t, W, h1, h2, h3, h4⟩ := h
  obtain ⟨b, b1, b2⟩ := fl_bit k c
  obtain ⟨r, S, A, r1, r2, r3⟩ := sumB h1 b1 h3 b2 (by omega)
  obtain ⟨i, S', A', i1, i2, i3⟩ := sumB h2 (fl_nought k) h4 (Nat.le_refl _) (by omega)
  have er : plR k (pv k l) c = r := by simp [plR, gd, r1]
  have ei : plI k (pv k l) = i := by simp [plI, gd, i1]
  have h := divK (D := B + 1) r2 i2 r3 i3 (by omega) (by omega)
  have ep : pv k (c :: l) = (divR k (plR k (pv k l) c) (plI k (pv k l)), divI k (plR k (pv k l) c) (plI k (pv k l))) := rfl
  rw [ep, er, ei]
  exact ⟨r1, i1, h.1, h.2⟩
theorem pv_pt (k : FloatKind) : ∀ l : List UInt8, l.length ≤ 999999 → Pt k.format (un k) l.length (pv k l).1 (pv k l).2
  | [], _ => ⟨_, _, _, _, fl_nought k, fl_nought k, by simp, by simp⟩
  | c :: l, h => by
    simp only [List.length_cons] at h
    exact (pv_step (by omega) (pv_pt k l (by omega))).2.2.2
/-- with the whole number added -/
def whR (k : FloatKind) (z : Nat × Nat) (x : Int) : Nat := gd (floatBits .add k z.1 (floatOfInt k x))
def whI (k : FloatKind) (z : Nat × Nat) (y : Int) : Nat := gd (floatBits .add k z.2 (floatOfInt k y))
theorem fl_int (k : FloatKind) {x : Int} (h : -1000000 ≤ x ∧ x ≤ 1000000) : ∃ s V, Fl k.format (floatOfInt k x) s V ∧ V ≤ 1000000 * 2 ^ un k := by
  refine ⟨_, _, fl_wholeK k (decide (x < 0)) (m := x.natAbs) (by omega), Nat.mul_le_mul_right _ (by omega)⟩
theorem wh_ops {k : FloatKind} {z : Nat × Nat} {x y : Int} (hz : Pt k.format (un k) 1000 z.1 z.2) (hx : -1000000 ≤ x ∧ x ≤ 1000000) (hy : -1000000 ≤ y ∧ y ≤ 1000000) :
    floatBits .add k z.1 (floatOfInt k x) = some (whR k z x) ∧ floatBits .add k z.2 (floatOfInt k y) = some (whI k z y) ∧ Pt k.format (un k) 1001000 (whR k z x) (whI k z y) := by
  obtain ⟨s, V, t, W, h1, h2, h3, h4⟩ := hz
  obtain ⟨_, _, x1, x2⟩ := fl_int k hx
  obtain ⟨_, _, y1, y2⟩ := fl_int k hy
  obtain ⟨r, S, A, r1, r2, r3⟩ := sumB h1 x1 h3 x2 (by omega)
  obtain ⟨i, S', A', i1, i2, i3⟩ := sumB h2 y1 h4 y2 (by omega)
  have er : whR k z x = r := by simp [whR, gd, r1]
  have ei : whI k z y = i := by simp [whI, gd, i1]
  rw [er, ei]
  exact ⟨r1, i1, _, _, _, _, r2, i2, r3, i3⟩
theorem Pt.mono {f : Format} {U B C x y : Nat} (h : Pt f U B x y) (hB : B ≤ C) : Pt f U C x y := by
  obtain ⟨s, V, t, W, h1, h2, h3, h4⟩ := h
  exact ⟨s, V, t, W, h1, h2, Nat.le_trans h3 (Nat.mul_le_mul_right _ hB), Nat.le_trans h4 (Nat.mul_le_mul_right _ hB)⟩
/-- a whole number's word in the narrower width comes of its word in the wider one -/
theorem int_down {x : Int} (h : -1000000 ≤ x ∧ x ≤ 1000000) : floatToFloatBits .f64 (floatOfInt .f64 x) .f32 = some (floatOfInt .f32 x) :=
  whole_down wd (by decide) (decide (x < 0)) (m := x.natAbs) (by omega)
/-- a single point in the wider width -/
theorem pt_up {B x y : Nat} (h : Pt single (un .f32) B x y) (hB : B ≤ 2000000) : ∃ X Y, floatToFloatBits .f32 x .f64 = some X ∧ floatToFloatBits .f32 y .f64 = some Y := by
  obtain ⟨s, V, t, W, h1, h2, h3, h4⟩ := h
  exact ⟨_, _, (conv_up wd h1 (up_le h3 hB)).1, (conv_up wd h2 (up_le h4 hB)).1⟩
end Go.Proofs.YtmondgcehgmamaaGreatDoor

namespace Go.Proofs.YtmondgcehgmamaaGreatDoor
set_option linter.unusedSimpArgs false
set_option linter.unusedVariables false
open Ieee
/-- a word that stands for v units -/
def Vl (k : FloatKind) (x : Nat) (v : Int) : Prop := ∃ s V, Fl k.format x s V ∧ sg s V = v
/-- exact, and not too great -/
def Okv (k : FloatKind) (v : Int) : Prop := Rep k.format v.natAbs ∧ v.natAbs ≤ 2000000 * 2 ^ un k
theorem limK (k : FloatKind) {u V : Nat} (h : V ≤ 2000000 * 2 ^ un k * 2 ^ u) : dropU k.format u V - u + 2 < 2 ^ k.format.exponentBits - 1 := by
  cases k
  · exact lim_s h
  · exact lim_d h
theorem vl_sum {k : FloatKind} {s t : Bool} {V W : Nat} (h : Okv k (sg s V + sg t W)) : Vl k (sumW k.format s V t W) (sg s V + sg t W) := by
  have hr : Rep k.format (sumA s V t W) := h.1
  have hl : sumA s V t W ≤ 2000000 * 2 ^ un k := h.2
  have h1 := fl_sum (f := k.format) s V t W (limK k (by rw [Nat.pow_zero, Nat.mul_one]; exact hl))
  rw [rnd_same hr] at h1
  refine ⟨_, _, h1, ?_⟩
  unfold sumS sumA
  generalize sg s V + sg t W = T
  split
  · rename_i h; rw [h]; unfold sg; split <;> rfl
  · unfold sg
    by_cases c : T < 0
    · simp [c]; omega
    · simp [c]; omega
theorem vl_add {k : FloatKind} {x y : Nat} {a b : Int} (hx : Vl k x a) (hy : Vl k y b) (h : Okv k (a + b)) : ∃ r, floatBits .add k x y = some r ∧ Vl k r (a + b) := by
  obtain ⟨s, V, h1, rfl⟩ := hx
  obtain ⟨t, W, h2, rfl⟩ := hy
  exact ⟨_, fl_add h1 h2, vl_sum h⟩
theorem vl_sub {k : FloatKind} {x y : Nat} {a b : Int} (hx : Vl k x a) (hy : Vl k y b) (h : Okv k (a - b)) : ∃ r, floatBits .sub k x y = some r ∧ Vl k r (a - b) := by
  obtain ⟨s, V, h1, rfl⟩ := hx
  obtain ⟨t, W, h2, rfl⟩ := hy
  have e : sg s V - sg t W = sg s V + sg (!t) W := by rw [sg_neg]; omega
  rw [e] at h ⊢
  exact ⟨_, fl_sub h1 h2, vl_sum h⟩
theorem scale_cmp (a b : Int) (t : Nat) : compare (a * 2 ^ t) (b * 2 ^ t) = compare a b := by
  have hp : (0 : Int) < 2 ^ t := by exact_mod_cast Nat.two_pow_pos t
  rcases Int.lt_trichotomy a b with h | h | h
  · rw [Int.compare_eq_lt.2 h, Int.compare_eq_lt.2 ((Int.mul_lt_mul_right hp).2 h)]
  · rw [h]; rw [Int.compare_eq_eq.2 rfl, Int.compare_eq_eq.2 rfl]
  · rw [Int.compare_eq_gt.2 h, Int.compare_eq_gt.2 ((Int.mul_lt_mul_right hp).2 h)]
theorem vl_order {k : FloatKind} {x y : Nat} {a b : Int} (hx : Vl k x a) (hy : Vl k y b) : k.format.order x y = some (compare a b) := by
  obtain ⟨s, V, ⟨m, i, h1, rfl, _⟩, rfl⟩ := hx
  obtain ⟨t, W, ⟨n, j, h2, rfl, _⟩, rfl⟩ := hy
  unfold Format.order
  rw [h1, h2]
  unfold Datum.order
  have hb : min (k.format.leastPlace + (i : Int)) (k.format.leastPlace + (j : Int)) = k.format.leastPlace + ((min i j : Nat) : Int) := by omega
  simp only [hb, signed_sg]
  rw [show (k.format.leastPlace + (i : Int) - (k.format.leastPlace + ((min i j : Nat) : Int))).toNat = i - min i j by omega, show (k.format.leastPlace + (j : Int) - (k.format.leastPlace + ((min i j : Nat) : Int))).toNat = j - min i j by omega]
  have e1 : sg s (m * 2 ^ i) = sg s (m * 2 ^ (i - min i j)) * 2 ^ min i j := by
    rw [← sg_scale, Nat.mul_assoc, ← Nat.pow_add, show i - min i j + min i j = i by omega]
  have e2 : sg t (n * 2 ^ j) = sg t (n * 2 ^ (j - min i j)) * 2 ^ min i j := by
    rw [← sg_scale, Nat.mul_assoc, ← Nat.pow_add, show j - min i j + min i j = j by omega]
  rw [e1, e2, scale_cmp]
theorem vl_same {k : FloatKind} {x y : Nat} {a : Int} (hx : Vl k x a) (hy : Vl k y a) : k.format.order x y = some .eq := by
  rw [vl_order hx hy, Int.compare_eq_eq.2 rfl]
/-- the sign bit turned -/
theorem xor_top {x w : Nat} (h : x < 2 ^ (w + 1)) : x ^^^ 2 ^ w = if x < 2 ^ w then 2 ^ w + x else x - 2 ^ w := by
  have hp := Nat.two_pow_pos w
  by_cases c : x < 2 ^ w
  · rw [if_pos c, Nat.xor_comm, Nat.add_comm]
    have := Nat.two_pow_add_eq_or_of_lt (i := w) c 1
    apply Nat.eq_of_testBit_eq
    intro i
    rw [Nat.testBit_xor, Nat.testBit_two_pow]
    rcases Nat.lt_trichotomy i w with h1 | h1 | h1
    · rw [Nat.add_comm, Nat.testBit_two_pow_add_gt h1]
      simp [show w ≠ i by omega]
    · subst h1
      rw [Nat.add_comm, Nat.testBit_two_pow_add_eq]
      simp
    · have e1 : x.testBit i = false := Nat.testBit_lt_two_pow (Nat.lt_of_lt_of_le c (Nat.pow_le_pow_right (by omega) (by omega)))
      have e2 : (x + 2 ^ w).testBit i = false := Nat.testBit_lt_two_pow (Nat.lt_of_lt_of_le (show x + 2 ^ w < 2 ^ (w + 1) by rw [Nat.pow_succ]; omega) (Nat.pow_le_pow_right (by omega) (by omega)))
      rw [e1, e2]
      simp [show w ≠ i by omega]
  · rw [if_neg c]
    obtain ⟨y, rfl⟩ : ∃ y, x = 2 ^ w + y := ⟨x - 2 ^ w, by omega⟩
    rw [Nat.pow_succ] at h
    have hy : y < 2 ^ w := by omega
    rw [Nat.add_sub_cancel_left]
    apply Nat.eq_of_testBit_eq
    intro i
    rw [Nat.testBit_xor, Nat.testBit_two_pow]
    rcases Nat.lt_trichotomy i w with h1 | h1 | h1
    · rw [Nat.testBit_two_pow_add_gt h1]
      simp [show w ≠ i by omega]
    · subst h1
      rw [Nat.testBit_two_pow_add_eq]
      have : y.testBit i = false := Nat.testBit_lt_two_pow hy
      simp [this]
    · have e1 : y.testBit i = false := Nat.testBit_lt_two_pow (Nat.lt_of_lt_of_le hy (Nat.pow_le_pow_right (by omega) (by omega)))
      have e2 : (2 ^ w + y).testBit i = false := Nat.testBit_lt_two_pow (Nat.lt_of_lt_of_le (show 2 ^ w + y < 2 ^ (w + 1) by rw [Nat.pow_succ]; omega) (Nat.pow_le_pow_right (by omega) (by omega)))
      rw [e1, e2]
      simp [show w ≠ i by omega]
theorem vl_neg {k : FloatKind} {x : Nat} {a : Int} (hx : Vl k x a) (hl : x < 2 ^ k.format.width) : Vl k (Op.negFloat k x) (-a) := by
  obtain ⟨s, V, ⟨m, i, h1, h2, h3⟩, rfl⟩ := hx
  refine ⟨!s, V, ⟨m, i, ?_, h2, h3⟩, sg_neg s V⟩
  have hw : k.format.width = (k.format.exponentBits + k.format.fractionBits) + 1 := by unfold Format.width; omega
  rw [hw] at hl
  unfold Op.negFloat
  rw [xor_top hl]
  have hp := Nat.two_pow_pos (k.format.exponentBits + k.format.fractionBits)
  have hsw : k.format.signWeight = 2 ^ (k.format.exponentBits + k.format.fractionBits) := rfl
  unfold Format.read at h1 ⊢
  rw [hsw] at h1 ⊢
  rw [Nat.pow_succ] at hl
  generalize 2 ^ (k.format.exponentBits + k.format.fractionBits) = S at *
  by_cases c : x < S
  · rw [if_pos c]
    have e1 : (S + x) % S = x % S := Nat.add_mod_left _ _
    have e2 : x / S = 0 := Nat.div_eq_of_lt c
    have e3 : (S + x) / S = 1 := by rw [Nat.add_div_left _ hp, e2]
    simp only [e1, e2, e3] at h1 ⊢
    revert h1
    repeat' split
    all_goals first | (intro h1; cases h1; done) | (intro h1; injection h1 with a1 a2 a3; subst a1 a2; first | (rw [a3]; simp; done) | (simp; exact a3))
  · rw [if_neg c]
    obtain ⟨y, rfl⟩ : ∃ y, x = S + y := ⟨x - S, by omega⟩
    rw [Nat.add_sub_cancel_left]
    have hy : y < S := by omega
    have e1 : (S + y) % S = y % S := Nat.add_mod_left _ _
    have e2 : y / S = 0 := Nat.div_eq_of_lt hy
    have e3 : (S + y) / S = 1 := by rw [Nat.add_div_left _ hp, e2]
    simp only [e1, e2, e3] at h1 ⊢
    revert h1
    repeat' split
    all_goals first | (intro h1; cases h1; done) | (intro h1; injection h1 with a1 a2 a3; subst a1 a2; first | (rw [a3]; simp; done) | (simp; exact a3))
end Go.Proofs.YtmondgcehgmamaaGreatDoor

namespace Go.Proofs.YtmondgcehgmamaaGreatDoor
set_option linter.unusedSimpArgs false
set_option linter.unusedVariables false
open Ieee

def sw (k : FloatKind) (s : Bool) (m : Nat) : Nat := k.format.nearest s m 0
theorem fw_sw (k : FloatKind) (n : Int) : floatOfInt k n = sw k (decide (n < 0)) n.natAbs := rfl
theorem least_un (k : FloatKind) : k.format.leastPlace = -(un k : Int) := by cases k <;> decide
theorem sw_units (k : FloatKind) (s : Bool) (m : Nat) : sw k s m = k.format.nearest s (m * 2 ^ un k) k.format.leastPlace := by
  have h := nearest_shift k.format s m (un k) 0
  rw [show (0 : Int) - (un k : Int) = k.format.leastPlace by rw [least_un]; omega] at h
  exact h.symm
theorem sw_zero (k : FloatKind) (s : Bool) : sw k s 0 = k.format.word s 0 := nearest_zero _ _ _
def sgS (s : Bool) (m : Nat) (t : Bool) (n : Nat) : Bool := if sg s m + sg t n = 0 then s && t else decide (sg s m + sg t n < 0)
def sgN (s : Bool) (m : Nat) (t : Bool) (n : Nat) : Nat := (sg s m + sg t n).natAbs
theorem sgN_le (s : Bool) (m : Nat) (t : Bool) (n : Nat) : sgN s m t n ≤ m + n := by
  unfold sgN sg
  cases s <;> cases t <;> simp <;> omega
theorem pow_scale (T : Int) (b : Nat) : ((T * 2 ^ b = 0) = (T = 0)) ∧ ((T * 2 ^ b < 0) = (T < 0)) ∧ (T * 2 ^ b).natAbs = T.natAbs * 2 ^ b := by
  have hp : (0 : Int) < 2 ^ b := by exact_mod_cast Nat.two_pow_pos b
  refine ⟨propext ⟨fun h => ?_, fun h => by rw [h, Int.zero_mul]⟩, propext ⟨fun h => ?_, fun h => Int.mul_neg_of_neg_of_pos h hp⟩, by rw [Int.natAbs_mul, Int.natAbs_pow]; rfl⟩
  · rcases Int.mul_eq_zero.1 h with h | h
    · exact h
    · omega
  · rcases Int.lt_or_le T 0 with h2 | h2
    · exact h2
    · have := Int.mul_nonneg h2 (Int.le_of_lt hp); omega
theorem sumW_sw (k : FloatKind) (s : Bool) (m : Nat) (t : Bool) (n : Nat) : sumW k.format s (m * 2 ^ un k) t (n * 2 ^ un k) = sw k (sgS s m t n) (sgN s m t n) := by
  rw [sw_units]
  unfold sumW sgS sgN
  rw [sg_scale, sg_scale, ← Int.add_mul]
  generalize sg s m + sg t n = T
  obtain ⟨c1, c2, c3⟩ := pow_scale T (un k)
  simp only [c1, c2, c3]
theorem fl_sw (k : FloatKind) (s : Bool) {m : Nat} (h : m ≤ 2000000) : Fl k.format (sw k s m) s (m * 2 ^ un k) := by
  cases k
  · exact fl_whole (f := single) (by decide) (by decide) lim_s s h
  · exact fl_whole (f := double) (by decide) (by decide) lim_d s h
theorem sw_add {k : FloatKind} (s t : Bool) {m n : Nat} (hm : m ≤ 2000000) (hn : n ≤ 2000000) : floatBits .add k (sw k s m) (sw k t n) = some (sw k (sgS s m t n) (sgN s m t n)) := by
  have h := fl_add (fl_sw k s hm) (fl_sw k t hn)
  rw [sumW_sw] at h
  exact h
theorem sw_sub {k : FloatKind} (s t : Bool) {m n : Nat} (hm : m ≤ 2000000) (hn : n ≤ 2000000) : floatBits .sub k (sw k s m) (sw k t n) = some (sw k (sgS s m (!t) n) (sgN s m (!t) n)) := by
  have h := fl_sub (fl_sw k s hm) (fl_sw k t hn)
  rw [sumW_sw] at h
  exact h
theorem sw_mul {k : FloatKind} (s t : Bool) {m n : Nat} (hm : m ≤ 2000000) (hn : n ≤ 2000000) : floatBits .mul k (sw k s m) (sw k t n) = some (sw k (s ^^ t) (m * n)) := by
  obtain ⟨m', i, h1, e1, _⟩ := fl_sw k s hm
  obtain ⟨n', j, h2, e2, _⟩ := fl_sw k t hn
  have hw : floatBits .mul k (sw k s m) (sw k t n) = some (k.format.nearest (s ^^ t) (m' * n') (k.format.leastPlace + (i : Int) + (k.format.leastPlace + (j : Int)))) := by
    show ((k.format.read (sw k s m)).product (k.format.read (sw k t n))).map k.format.write = _
    rw [h1, h2]; rfl
  rw [hw]
  have hsh := nearest_shift k.format (s ^^ t) (m' * n') (i + j) (k.format.leastPlace + (i : Int) + (k.format.leastPlace + (j : Int)))
  have hs2 := nearest_shift k.format (s ^^ t) (m * n) (un k + un k) 0
  have em : m' * n' * 2 ^ (i + j) = m * n * 2 ^ (un k + un k) := by
    have : m' * n' * 2 ^ (i + j) = (m' * 2 ^ i) * (n' * 2 ^ j) := by rw [Nat.pow_add]; ac_rfl
    rw [this, e1, e2, Nat.pow_add]
    generalize 2 ^ un k = P
    ac_rfl
  have ep : k.format.leastPlace + (i : Int) + (k.format.leastPlace + (j : Int)) - ((i + j : Nat) : Int) = 0 - ((un k + un k : Nat) : Int) := by rw [least_un]; omega
  rw [← hsh, em, ep, hs2]
  rfl
theorem sw_conv (k l : FloatKind) (s : Bool) {m : Nat} (hm : m ≤ 2000000) : floatToFloatBits k (sw k s m) l = some (sw l s m) := by
  by_cases c : k = l
  · subst c; simp [floatToFloatBits]
  · obtain ⟨m', i, h1, e1, _⟩ := fl_sw k s hm
    have h1' : k.decode (sw k s m) = .number s m' (k.format.leastPlace + (i : Int)) := h1
    have hr : l.encode (.number s m' (k.format.leastPlace + (i : Int))) = sw l s m := by
      show l.format.nearest s m' (k.format.leastPlace + (i : Int)) = _
      have hsh := nearest_shift l.format s m' i (k.format.leastPlace + (i : Int))
      have hs2 := nearest_shift l.format s m (un k) 0
      rw [← hsh, e1, show k.format.leastPlace + (i : Int) - (i : Int) = 0 - (un k : Int) by rw [least_un]; omega, hs2]
      rfl
    have hi : (l.decode (sw l s m)).isInfinity = false := notInf (fl_sw l s hm)
    simp [floatToFloatBits, c, h1', hr, hi]
theorem sw_order (k : FloatKind) (s t : Bool) {m n : Nat} (hm : m ≤ 2000000) (hn : n ≤ 2000000) : k.format.order (sw k s m) (sw k t n) = some (compare (sg s m) (sg t n)) := by
  have h := vl_order (k := k) ⟨_, _, fl_sw k s hm, rfl⟩ ⟨_, _, fl_sw k t hn, rfl⟩
  rw [sg_scale, sg_scale, scale_cmp] at h
  exact h
/-- a number's own sign -/
theorem own_sg (a : Int) : sg (decide (a < 0)) a.natAbs = a := by
  by_cases c : a < 0
  · rw [decide_eq_true c]; show -((a.natAbs : Nat) : Int) = a; omega
  · rw [decide_eq_false c]; show ((a.natAbs : Nat) : Int) = a; omega
theorem own_sum {a : Int} {t : Bool} {n : Nat} : sgS (decide (a < 0)) a.natAbs t n = decide (a + sg t n < 0) ∧ sgN (decide (a < 0)) a.natAbs t n = (a + sg t n).natAbs := by
  unfold sgS sgN
  rw [own_sg]
  refine ⟨?_, rfl⟩
  by_cases c : a + sg t n = 0
  · rw [if_pos c, c]
    unfold sg at c
    cases t
    · simp
    · simp at c ⊢; omega
  · rw [if_neg c]
theorem fw_add {k : FloatKind} {a : Int} (t : Bool) {n : Nat} (ha : a.natAbs ≤ 2000000) (hn : n ≤ 2000000) : floatBits .add k (floatOfInt k a) (sw k t n) = some (floatOfInt k (a + sg t n)) := by
  rw [fw_sw, sw_add _ _ ha hn, own_sum.1, own_sum.2]; rfl
theorem fw_sub {k : FloatKind} {a : Int} (t : Bool) {n : Nat} (ha : a.natAbs ≤ 2000000) (hn : n ≤ 2000000) : floatBits .sub k (floatOfInt k a) (sw k t n) = some (floatOfInt k (a - sg t n)) := by
  rw [fw_sw, sw_sub _ _ ha hn, own_sum.1, own_sum.2, sg_neg]; rfl
theorem ff_add {k : FloatKind} {a b : Int} (ha : a.natAbs ≤ 2000000) (hb : b.natAbs ≤ 2000000) : floatBits .add k (floatOfInt k a) (floatOfInt k b) = some (floatOfInt k (a + b)) := by
  rw [fw_sw k b, fw_add _ ha hb, own_sg]
theorem ff_sub {k : FloatKind} {a b : Int} (ha : a.natAbs ≤ 2000000) (hb : b.natAbs ≤ 2000000) : floatBits .sub k (floatOfInt k a) (floatOfInt k b) = some (floatOfInt k (a - b)) := by
  rw [fw_sw k b, fw_sub _ ha hb, own_sg]
theorem sqw_nonneg (a : Int) : ¬ a * a < 0 := by
  have : 0 ≤ a * a := by
    rcases Int.le_total 0 a with h | h
    · exact Int.mul_nonneg h h
    · exact Int.mul_nonneg_of_nonpos_of_nonpos h h
  omega
theorem ff_sq {k : FloatKind} {a : Int} (ha : a.natAbs ≤ 2000000) : floatBits .mul k (floatOfInt k a) (floatOfInt k a) = some (floatOfInt k (a * a)) := by
  rw [fw_sw k a, sw_mul _ _ ha ha, fw_sw, Bool.xor_self, Int.natAbs_mul, decide_eq_false (sqw_nonneg a)]
theorem ff_order {k : FloatKind} {a b : Int} (ha : a.natAbs ≤ 2000000) (hb : b.natAbs ≤ 2000000) : k.format.order (floatOfInt k a) (floatOfInt k b) = some (compare a b) := by
  rw [fw_sw, fw_sw, sw_order _ _ _ ha hb, own_sg, own_sg]
theorem ff_conv (k l : FloatKind) {a : Int} (ha : a.natAbs ≤ 2000000) : floatToFloatBits k (floatOfInt k a) l = some (floatOfInt l a) := sw_conv k l _ ha
theorem ff_inj {k : FloatKind} {a b : Int} (ha : a.natAbs ≤ 2000000) (hb : b.natAbs ≤ 2000000) (h : floatOfInt k a = floatOfInt k b) : a = b := by
  have h1 := ff_order (k := k) ha hb
  rw [h, ff_order hb hb, Int.compare_eq_eq.2 rfl] at h1
  exact Int.compare_eq_eq.1 (Option.some.inj h1).symm
section
variable {P : Program} (w : World)
/-- products of complex64 with whole parts, whatever the signs of their zeros -/
theorem run_cmul32 (t : TypeId) (s1 s2 s3 s4 : Bool) {a b c d : Nat} (ha : a ≤ 1000) (hb : b ≤ 1000) (hc : c ≤ 1000) (hd : d ≤ 1000) :
    (binOp .mul t (.complex .f32 (sw .f32 s1 a) (sw .f32 s2 b)) (.complex .f32 (sw .f32 s3 c) (sw .f32 s4 d))).run P w =
      .ok (.complex .f32 (sw .f32 (sgS (s1 ^^ s3) (a * c) (!(s2 ^^ s4)) (b * d)) (sgN (s1 ^^ s3) (a * c) (!(s2 ^^ s4)) (b * d))) (sw .f32 (sgS (s1 ^^ s4) (a * d) (s2 ^^ s3) (b * c)) (sgN (s1 ^^ s4) (a * d) (s2 ^^ s3) (b * c)))) w := by
  have m1 : a * c ≤ 1000000 := Nat.mul_le_mul ha hc
  have m2 : b * d ≤ 1000000 := Nat.mul_le_mul hb hd
  have m3 : a * d ≤ 1000000 := Nat.mul_le_mul ha hd
  have m4 : b * c ≤ 1000000 := Nat.mul_le_mul hb hc
  have u1 := run_floatToFloat w (P := P) (sw_conv .f32 .f64 s1 (m := a) (by omega))
  have u2 := run_floatToFloat w (P := P) (sw_conv .f32 .f64 s2 (m := b) (by omega))
  have u3 := run_floatToFloat w (P := P) (sw_conv .f32 .f64 s3 (m := c) (by omega))
  have u4 := run_floatToFloat w (P := P) (sw_conv .f32 .f64 s4 (m := d) (by omega))
  have h1 := run_carith w (P := P) (sw_mul (k := .f64) s1 s3 (m := a) (n := c) (by omega) (by omega))
  have h2 := run_carith w (P := P) (sw_mul (k := .f64) s2 s4 (m := b) (n := d) (by omega) (by omega))
  have h3 := run_carith w (P := P) (sw_mul (k := .f64) s1 s4 (m := a) (n := d) (by omega) (by omega))
  have h4 := run_carith w (P := P) (sw_mul (k := .f64) s2 s3 (m := b) (n := c) (by omega) (by omega))
  have h5 := run_carith w (P := P) (sw_sub (k := .f64) (s1 ^^ s3) (s2 ^^ s4) (m := a * c) (n := b * d) (by omega) (by omega))
  have h6 := run_carith w (P := P) (sw_add (k := .f64) (s1 ^^ s4) (s2 ^^ s3) (m := a * d) (n := b * c) (by omega) (by omega))
  have n1 := sgN_le (s1 ^^ s3) (a * c) (!(s2 ^^ s4)) (b * d)
  have n2 := sgN_le (s1 ^^ s4) (a * d) (s2 ^^ s3) (b * c)
  have d1 := run_floatToFloat w (P := P) (sw_conv .f64 .f32 (sgS (s1 ^^ s3) (a * c) (!(s2 ^^ s4)) (b * d)) (m := sgN (s1 ^^ s3) (a * c) (!(s2 ^^ s4)) (b * d)) (by omega))
  have d2 := run_floatToFloat w (P := P) (sw_conv .f64 .f32 (sgS (s1 ^^ s4) (a * d) (s2 ^^ s3) (b * c)) (m := sgN (s1 ^^ s4) (a * d) (s2 ^^ s3) (b * c)) (by omega))
  simp [binOp, Op.complexOp, Op.Complex.conv, Op.Complex.product, Op.Complex.mul, Op.Complex.sub, Op.Complex.add, u1, u2, u3, u4, h1, h2, h3, h4, h5, h6, d1, d2]
theorem run_cadd {k : FloatKind} (t : TypeId) {a b c d : Int} (ha : a.natAbs ≤ 2000000) (hb : b.natAbs ≤ 2000000) (hc : c.natAbs ≤ 2000000) (hd : d.natAbs ≤ 2000000) :
    (binOp .add t (.complex k (floatOfInt k a) (floatOfInt k b)) (.complex k (floatOfInt k c) (floatOfInt k d))).run P w = .ok (.complex k (floatOfInt k (a + c)) (floatOfInt k (b + d))) w :=
  run_complex_sum w .add (.inl rfl) t k _ _ _ _ _ _ (by simp [cSumBits, ff_add ha hc, ff_add hb hd])
theorem run_csub {k : FloatKind} (t : TypeId) {a b c d : Int} (ha : a.natAbs ≤ 2000000) (hb : b.natAbs ≤ 2000000) (hc : c.natAbs ≤ 2000000) (hd : d.natAbs ≤ 2000000) :
    (binOp .sub t (.complex k (floatOfInt k a) (floatOfInt k b)) (.complex k (floatOfInt k c) (floatOfInt k d))).run P w = .ok (.complex k (floatOfInt k (a - c)) (floatOfInt k (b - d))) w :=
  run_complex_sum w .sub (.inr rfl) t k _ _ _ _ _ _ (by simp [cSumBits, ff_sub ha hc, ff_sub hb hd])
theorem run_caddS {k : FloatKind} (t : TypeId) {a b : Int} (s3 s4 : Bool) {c d : Nat} (ha : a.natAbs ≤ 2000000) (hb : b.natAbs ≤ 2000000) (hc : c ≤ 2000000) (hd : d ≤ 2000000) :
    (binOp .add t (.complex k (floatOfInt k a) (floatOfInt k b)) (.complex k (sw k s3 c) (sw k s4 d))).run P w = .ok (.complex k (floatOfInt k (a + sg s3 c)) (floatOfInt k (b + sg s4 d))) w :=
  run_complex_sum w .add (.inl rfl) t k _ _ _ _ _ _ (by simp [cSumBits, fw_add _ ha hc, fw_add _ hb hd])
theorem cmp_sg (a b : Int) : (compare a b == Ordering.eq) = decide (a = b) := by
  by_cases c : a = b
  · rw [Int.compare_eq_eq.2 c, decide_eq_true c]; rfl
  · rw [decide_eq_false c]
    rcases Int.lt_or_gt_of_ne c with h | h
    · rw [Int.compare_eq_lt.2 h]; rfl
    · rw [Int.compare_eq_gt.2 h]; rfl
theorem run_ceqS {k : FloatKind} (t : TypeId) (s1 s2 s3 s4 : Bool) {a b c d : Nat} (ha : a ≤ 2000000) (hb : b ≤ 2000000) (hc : c ≤ 2000000) (hd : d ≤ 2000000) :
    (binOp .eql t (.complex k (sw k s1 a) (sw k s2 b)) (.complex k (sw k s3 c) (sw k s4 d))).run P w = .ok (.bool (decide (sg s1 a = sg s3 c) && decide (sg s2 b = sg s4 d))) w := by
  have h1 := sw_order k s1 s3 ha hc
  have h2 := sw_order k s2 s4 hb hd
  simp [binOp, Op.complexOp, Op.Complex.cmp, Op.floatCmp, h1, h2, cmp_sg, asBool]
end
end Go.Proofs.YtmondgcehgmamaaGreatDoor

namespace Go.Proofs.YtmondgcehgmamaaGreatDoor
set_option linter.unusedSimpArgs false
set_option linter.unusedVariables false
open Ieee

/-- a step turned at a letter -/
def trn (c : UInt8) (z : Int × Int) : Int × Int := if c = 108 then (-z.2, z.1) else (z.2, -z.1)
def addP (a b : Int × Int) : Int × Int := (a.1 + b.1, a.2 + b.2)
def subP (a b : Int × Int) : Int × Int := (a.1 - b.1, a.2 - b.2)
/-- the step and the point behind the letters -/
def stPt (l : List UInt8) : (Int × Int) × (Int × Int) := l.foldl (fun q c => (trn c q.1, addP q.2 (trn c q.1))) ((1, 0), (1, 0))
def stP (l : List UInt8) : Int × Int := (stPt l).1
def psP (l : List UInt8) : Int × Int := (stPt l).2
theorem stP_nil : stP [] = (1, 0) := rfl
theorem psP_nil : psP [] = (1, 0) := rfl
theorem stP_snoc (l : List UInt8) (c : UInt8) : stP (l ++ [c]) = trn c (stP l) := by unfold stP stPt; rw [List.foldl_append]; rfl
theorem psP_snoc (l : List UInt8) (c : UInt8) : psP (l ++ [c]) = addP (psP l) (trn c (stP l)) := by unfold psP stP stPt; rw [List.foldl_append]; rfl
/-- the points of the curve of a word -/
def crvL (l : List UInt8) : List (Int × Int) := (0, 0) :: (List.range (l.length + 1)).map fun k => psP (l.take k)
theorem crvL_len (l : List UInt8) : (crvL l).length = l.length + 2 := by simp [crvL]
theorem crvL_zero (l : List UInt8) : (crvL l)[0]? = some (0, 0) := rfl
theorem crvL_succ {l : List UInt8} {k : Nat} (h : k ≤ l.length) : (crvL l)[k + 1]? = some (psP (l.take k)) := by
  unfold crvL
  rw [List.getElem?_cons_succ, List.getElem?_map, List.getElem?_range (by omega)]; rfl
theorem crvL_take {l : List UInt8} {k : Nat} (h : k ≤ l.length) : (crvL l).take (k + 2) = (crvL l).take (k + 1) ++ [psP (l.take k)] := by
  rw [List.take_add_one, crvL_succ h]; rfl
theorem crvL_one (l : List UInt8) : (crvL l).take 1 = [(0, 0)] := rfl
theorem crvL_all (l : List UInt8) : (crvL l).take (l.length + 2) = crvL l := List.take_of_length_le (by rw [crvL_len]; omega)
theorem stP_unit (l : List UInt8) : (stP l).1.natAbs ≤ 1 ∧ (stP l).2.natAbs ≤ 1 := by
  induction l using rev_ind with
  | h0 => decide
  | h1 l c ih =>
    rw [stP_snoc]
    unfold trn
    split <;> simp <;> omega
theorem psP_in (l : List UInt8) : (psP l).1.natAbs ≤ l.length + 1 ∧ (psP l).2.natAbs ≤ l.length + 1 := by
  induction l using rev_ind with
  | h0 => decide
  | h1 l c ih =>
    have h := stP_unit (l ++ [c])
    rw [stP_snoc] at h
    rw [psP_snoc, List.length_append, List.length_singleton]
    unfold addP
    dsimp only
    omega
theorem crvL_in (l : List UInt8) : ∀ z ∈ crvL l, z.1.natAbs ≤ l.length + 1 ∧ z.2.natAbs ≤ l.length + 1 := by
  intro z hz
  rcases List.mem_cons.1 hz with rfl | hz
  · simp
  · obtain ⟨k, hk, rfl⟩ := List.mem_map.1 hz
    have h := psP_in (l.take k)
    have : (l.take k).length ≤ l.length := by rw [List.length_take]; omega
    omega

/-! ### numbers with a sign -/
abbrev SZ := (Bool × Nat) × (Bool × Nat)
def val (q : SZ) : Int × Int := (sg q.1.1 q.1.2, sg q.2.1 q.2.2)
theorem val_sum (s : Bool) (m : Nat) (t : Bool) (n : Nat) : sg (sgS s m t n) (sgN s m t n) = sg s m + sg t n := by
  unfold sgS sgN
  generalize sg s m + sg t n = T
  split
  · rename_i h; rw [h]; exact sg0 _
  · exact own_sg T
/-- times i, or times -i -/
def mulq (r : Bool) (q : SZ) : SZ :=
  ((sgS (q.1.1 ^^ false) (q.1.2 * 0) (!(q.2.1 ^^ r)) (q.2.2 * 1), sgN (q.1.1 ^^ false) (q.1.2 * 0) (!(q.2.1 ^^ r)) (q.2.2 * 1)),
   (sgS (q.1.1 ^^ r) (q.1.2 * 1) (q.2.1 ^^ false) (q.2.2 * 0), sgN (q.1.1 ^^ r) (q.1.2 * 1) (q.2.1 ^^ false) (q.2.2 * 0)))
theorem val_mulq (r : Bool) (q : SZ) : val (mulq r q) = if r then ((val q).2, -(val q).1) else (-(val q).2, (val q).1) := by
  obtain ⟨⟨s, m⟩, t, n⟩ := q
  unfold mulq val
  simp only [val_sum, Nat.mul_zero, Nat.mul_one, sg0, Int.zero_add, Int.add_zero]
  cases r <;> cases s <;> cases t <;> simp [sg]
theorem mulq_in (r : Bool) {q : SZ} (h : q.1.2 ≤ 1 ∧ q.2.2 ≤ 1) : (mulq r q).1.2 ≤ 1 ∧ (mulq r q).2.2 ≤ 1 := by
  have h1 := sgN_le (q.1.1 ^^ false) (q.1.2 * 0) (!(q.2.1 ^^ r)) (q.2.2 * 1)
  have h2 := sgN_le (q.1.1 ^^ r) (q.1.2 * 1) (q.2.1 ^^ false) (q.2.2 * 0)
  unfold mulq
  dsimp only
  omega
def rgt (c : UInt8) : Bool := c != 108
def stZ (l : List UInt8) : SZ := l.foldl (fun q c => mulq (rgt c) q) ((false, 1), (false, 0))
theorem stZ_nil : stZ [] = ((false, 1), (false, 0)) := rfl
theorem stZ_snoc (l : List UInt8) (c : UInt8) : stZ (l ++ [c]) = mulq (rgt c) (stZ l) := by unfold stZ; rw [List.foldl_append]; rfl
theorem stZ_in (l : List UInt8) : (stZ l).1.2 ≤ 1 ∧ (stZ l).2.2 ≤ 1 := by
  induction l using rev_ind with
  | h0 => decide
  | h1 l c ih => rw [stZ_snoc]; exact mulq_in _ ih
theorem stZ_val (l : List UInt8) : val (stZ l) = stP l := by
  induction l using rev_ind with
  | h0 => rfl
  | h1 l c ih =>
    rw [stZ_snoc, val_mulq, stP_snoc, ih]
    unfold trn rgt
    by_cases h : c = 108
    · simp [h]
    · simp [h]

/-! ### their words -/
def xr (q : SZ) : Nat := sw .f32 q.1.1 q.1.2
def xi (q : SZ) : Nat := sw .f32 q.2.1 q.2.2
def px (z : Int × Int) : Nat := floatOfInt .f32 z.1
def py (z : Int × Int) : Nat := floatOfInt .f32 z.2
abbrev encZ (q : SZ) : Value := .complex .f32 (xr q) (xi q)
abbrev encP (z : Int × Int) : Value := .complex .f32 (px z) (py z)
theorem w0 (k : FloatKind) : floatOfInt k 0 = 0 := by cases k <;> decide +kernel
theorem w0s : floatOfInt .f32 0 = 0 := by decide +kernel
theorem w1s : floatOfInt .f32 1 = 1065353216 := by decide +kernel
theorem wm1s : floatOfInt .f32 (-1) = 3212836864 := by decide +kernel
theorem enc00 : encP (0, 0) = .complex .f32 0 0 := by unfold encP px py; rw [w0s]
theorem enc10 : encP (1, 0) = .complex .f32 1065353216 0 := by unfold encP px py; rw [w0s, w1s]
theorem encZ10 : encZ ((false, 1), (false, 0)) = .complex .f32 1065353216 0 := enc10
theorem z00 : (Value.complex .f32 0 0) = encP (0, 0) := enc00.symm
def Sm (z : Int × Int) : Prop := z.1.natAbs ≤ 1000000 ∧ z.2.natAbs ≤ 1000000
section
variable {P : Program} (w : World)
theorem run_left (t : TypeId) {q : SZ} (h : q.1.2 ≤ 1 ∧ q.2.2 ≤ 1) : (binOp .mul t (encZ q) (.complex .f32 0 1065353216)).run P w = .ok (encZ (mulq false q)) w := by
  have e := run_cmul32 (P := P) w t q.1.1 q.2.1 false false (a := q.1.2) (b := q.2.2) (c := 0) (d := 1) (by omega) (by omega) (by omega) (by omega)
  rw [show sw .f32 false 0 = 0 from w0s, show sw .f32 false 1 = 1065353216 from w1s] at e
  exact e
theorem run_right (t : TypeId) {q : SZ} (h : q.1.2 ≤ 1 ∧ q.2.2 ≤ 1) : (binOp .mul t (encZ q) (.complex .f32 0 3212836864)).run P w = .ok (encZ (mulq true q)) w := by
  have e := run_cmul32 (P := P) w t q.1.1 q.2.1 false true (a := q.1.2) (b := q.2.2) (c := 0) (d := 1) (by omega) (by omega) (by omega) (by omega)
  rw [show sw .f32 false 0 = 0 from w0s, show sw .f32 true 1 = 3212836864 from wm1s] at e
  exact e
theorem run_pstep (t : TypeId) {p : Int × Int} {q : SZ} (hp : Sm p) (h : q.1.2 ≤ 1 ∧ q.2.2 ≤ 1) : (binOp .add t (encP p) (encZ q)).run P w = .ok (encP (addP p (val q))) w :=
  run_caddS (P := P) w t q.1.1 q.2.1 (by have := hp.1; omega) (by have := hp.2; omega) (by omega) (by omega)
theorem run_padd (t : TypeId) {p q : Int × Int} (hp : Sm p) (hq : Sm q) : (binOp .add t (encP p) (encP q)).run P w = .ok (encP (addP p q)) w :=
  run_cadd (P := P) w t (by have := hp.1; omega) (by have := hp.2; omega) (by have := hq.1; omega) (by have := hq.2; omega)
theorem run_psub (t : TypeId) {p q : Int × Int} (hp : Sm p) (hq : Sm q) : (binOp .sub t (encP p) (encP q)).run P w = .ok (encP (subP p q)) w :=
  run_csub (P := P) w t (by have := hp.1; omega) (by have := hp.2; omega) (by have := hq.1; omega) (by have := hq.2; omega)
end
theorem neg_bits {a : Int} (h : a.natAbs ≤ 1000000) : floatBits .sub .f32 0 (floatOfInt .f32 a) = some (floatOfInt .f32 (-a)) := by
  have := ff_sub (k := .f32) (a := 0) (b := a) (by decide) (by omega)
  rw [w0s, Int.zero_sub] at this
  exact this
end Go.Proofs.YtmondgcehgmamaaGreatDoor

namespace Go.Proofs.YtmondgcehgmamaaGreatDoor
set_option linter.unusedSimpArgs false
set_option linter.unusedVariables false
open Go.RowKit Ieee

theorem infoC : (Tryz.prog.info? 32).map (fun i => (i.zero, i.size, i.bytes)) = some (some (.complex .f32 0 0), 1, 8) := by kernel_rfl
/-- a slice that reads as the list -/
def CSl (a : Option Addr) (l : List Value) (w : World) : Prop := l = [] ∨ ∃ g o, a = some ⟨g, o, none⟩ ∧ ∀ (k : Nat) (x : Value), l[k]? = some x → w.cell? ⟨g, o + k, none⟩ = some x
theorem CSl.keep {a : Option Addr} {l : List Value} {w w' : World} (h : CSl a l w) (hb : Below w.heap.size w w') : CSl a l w' := by
  refine h.imp id ?_
  rintro ⟨g, o, rfl, hc⟩
  exact ⟨g, o, rfl, fun k x hk => keepcell hb (hc k x hk)⟩
theorem CSl.at {a : Option Addr} {l : List Value} {w : World} (h : CSl a l w) {k : Nat} (hk : k < l.length) : ∃ g o, a = some ⟨g, o, none⟩ ∧ w.cell? ⟨g, o + k, none⟩ = some l[k] := by
  rcases h with h0 | ⟨g, o, rfl, hc⟩
  · rw [h0] at hk; simp at hk
  · exact ⟨g, o, rfl, hc k _ (List.getElem?_eq_getElem hk)⟩
/-- an owned row reads so -/
theorem own_csl {w : World} {B n : Nat} {v : Value} {l : List Value} (h : w.ownsRow B 32 1 v n l) : ∃ a c, v = .slice a l.length c ∧ CSl a l w ∧ (l = [] ∨ ∃ g, a = some ⟨g, 0, none⟩ ∧ B ≤ g ∧ g < w.heap.size ∧ ∀ j, w.frozen? ⟨g, j, none⟩ = false) := by
  have hl := h.1
  rw [Nat.mul_one] at hl
  subst hl
  rcases h.2 with ⟨rfl, h0⟩ | ⟨g, cap, cur, rfl, hg, hgg, -⟩
  · have : l = [] := List.eq_nil_of_length_eq_zero h0
    subst this
    exact ⟨none, 0, rfl, Or.inl rfl, Or.inl rfl⟩
  · refine ⟨_, cap, rfl, Or.inr ⟨g, 0, rfl, fun k x hk => ?_⟩, Or.inr ⟨g, rfl, hg, (Array.getElem?_eq_some_iff.1 hgg).1, fun j => h.frozenAt j⟩⟩
    have hk' : k < l.length := (List.getElem?_eq_some_iff.1 hk).1
    rw [Nat.zero_add]
    exact (h.cellAt _ (by omega)).trans hk
theorem one_c (x y : Nat) : ∀ u ∈ [Value.complex .f32 x y], u.oneCell' = true := one1 _ rfl
theorem own_iterX {w : World} {B e n sz : Nat} {v : Value} {xs : List Value} (h : w.ownsRow B e sz v n xs) {k : Nat} {s0 : ByteArray} {p0 : Nat} (hk : w.heap[k]? = some (.stringIter s0 p0)) (s : ByteArray) (pos : Nat) : (w.iterAt k s pos).ownsRow B e sz v n xs := by
  refine ⟨h.1, h.2.imp id ?_⟩
  rintro ⟨g', cap', cur, h1, h2, h3, h4⟩
  have hne : g' ≠ k := by
    rintro rfl
    rw [h3] at hk
    cases hk
  exact ⟨g', cap', cur, h1, h2, (Lib.iterAt_other w k g' s pos hne).trans h3, h4⟩
theorem iter_other {w : World} {B e n sz : Nat} {v : Value} {xs : List Value} (h : w.ownsRow B e sz v n xs) {k : Nat} {s0 : ByteArray} {p0 : Nat} (hk : w.heap[k]? = some (.stringIter s0 p0)) : some k ≠ v.ownBlock := by
  rcases h.2 with ⟨rfl, _⟩ | ⟨g, cap, cur, rfl, hg, hgg, _⟩
  · simp [Value.ownBlock]
  · simp only [Value.ownBlock]
    intro e1
    simp only [Option.some.injEq] at e1
    subst e1
    rw [hgg] at hk
    cases hk
end Go.Proofs.YtmondgcehgmamaaGreatDoor

namespace Go.Proofs.YtmondgcehgmamaaGreatDoor
set_option linter.unusedSimpArgs false
set_option linter.unusedVariables false
open Go.RowKit
/-- a world behind w that keeps all that stood in w -/
structure BelowW (w : World) where
  at' : World
  kept : Below w.heap.size w at'
theorem BelowW.none (w : World) : Nonempty (BelowW w) := ⟨⟨w, Below.refl _ _⟩⟩
theorem wp_region_below {P : Program} {id : Nat} {Q : Exit → Act → World → Prop} {a : Act} {w : World} {l : List Oper} (hm : P.follows .mixedOrders = true) (hB : Region.lexB .any l.toArray = true)
    (h : wpQuiet P l.toArray (fun w' => ∃ x : BelowW w, w' = x.at') (fun a' => ∀ w', (∃ x : BelowW w, w' = x.at') → Q .normal a' w') l a) : (Code.region id l.toArray true).wp P Q a w :=
  wp_region_quiet (C := fun w' => ∃ x : BelowW w, w' = x.at') hm hB ⟨⟨_, Blw.drew (Below.refl _ _)⟩, rfl⟩ (by simpa using h)
theorem Calls.below {P : Program} {f : FuncId} {args : Array Value} {w : World} {x : BelowW w} {v : Value}
    (h : Calls P f args x.at' fun e w' => e = .returned v ∧ Below x.at'.heap.size x.at' w') : Calls P f args x.at' fun e w'' => e = .returned v ∧ ∃ y : BelowW w, w'' = y.at' :=
  h.mono fun _ w1 ⟨he, hb⟩ => ⟨he, ⟨w1, Blw.after x.kept hb⟩, rfl⟩
end Go.Proofs.YtmondgcehgmamaaGreatDoor

namespace Go.Proofs.YtmondgcehgmamaaGreatDoor
set_option linter.unusedSimpArgs false
set_option linter.unusedVariables false
open Go.RowKit Ieee

theorem quarter_l (w : World) : Calls Tryz.prog 51 #[.int .i32 108] w fun e w' => e = .returned (.complex .f32 0 1065353216) ∧ w = w' := by
  go_enter Tryz.func51, Tryz.ntmps51
  go_wp2
  go_ret
  exact ⟨rfl, rfl⟩
theorem quarter_r (c : Int) (w : World) (h : c ≠ 108) : Calls Tryz.prog 51 #[.int .i32 c] w fun e w' => e = .returned (.complex .f32 0 3212836864) ∧ w = w' := by
  have a1 : (c == 108) = false := by simp [h]
  clear h
  go_enter Tryz.func51, Tryz.ntmps51
  go_wp2
  go_ret
  exact ⟨rfl, rfl⟩
theorem rgt_l {c : UInt8} (h : c.toNat = 108) : rgt c = false := by
  obtain rfl : c = 108 := UInt8.toNat_inj.1 (by rw [h]; rfl)
  rfl
theorem rgt_r {c : UInt8} (h : c.toNat ≠ 108) : rgt c = true := by
  unfold rgt
  simp only [bne_iff_ne, ne_eq]
  intro e; apply h; rw [e]; rfl
def stpsL (l : List UInt8) (k : Nat) : List Value := (List.range k).map fun j => encZ (stZ (l.take j))
theorem stpsL_len (l : List UInt8) (k : Nat) : (stpsL l k).length = k := by simp [stpsL]
theorem stpsL_succ (l : List UInt8) (k : Nat) : stpsL l (k + 1) = stpsL l k ++ [encZ (stZ (l.take k))] := by simp [stpsL, List.range_succ]
theorem stpsL_get (l : List UInt8) {k n : Nat} (h : k < n) : (stpsL l n)[k]? = some (encZ (stZ (l.take k))) := by
  unfold stpsL
  rw [List.getElem?_map, List.getElem?_range h]; rfl
def StRel (s : ByteArray) (w : World) (ib : Nat) (m : Nat) (x v : Value) (wr : World) : Prop :=
  ∃ k : Nat, k + m = s.size ∧ x = encZ (stZ ((toL s).take k)) ∧ wr.heap[ib]? = some (.stringIter s k) ∧ wr.ownsRow w.heap.size 32 1 v (k + 1) (stpsL (toL s) (k + 1)) ∧ Below w.heap.size w wr
set_option maxRecDepth 100000 in
set_option maxHeartbeats 4000000 in
theorem stepsOf_c (s : ByteArray) (w : World) (hs : s.size ≤ 1023) (hw : onlyW s = true) : Calls Tryz.prog 190 #[.string s] w fun e w' => ∃ v, e = .returned v ∧ w'.ownsRow w.heap.size 32 1 v (s.size + 1) (stpsL (toL s) (s.size + 1)) ∧ Below w.heap.size w w' := by
  obtain ⟨i0, hi, hz0, hz1, hz2⟩ := info_parts infoC
  have HW := Lib.hid (show ∀ k (h : k < s.size), s[k].toNat < 128 from fun k h => by
    have := (wdC_iff _).1 (onlyW_all hw _ (List.mem_of_getElem? (toL_get s k h))); omega)
  clear hw
  go_enter Tryz.func190, Tryz.ntmps190
  go_wp2_with fail
  have S0 := Lib.hid (show StRel s w (w.heap.size + 1) s.size (.complex .f32 1065353216 0) (.slice (some ⟨w.heap.size, 0, none⟩) 1 1) ((w.alloc (.cells #[.complex .f32 1065353216 0] 32)).iter s 0) from by
    have h := World.ownsRow_lit (base := w.heap.size) (e := 32) (size := 1) w #[.complex .f32 1065353216 0] 1 (Nat.le_refl _) (by unfold maxLen; omega) rfl
    have hB : Below w.heap.size w (w.alloc (.cells #[.complex .f32 1065353216 0] 32)) := by (first | ((repeat' with_reducible first | assumption | exact Below.refl _ _ | apply Blw.alloc | apply Blw.drew | apply Blw.drewN | (refine Blw.after ?_ (by assumption)) | (refine Blw.set ?_ (by first | (dsimp only; omega) | (simp; omega)) _)); done) | (repeat' (first | assumption | exact Below.refl _ _ | apply Blw.alloc | apply Blw.drew | apply Blw.drewN | (refine Blw.after ?_ (by assumption)) | (refine Blw.set ?_ (by first | (dsimp only; omega) | (simp; done) | (simp; omega)) _))))
    refine ⟨0, by omega, ?_, ?_, ?_, hB.trans ((iter_below _ s 0).mono hB.size)⟩
    · rw [List.take_zero, stZ_nil]; exact encZ10.symm
    · have := World.iter_heap (w.alloc (.cells #[.complex .f32 1065353216 0] 32)) s 0
      rw [alloc_size] at this
      exact this
    · rw [show stpsL (toL s) (0 + 1) = [.complex .f32 1065353216 0] by rw [stpsL_succ, List.take_zero, stZ_nil]; exact congrArg (fun x => [x]) encZ10]
      exact own_iter h s 0)
  go_loopg [3, 4, 6] s.size (fun m x v r wr => StRel s w (w.heap.size + 1) m x v wr)
  case atStart => exact S0.out
  case round =>
    clear S0
    obtain ⟨k, hk, rfl, hit, hown, hB⟩ := hrel
    have LI := iter_lt hit
    by_cases hlt : k < s.size
    · have hnx : ∀ ty, (Instr.next (.pointer (some ⟨w.heap.size + 1, 0, none⟩)) true ty).run Tryz.prog wr = _ := fun ty => Lib.run_next_any_at wr (w.heap.size + 1) s k ty hit hlt
      rw [decode_ascii s k hlt (HW.out k hlt)] at hnx
      have hit2 := Lib.iterAt_heap wr (w.heap.size + 1) s k (k + 1) hit
      have o2 := own_iterX hown hit s (k + 1)
      have B2 := Lib.below_iterAt hB (k := w.heap.size + 1) (by omega) s (k + 1)
      generalize wr.iterAt (w.heap.size + 1) s (k + 1) = W2 at *
      have HIT := Lib.hid hit2
      have HO := Lib.hid o2
      have hq := stZ_in ((toL s).take k)
      have HS := Lib.hid (take_snocB s k hlt)
      have HE := Lib.hid (stpsL_succ (toL s) (k + 1))
      have L2 : w.heap.size + 1 < W2.heap.size := iter_lt hit2
      clear hit hown hit2 o2 hB
      by_cases e8 : s[k].toNat = 108
      · have HZ := Lib.hid (show stZ ((toL s).take (k + 1)) = mulq false (stZ ((toL s).take k)) by rw [HS.out, stZ_snoc, rgt_l e8])
        have f1 := fun w t => run_left (P := Tryz.prog) w t hq
        rw [e8] at hnx
        clear hq
        generalize stZ ((toL s).take k) = q at *
        go_wp2_with (first | (go_at_call 51; refine (quarter_l _).mono ?_; rintro e w1 ⟨rfl, rfl⟩) | (at_builtin; refine wpList_append_own _ rfl _ _ 121 rfl w.heap.size 32 i0 (.complex .f32 0 0) 1 8 Tryz.underlying121 hi hz0 hz1 hz2 rfl (by decide) _ _ _ rfl (HO.out.alloc _) ⟨W2.heap.size, 0, none⟩ 1 1 [encZ (mulq false q)] rfl rfl (cells1 _ _ _) (one1 _ rfl) (by unfold maxLen; omega) (by omega) (by have := B2.size; simp; omega) ?_))
        intro v' W3 hown' hgrow _
        have hB3 : Below w.heap.size w W3 := Below.grown (by (first | ((repeat' with_reducible first | assumption | exact Below.refl _ _ | apply Blw.alloc | apply Blw.drew | apply Blw.drewN | (refine Blw.after ?_ (by assumption)) | (refine Blw.set ?_ (by first | (dsimp only; omega) | (simp; omega)) _)); done) | (repeat' (first | assumption | exact Below.refl _ _ | apply Blw.alloc | apply Blw.drew | apply Blw.drewN | (refine Blw.after ?_ (by assumption)) | (refine Blw.set ?_ (by first | (dsimp only; omega) | (simp; done) | (simp; omega)) _))))) hgrow (by have := B2.size; simp; omega) (fun k hk => (HO.out.lt k hk).1)
        have HO3 := Lib.hid hown'
        have HI3 := Lib.hid (show W3.heap[w.heap.size + 1]? = some (.stringIter s (k + 1)) from (hgrow.block _ (by rw [alloc_size]; omega) (iter_other HO.out HIT.out)).trans (iter_of_below ((Below.refl _ _).alloc (Nat.le_refl _) _) HIT.out))
        clear hgrow hown' HO HIT
        go_wp2_with fail
        go_roundg (gk - 1)
        case measure => omega
        case rel => exact ⟨k + 1, by omega, by rw [HZ.out], HI3.out, by rw [HE.out, HZ.out]; exact HO3.out, hB3⟩
      · have HZ := Lib.hid (show stZ ((toL s).take (k + 1)) = mulq true (stZ ((toL s).take k)) by rw [HS.out, stZ_snoc, rgt_r e8])
        have f1 := fun w t => run_right (P := Tryz.prog) w t hq
        have e9 : ¬ ((s[k].toNat : Int) = 108) := by omega
        generalize hcv : (s[k].toNat : Int) = cv at *
        clear hq hcv
        generalize stZ ((toL s).take k) = q at *
        go_wp2_with (first | (go_at_call 51; refine (quarter_r _ _ e9).mono ?_; rintro e w1 ⟨rfl, rfl⟩) | (at_builtin; refine wpList_append_own _ rfl _ _ 121 rfl w.heap.size 32 i0 (.complex .f32 0 0) 1 8 Tryz.underlying121 hi hz0 hz1 hz2 rfl (by decide) _ _ _ rfl (HO.out.alloc _) ⟨W2.heap.size, 0, none⟩ 1 1 [encZ (mulq true q)] rfl rfl (cells1 _ _ _) (one1 _ rfl) (by unfold maxLen; omega) (by omega) (by have := B2.size; simp; omega) ?_))
        intro v' W3 hown' hgrow _
        have hB3 : Below w.heap.size w W3 := Below.grown (by (first | ((repeat' with_reducible first | assumption | exact Below.refl _ _ | apply Blw.alloc | apply Blw.drew | apply Blw.drewN | (refine Blw.after ?_ (by assumption)) | (refine Blw.set ?_ (by first | (dsimp only; omega) | (simp; omega)) _)); done) | (repeat' (first | assumption | exact Below.refl _ _ | apply Blw.alloc | apply Blw.drew | apply Blw.drewN | (refine Blw.after ?_ (by assumption)) | (refine Blw.set ?_ (by first | (dsimp only; omega) | (simp; done) | (simp; omega)) _))))) hgrow (by have := B2.size; simp; omega) (fun k hk => (HO.out.lt k hk).1)
        have HO3 := Lib.hid hown'
        have HI3 := Lib.hid (show W3.heap[w.heap.size + 1]? = some (.stringIter s (k + 1)) from (hgrow.block _ (by rw [alloc_size]; omega) (iter_other HO.out HIT.out)).trans (iter_of_below ((Below.refl _ _).alloc (Nat.le_refl _) _) HIT.out))
        clear hgrow hown' HO HIT
        go_wp2_with fail
        go_roundg (gk - 1)
        case measure => omega
        case rel => exact ⟨k + 1, by omega, by rw [HZ.out], HI3.out, by rw [HE.out, HZ.out]; exact HO3.out, hB3⟩
    · have hnx : ∀ ty, (Instr.next (.pointer (some ⟨w.heap.size + 1, 0, none⟩)) true ty).run Tryz.prog wr = _ := fun ty => Lib.run_next_end_at wr (w.heap.size + 1) s k ty hit hlt
      obtain rfl : k = s.size := by omega
      have HO := Lib.hid hown
      clear hown hit
      go_wp2_with fail
      go_ret
      exact ⟨_, rfl, HO.out, hB⟩

/-! ### points -/
theorem crv_at {l : List UInt8} {k : Nat} (hl : l.length ≤ 1023) (h : k ≤ l.length) {z : Int × Int} (hz : (crvL l)[k]? = some z) : Sm z ∧ (crvL l)[k + 1]? = some (addP z (stP (l.take k))) ∧ (crvL l).take (k + 2) = (crvL l).take (k + 1) ++ [addP z (stP (l.take k))] := by
  have hm := crvL_in l z (List.mem_of_getElem? hz)
  have e : psP (l.take k) = addP z (stP (l.take k)) := by
    cases k with
    | zero =>
      rw [crvL_zero] at hz
      cases hz
      rw [List.take_zero]; rfl
    | succ k =>
      rw [crvL_succ (by omega)] at hz
      cases hz
      rw [take_snocL (List.getElem?_eq_getElem (show k < l.length by omega)), psP_snoc, stP_snoc]
  refine ⟨?_, by rw [crvL_succ h, e], by rw [crvL_take h, e]⟩
  unfold Sm
  omega
def AlRel (l : List UInt8) (w : World) (m : Nat) (x v i : Value) (wr : World) : Prop :=
  ∃ (k : Nat) (z : Int × Int), k + m = l.length + 1 ∧ i = .int .i64 k ∧ (crvL l)[k]? = some z ∧ x = encP z ∧ wr.ownsRow w.heap.size 32 1 v (k + 1) (((crvL l).take (k + 1)).map encP) ∧ Below w.heap.size w wr
set_option maxRecDepth 100000 in
set_option maxHeartbeats 4000000 in
theorem along_c (l : List UInt8) (a : Option Addr) (c : Nat) (w : World) (hl : l.length ≤ 1023) (h : CSl a (stpsL l (l.length + 1)) w) : Calls Tryz.prog 189 #[.slice a (l.length + 1) c] w fun e w' => ∃ v, e = .returned v ∧ w'.ownsRow w.heap.size 32 1 v (l.length + 2) ((crvL l).map encP) ∧ Below w.heap.size w w' := by
  obtain ⟨i0, hi, hz0, hz1, hz2⟩ := info_parts infoC
  have HC := Lib.hid h
  clear h
  go_enter Tryz.func189, Tryz.ntmps189
  go_wp2_with fail
  have S0 := Lib.hid (show AlRel l w (l.length + 1) (.complex .f32 0 0) (.slice (some ⟨w.heap.size, 0, none⟩) 1 1) (.int .i64 0) (w.alloc (.cells #[.complex .f32 0 0] 32)) from by
    have h := World.ownsRow_lit (base := w.heap.size) (e := 32) (size := 1) w #[.complex .f32 0 0] 1 (Nat.le_refl _) (by unfold maxLen; omega) rfl
    refine ⟨0, (0, 0), by omega, rfl, crvL_zero l, enc00.symm, ?_, by (first | ((repeat' with_reducible first | assumption | exact Below.refl _ _ | apply Blw.alloc | apply Blw.drew | apply Blw.drewN | (refine Blw.after ?_ (by assumption)) | (refine Blw.set ?_ (by first | (dsimp only; omega) | (simp; omega)) _)); done) | (repeat' (first | assumption | exact Below.refl _ _ | apply Blw.alloc | apply Blw.drew | apply Blw.drewN | (refine Blw.after ?_ (by assumption)) | (refine Blw.set ?_ (by first | (dsimp only; omega) | (simp; done) | (simp; omega)) _))))⟩
    rw [show ((crvL l).take (0 + 1)).map encP = [.complex .f32 0 0] by rw [crvL_one]; exact congrArg (fun x => [x]) enc00]
    exact h)
  go_loopg [3, 4, 6, 11] (l.length + 1) (fun m x v r i wr => AlRel l w m x v i wr)
  case atStart => exact S0.out
  case round =>
    clear S0
    obtain ⟨k, z, hk, rfl, hz, rfl, hown, hB⟩ := hrel
    have HO := Lib.hid hown
    clear hown
    by_cases hlt : k < l.length + 1
    · have hcs := HC.out.keep hB
      obtain ⟨g, o, rfl, hc⟩ := hcs.at (k := k) (by rw [stpsL_len]; exact hlt)
      have hg : (stpsL l (l.length + 1))[k]? = _ := stpsL_get l hlt
      rw [List.getElem?_eq_getElem (by rw [stpsL_len]; exact hlt)] at hg
      rw [Option.some.inj hg] at hc
      obtain ⟨hs, hn, ht⟩ := crv_at hl (by omega) hz
      have hv := stZ_val (l.take k)
      have hq := stZ_in (l.take k)
      have f1 := fun w t => run_pstep (P := Tryz.prog) w t hs hq
      rw [hv] at f1
      generalize hzz : addP z (stP (l.take k)) = z' at *
      have HN := Lib.hid hn
      have HT := Lib.hid ht
      have Lg : g < wr.heap.size := World.block_lt_of_cell? wr _ hc
      clear hcs hg hz hs hv hq hzz hn ht
      generalize stZ (l.take k) = q at *
      go_wp2_with (at_builtin; refine wpList_append_own _ rfl _ _ 121 rfl w.heap.size 32 i0 (.complex .f32 0 0) 1 8 Tryz.underlying121 hi hz0 hz1 hz2 rfl (by decide) _ _ _ rfl (HO.out.alloc _) ⟨wr.heap.size, 0, none⟩ 1 1 [encP z'] rfl rfl (cells1 _ _ _) (one1 _ rfl) (by unfold maxLen; omega) (by omega) (by have := hB.size; simp; omega) ?_)
      intro v' W3 hown' hgrow _
      have hB3 : Below w.heap.size w W3 := Below.grown (by (first | ((repeat' with_reducible first | assumption | exact Below.refl _ _ | apply Blw.alloc | apply Blw.drew | apply Blw.drewN | (refine Blw.after ?_ (by assumption)) | (refine Blw.set ?_ (by first | (dsimp only; omega) | (simp; omega)) _)); done) | (repeat' (first | assumption | exact Below.refl _ _ | apply Blw.alloc | apply Blw.drew | apply Blw.drewN | (refine Blw.after ?_ (by assumption)) | (refine Blw.set ?_ (by first | (dsimp only; omega) | (simp; done) | (simp; omega)) _))))) hgrow (by have := hB.size; simp; omega) (fun k hk => (HO.out.lt k hk).1)
      have HO3 := Lib.hid hown'
      clear hgrow hown' HO
      go_wp2_with fail
      go_roundg (gk - 1)
      case measure => omega
      case rel => exact ⟨k + 1, z', by omega, by go_num, HN.out, rfl, by rw [HT.out, List.map_append, List.map_take]; exact HO3.out, hB3⟩
    · obtain rfl : k = l.length + 1 := by omega
      have HE := Lib.hid (crvL_all l)
      clear hz
      go_wp2_with fail
      go_ret
      exact ⟨_, rfl, by rw [← HE.out]; exact HO.out, hB⟩

/-! ### curves -/
def crvA (s : ByteArray) : List (Int × Int) := if wdB 1023 s then crvL (toL s) else []
theorem crvA_t {s : ByteArray} (h : wdB 1023 s = true) : crvA s = crvL (toL s) := by unfold crvA; rw [h]; rfl
theorem crvA_f {s : ByteArray} (h : wdB 1023 s = false) : crvA s = [] := by unfold crvA; rw [h]; rfl
theorem crvA_len {s : ByteArray} (h : wdB 1023 s = true) : (crvA s).length = s.size + 2 := by rw [crvA_t h, crvL_len, toL_len]
def CvPost (s : ByteArray) (w : World) (e : Ending) (w' : World) : Prop := ∃ v, e = .returned (.tuple #[v, .bool (wdB 1023 s)]) ∧ w'.ownsRow w.heap.size 32 1 v (crvA s).length ((crvA s).map encP) ∧ Below w.heap.size w w'
set_option maxRecDepth 100000 in
set_option maxHeartbeats 4000000 in
theorem iCurveOf_c (s : ByteArray) (w : World) : Calls Tryz.prog 140 #[.string s] w (CvPost s w) := by
  rcases Bool.eq_false_or_eq_true (wdB 1023 s) with h | h
  · have HW := Lib.hid h
    have hsz := wdB_len h
    go_enter Tryz.func140, Tryz.ntmps140
    go_wp2_with (go_at_call 188; refine (isWord_c _ _).mono ?_; rintro e w1 ⟨rfl, hb⟩; obtain ⟨hc, hf⟩ := bcell hb; have hz := bsize hb; have hs := hb.size; try simp at hs)
    have hB1 := Lib.hid (show Below w.heap.size w w1 by (first | ((repeat' with_reducible first | assumption | exact Below.refl _ _ | apply Blw.alloc | apply Blw.drew | apply Blw.drewN | (refine Blw.after ?_ (by assumption)) | (refine Blw.set ?_ (by first | (dsimp only; omega) | (simp; omega)) _)); done) | (repeat' (first | assumption | exact Below.refl _ _ | apply Blw.alloc | apply Blw.drew | apply Blw.drewN | (refine Blw.after ?_ (by assumption)) | (refine Blw.set ?_ (by first | (dsimp only; omega) | (simp; done) | (simp; omega)) _)))))
    clear hb hc hf hz hs
    refine (stepsOf_c s w1 hsz (wdB_only HW.out)).mono ?_
    rintro e w2 ⟨v, rfl, ho, hb2⟩
    obtain ⟨a, c, rfl, hcs, -⟩ := own_csl ho
    rw [stpsL_len]
    have HC := Lib.hid (show CSl a (stpsL (toL s) ((toL s).length + 1)) w2 from by rw [toL_len]; exact hcs)
    have HB2 := Lib.hid (hB1.out.trans (hb2.mono hB1.out.size))
    clear ho hcs hb2
    go_wp2_with fail
    have HA := along_c (toL s) a c w2 (by rw [toL_len]; exact hsz) HC.out
    rw [toL_len] at HA
    refine HA.mono ?_
    rintro e w3 ⟨v, rfl, ho, hb3⟩
    have HO := Lib.hid (show w3.ownsRow w.heap.size 32 1 v (crvA s).length ((crvA s).map encP) from by
      rw [crvA_len HW.out, crvA_t HW.out]; exact ownsRow_low HB2.out.size ho)
    have HB3 := Lib.hid (HB2.out.trans (hb3.mono HB2.out.size))
    clear ho hb3
    go_wp2_with fail
    go_ret2
    exact ⟨v, by rw [HW.out]; rfl, HO.out, HB3.out⟩
  · have HW := Lib.hid h
    go_enter Tryz.func140, Tryz.ntmps140
    go_wp2_with (go_at_call 188; refine (isWord_c _ _).mono ?_; rintro e w1 ⟨rfl, hb⟩; obtain ⟨hc, hf⟩ := bcell hb; have hz := bsize hb; have hs := hb.size; try simp at hs)
    have hB1 := Lib.hid (show Below w.heap.size w w1 by (first | ((repeat' with_reducible first | assumption | exact Below.refl _ _ | apply Blw.alloc | apply Blw.drew | apply Blw.drewN | (refine Blw.after ?_ (by assumption)) | (refine Blw.set ?_ (by first | (dsimp only; omega) | (simp; omega)) _)); done) | (repeat' (first | assumption | exact Below.refl _ _ | apply Blw.alloc | apply Blw.drew | apply Blw.drewN | (refine Blw.after ?_ (by assumption)) | (refine Blw.set ?_ (by first | (dsimp only; omega) | (simp; done) | (simp; omega)) _)))))
    clear hb hc hf hz hs
    go_ret2
    exact ⟨_, by rw [HW.out]; rfl, by rw [crvA_f HW.out]; exact World.ownsRow_nil _ _ _ _, hB1.out⟩

def ScRel (s : ByteArray) (w : World) (m : Nat) (x st v i : Value) (wr : World) : Prop :=
  ∃ (k : Nat) (z q : Int × Int), k + m = s.size + 1 ∧ i = .int .i64 k ∧ (crvL (toL s))[k]? = some z ∧ x = encP z ∧ st = encP q ∧ (k ≤ s.size → q = stP ((toL s).take k)) ∧ wr.ownsRow w.heap.size 32 1 v (k + 1) (((crvL (toL s)).take (k + 1)).map encP) ∧ Below w.heap.size w wr
theorem crv_done {s : ByteArray} {w : World} {B : Nat} {v : Value} (h : wdB 1023 s = true) (ho : w.ownsRow B 32 1 v (s.size + 1 + 1) (((crvL (toL s)).take (s.size + 1 + 1)).map encP)) : w.ownsRow B 32 1 v (crvA s).length ((crvA s).map encP) := by
  have e := crvL_all (toL s)
  rw [toL_len] at e
  rw [crvA_len h, crvA_t h, ← e]; exact ho
theorem trn_l {c : UInt8} (h : c.toNat = 108) (z : Int × Int) : trn c z = (-z.2, z.1) := by
  obtain rfl : c = 108 := UInt8.toNat_inj.1 (by rw [h]; rfl)
  rfl
theorem trn_r {c : UInt8} (h : c.toNat ≠ 108) (z : Int × Int) : trn c z = (z.2, -z.1) := by
  unfold trn; rw [if_neg (fun e => h (by rw [e]; rfl))]
set_option maxRecDepth 100000 in
set_option maxHeartbeats 4000000 in
theorem sCurveOf_c (s : ByteArray) (w : World) : Calls Tryz.prog 102 #[.string s] w (CvPost s w) := by
  obtain ⟨i0, hi, hz0, hz1, hz2⟩ := info_parts infoC
  rcases Bool.eq_false_or_eq_true (wdB 1023 s) with h | h
  · have HW := Lib.hid h
    have hsz := wdB_len h
    go_enter Tryz.func102, Tryz.ntmps102
    go_wp2_with (go_at_call 52; refine (l4Word_c _ 1023 _ (by decide)).mono ?_; rintro e w1 ⟨rfl, rfl⟩)
    clear h
    have S0 := Lib.hid (show ScRel s w (s.size + 1) (.complex .f32 0 0) (.complex .f32 1065353216 0) (.slice (some ⟨w.heap.size, 0, none⟩) 1 1) (.int .i64 0) (w.alloc (.cells #[.complex .f32 0 0] 32)) from by
      have h := World.ownsRow_lit (base := w.heap.size) (e := 32) (size := 1) w #[.complex .f32 0 0] 1 (Nat.le_refl _) (by unfold maxLen; omega) rfl
      refine ⟨0, (0, 0), (1, 0), by omega, rfl, crvL_zero _, enc00.symm, enc10.symm, fun _ => by rw [List.take_zero]; rfl, ?_, by (first | ((repeat' with_reducible first | assumption | exact Below.refl _ _ | apply Blw.alloc | apply Blw.drew | apply Blw.drewN | (refine Blw.after ?_ (by assumption)) | (refine Blw.set ?_ (by first | (dsimp only; omega) | (simp; omega)) _)); done) | (repeat' (first | assumption | exact Below.refl _ _ | apply Blw.alloc | apply Blw.drew | apply Blw.drewN | (refine Blw.after ?_ (by assumption)) | (refine Blw.set ?_ (by first | (dsimp only; omega) | (simp; done) | (simp; omega)) _))))⟩
      rw [show ((crvL (toL s)).take (0 + 1)).map encP = [.complex .f32 0 0] by rw [crvL_one]; exact congrArg (fun x => [x]) enc00]
      exact h)
    go_loopg [4, 5, 6, 7] (s.size + 1) (fun m x st v i wr => ScRel s w m x st v i wr)
    case atStart => exact S0.out
    case round =>
      clear S0
      obtain ⟨k, z, q, hk, rfl, hz, rfl, rfl, hst, hown, hB⟩ := hrel
      have HO := Lib.hid hown
      clear hown
      by_cases hle : k ≤ s.size
      · obtain rfl := hst hle
        obtain ⟨hs, hn, ht⟩ := crv_at (l := toL s) (by rw [toL_len]; exact hsz) (by rw [toL_len]; exact hle) hz
        have hu := stP_unit ((toL s).take k)
        have f1 := fun w t => run_padd (P := Tryz.prog) w t hs (show Sm (stP ((toL s).take k)) by unfold Sm; omega)
        generalize hzz : addP z (stP ((toL s).take k)) = z' at *
        have HN := Lib.hid hn
        have HT := Lib.hid ht
        clear hst hz hs hzz hn ht
        by_cases hlt : k < s.size
        · have HSn := Lib.hid (take_snocB s k hlt)
          have b1 := fun w => run_float_arith (P := Tryz.prog) w .sub 38 .f32 _ _ _ (neg_bits (a := (stP ((toL s).take k)).1) (by omega))
          have b2 := fun w => run_float_arith (P := Tryz.prog) w .sub 38 .f32 _ _ _ (neg_bits (a := (stP ((toL s).take k)).2) (by omega))
          change ∀ w, _ = Result.ok (Value.float FloatKind.f32 (px (-(stP ((toL s).take k)).1, 0))) w at b1
          change ∀ w, _ = Result.ok (Value.float FloatKind.f32 (px (-(stP ((toL s).take k)).2, 0))) w at b2
          change ∀ w, (binOp .sub _ _ (.float .f32 (px (stP ((toL s).take k))))).run _ w = _ at b1
          change ∀ w, (binOp .sub _ _ (.float .f32 (py (stP ((toL s).take k))))).run _ w = _ at b2
          by_cases e8 : s[k].toNat = 108
          · have HZ := Lib.hid (show stP ((toL s).take (k + 1)) = (-(stP ((toL s).take k)).2, (stP ((toL s).take k)).1) by rw [HSn.out, stP_snoc, trn_l e8])
            have a1 : ((s[k].toNat : Int) == 108) = true := by simp [e8]
            clear hu e8
            generalize stP ((toL s).take k) = q at *
            go_wp2_with (at_builtin; refine wpList_append_own _ rfl _ _ 121 rfl w.heap.size 32 i0 (.complex .f32 0 0) 1 8 Tryz.underlying121 hi hz0 hz1 hz2 rfl (by decide) _ _ _ rfl (HO.out.alloc _) ⟨wr.heap.size, 0, none⟩ 1 1 [encP z'] rfl rfl (cells1 _ _ _) (one1 _ rfl) (by unfold maxLen; omega) (by omega) (by have := hB.size; simp; omega) ?_)
            intro v' W3 hown' hgrow _
            have hB3 : Below w.heap.size w W3 := Below.grown (by (first | ((repeat' with_reducible first | assumption | exact Below.refl _ _ | apply Blw.alloc | apply Blw.drew | apply Blw.drewN | (refine Blw.after ?_ (by assumption)) | (refine Blw.set ?_ (by first | (dsimp only; omega) | (simp; omega)) _)); done) | (repeat' (first | assumption | exact Below.refl _ _ | apply Blw.alloc | apply Blw.drew | apply Blw.drewN | (refine Blw.after ?_ (by assumption)) | (refine Blw.set ?_ (by first | (dsimp only; omega) | (simp; done) | (simp; omega)) _))))) hgrow (by have := hB.size; simp; omega) (fun k hk => (HO.out.lt k hk).1)
            have HO3 := Lib.hid hown'
            clear hgrow hown' HO
            go_wp2_with fail
            go_roundg (gk - 1)
            case measure => omega
            case rel => exact ⟨k + 1, z', _, by omega, by go_num, HN.out, rfl, rfl, fun _ => HZ.out.symm, by rw [HT.out, List.map_append, List.map_take]; exact HO3.out, hB3⟩
          · have HZ := Lib.hid (show stP ((toL s).take (k + 1)) = ((stP ((toL s).take k)).2, -(stP ((toL s).take k)).1) by rw [HSn.out, stP_snoc, trn_r e8])
            have a1 : ((s[k].toNat : Int) == 108) = false := by simp; omega
            clear hu e8
            generalize stP ((toL s).take k) = q at *
            go_wp2_with (at_builtin; refine wpList_append_own _ rfl _ _ 121 rfl w.heap.size 32 i0 (.complex .f32 0 0) 1 8 Tryz.underlying121 hi hz0 hz1 hz2 rfl (by decide) _ _ _ rfl (HO.out.alloc _) ⟨wr.heap.size, 0, none⟩ 1 1 [encP z'] rfl rfl (cells1 _ _ _) (one1 _ rfl) (by unfold maxLen; omega) (by omega) (by have := hB.size; simp; omega) ?_)
            intro v' W3 hown' hgrow _
            have hB3 : Below w.heap.size w W3 := Below.grown (by (first | ((repeat' with_reducible first | assumption | exact Below.refl _ _ | apply Blw.alloc | apply Blw.drew | apply Blw.drewN | (refine Blw.after ?_ (by assumption)) | (refine Blw.set ?_ (by first | (dsimp only; omega) | (simp; omega)) _)); done) | (repeat' (first | assumption | exact Below.refl _ _ | apply Blw.alloc | apply Blw.drew | apply Blw.drewN | (refine Blw.after ?_ (by assumption)) | (refine Blw.set ?_ (by first | (dsimp only; omega) | (simp; done) | (simp; omega)) _))))) hgrow (by have := hB.size; simp; omega) (fun k hk => (HO.out.lt k hk).1)
            have HO3 := Lib.hid hown'
            clear hgrow hown' HO
            go_wp2_with fail
            go_roundg (gk - 1)
            case measure => omega
            case rel => exact ⟨k + 1, z', _, by omega, by go_num, HN.out, rfl, rfl, fun _ => HZ.out.symm, by rw [HT.out, List.map_append, List.map_take]; exact HO3.out, hB3⟩
        · generalize stP ((toL s).take k) = q at *
          clear hu
          go_wp2_with (at_builtin; refine wpList_append_own _ rfl _ _ 121 rfl w.heap.size 32 i0 (.complex .f32 0 0) 1 8 Tryz.underlying121 hi hz0 hz1 hz2 rfl (by decide) _ _ _ rfl (HO.out.alloc _) ⟨wr.heap.size, 0, none⟩ 1 1 [encP z'] rfl rfl (cells1 _ _ _) (one1 _ rfl) (by unfold maxLen; omega) (by omega) (by have := hB.size; simp; omega) ?_)
          intro v' W3 hown' hgrow _
          have hB3 : Below w.heap.size w W3 := Below.grown (by (first | ((repeat' with_reducible first | assumption | exact Below.refl _ _ | apply Blw.alloc | apply Blw.drew | apply Blw.drewN | (refine Blw.after ?_ (by assumption)) | (refine Blw.set ?_ (by first | (dsimp only; omega) | (simp; omega)) _)); done) | (repeat' (first | assumption | exact Below.refl _ _ | apply Blw.alloc | apply Blw.drew | apply Blw.drewN | (refine Blw.after ?_ (by assumption)) | (refine Blw.set ?_ (by first | (dsimp only; omega) | (simp; done) | (simp; omega)) _))))) hgrow (by have := hB.size; simp; omega) (fun k hk => (HO.out.lt k hk).1)
          have HO3 := Lib.hid hown'
          clear hgrow hown' HO
          go_wp2_with fail
          go_roundg (gk - 1)
          case measure => omega
          case rel => exact ⟨k + 1, z', _, by omega, by go_num, HN.out, rfl, rfl, fun _ => by omega, by rw [HT.out, List.map_append, List.map_take]; exact HO3.out, hB3⟩
      · obtain rfl : k = s.size + 1 := by omega
        have HA := Lib.hid (crv_done HW.out HO.out)
        clear hst hz HO
        go_wp2_with fail
        go_ret2
        exact ⟨_, by rw [HW.out]; rfl, HA.out, hB⟩
  · have HW := Lib.hid h
    go_enter Tryz.func102, Tryz.ntmps102
    go_wp2_with (go_at_call 52; refine (l4Word_c _ 1023 _ (by decide)).mono ?_; rintro e w1 ⟨rfl, rfl⟩)
    go_ret2
    exact ⟨_, by rw [HW.out]; rfl, by
      rw [crvA_f HW.out]
      exact World.ownsRow_lit w #[] 0 (Nat.le_refl _) (by unfold maxLen; omega) rfl, by (first | ((repeat' with_reducible first | assumption | exact Below.refl _ _ | apply Blw.alloc | apply Blw.drew | apply Blw.drewN | (refine Blw.after ?_ (by assumption)) | (refine Blw.set ?_ (by first | (dsimp only; omega) | (simp; omega)) _)); done) | (repeat' (first | assumption | exact Below.refl _ _ | apply Blw.alloc | apply Blw.drew | apply Blw.drewN | (refine Blw.after ?_ (by assumption)) | (refine Blw.set ?_ (by first | (dsimp only; omega) | (simp; done) | (simp; omega)) _))))⟩
end Go.Proofs.YtmondgcehgmamaaGreatDoor

namespace Go.Proofs.YtmondgcehgmamaaGreatDoor
set_option linter.unusedSimpArgs false
set_option linter.unusedVariables false
open Go.RowKit

def selW (b : Bool) (l : List UInt8) : ByteArray := if b then bs l else ⟨#[]⟩
abbrev strV (b : Bool) (l : List UInt8) : Value := .tuple #[.string (selW b l), .bool b]
theorem strV_t {b : Bool} (h : b = true) (l : List UInt8) : strV b l = .tuple #[.string (bs l), .bool true] := by rw [h]; rfl
theorem strV_f {b : Bool} (h : b = false) (l : List UInt8) : strV b l = .tuple #[.string ⟨#[]⟩, .bool false] := by rw [h]; rfl
theorem bsz (l : List UInt8) : (bs l).size = l.length := by rw [← toL_len, toL_bs]
theorem toL_appW (s t : ByteArray) : toL (s ++ t) = toL s ++ toL t := by simp [toL, ByteArray.data_append]

/-! ### sums -/
def selZ (b : Bool) (n : Int) : Int := if b then n else 0
abbrev sumV (s : ByteArray) : Value := .tuple #[.int .i64 (selZ (wdB 1023 s) (sumL (toL s))), .bool (wdB 1023 s)]
theorem sumV_t {s : ByteArray} (h : wdB 1023 s = true) : sumV s = .tuple #[.int .i64 (sumL (toL s)), .bool true] := by unfold sumV; rw [h]; rfl
theorem sumV_f {s : ByteArray} (h : wdB 1023 s = false) : sumV s = .tuple #[.int .i64 0, .bool false] := by unfold sumV; rw [h]; rfl
theorem sum_step {s : ByteArray} {k : Nat} (hk : k < s.size) : sumL ((toL s).take (k + 1)) = sumL ((toL s).take k) + sgn s[k] := by
  rw [take_snocB s k hk, sumL_snoc]
theorem sum_up {s : ByteArray} {k : Nat} (hk : k < s.size) (h : s[k].toNat = 108) : sumL ((toL s).take (k + 1)) = sumL ((toL s).take k) + 1 := by
  rw [sum_step hk, show s[k] = 108 from UInt8.toNat_inj.1 (by rw [h]; rfl)]; rfl
theorem sum_down {s : ByteArray} {k : Nat} (hk : k < s.size) (h : s[k].toNat ≠ 108) : sumL ((toL s).take (k + 1)) = sumL ((toL s).take k) - 1 := by
  rw [sum_step hk]
  have : sgn s[k] = -1 := by unfold sgn; rw [if_neg (fun e => h (by rw [e]; rfl))]
  rw [this]; omega
theorem sum_at (s : ByteArray) (k : Nat) (h : s.size ≤ 1023) : -1023 ≤ sumL ((toL s).take k) ∧ sumL ((toL s).take k) ≤ 1023 := by
  have := sumL_in ((toL s).take k)
  have hl : ((toL s).take k).length ≤ s.size := by rw [List.length_take, toL_len]; omega
  omega
def ISumRel (s : ByteArray) (w1 : World) (m : Nat) (v : Value) (wr : World) : Prop :=
  ∃ k : Nat, k + m = s.size ∧ v = .int .i64 (sumL ((toL s).take k)) ∧ wr = w1.iter s k
def SSumRel (s : ByteArray) (w : World) (m : Nat) (v i : Value) (wr : World) : Prop :=
  ∃ k : Nat, k + m = s.size ∧ v = .int .i64 (sumL ((toL s).take k)) ∧ i = .int .i64 k ∧ wr = w
/-! ### unfolded -/
def unfB (s c : ByteArray) : Bool := wdB 511 s && (toL c == [108] || toL c == [114])
abbrev unfV (s c : ByteArray) : Value := strV (unfB s c) (toL s ++ toL c ++ backL (toL s))
theorem unfV_t {s c : ByteArray} (h : unfB s c = true) : unfV s c = .tuple #[.string (bs (toL s ++ toL c ++ backL (toL s))), .bool true] := strV_t h _
theorem unfV_f {s c : ByteArray} (h : unfB s c = false) : unfV s c = .tuple #[.string ⟨#[]⟩, .bool false] := strV_f h _
theorem unfB_no {s c : ByteArray} (h : wdB 511 s = false) : unfB s c = false := by unfold unfB; rw [h]; rfl
theorem unfB_c {s c : ByteArray} (h1 : (toL c == [108]) = false) (h2 : (toL c == [114]) = false) : unfB s c = false := by unfold unfB; rw [h1, h2]; simp
theorem unfB_yes {s c : ByteArray} (h : wdB 511 s = true) (hc : (toL c == [108]) = true ∨ (toL c == [114]) = true) : unfB s c = true := by
  unfold unfB; rw [h]; rcases hc with h | h <;> rw [h] <;> simp
theorem wdB_more {s : ByteArray} (h : wdB 511 s = true) : wdB 1023 s = true := by
  rw [wdB_of (by have := wdB_len h; omega)]; exact wdB_only h
theorem wdB_less {s : ByteArray} (h : wdB 1023 s = true) (h5 : s.size ≤ 511) : wdB 511 s = true := by
  rw [wdB_of h5]; exact wdB_only h
theorem wdB_not {s : ByteArray} (h : wdB 1023 s = false) : wdB 511 s = false := by
  rw [← Bool.not_eq_true] at h ⊢; exact fun e => h (wdB_more e)
theorem one_size {c : ByteArray} {a : UInt8} (h : (toL c == [a]) = true) : c.size = 1 := by rw [← toL_len, eq_of_beq h]; rfl
theorem unf_str (s c : ByteArray) : s ++ c ++ bs (backL (toL s)) = bs (toL s ++ toL c ++ backL (toL s)) := toL_ext (by rw [toL_appW, toL_appW, toL_bs, toL_bs])
end Go.Proofs.YtmondgcehgmamaaGreatDoor

namespace Go.Proofs.YtmondgcehgmamaaGreatDoor
set_option linter.unusedSimpArgs false
set_option linter.unusedVariables false
open Go.RowKit Ieee

def enS (c : UInt8) (z : Int × Int) : Int × Int := if c = 108 then (z.1 - z.2, z.1 + z.2) else (z.1 + z.2, z.2 - z.1)
def endP (l : List UInt8) : Int × Int := l.foldl (fun z c => enS c z) (1, 0)
theorem endP_nil : endP [] = (1, 0) := rfl
theorem endP_snoc (l : List UInt8) (c : UInt8) : endP (l ++ [c]) = enS c (endP l) := by unfold endP; rw [List.foldl_append]; rfl
theorem sq_expand (x y : Int) : (x - y) * (x - y) + (x + y) * (x + y) = 2 * (x * x + y * y) := by
  rw [Int.sub_mul, Int.mul_sub, Int.mul_sub, Int.add_mul, Int.mul_add, Int.mul_add, Int.mul_comm y x]; omega
theorem endP_norm (l : List UInt8) : (endP l).1 * (endP l).1 + (endP l).2 * (endP l).2 = (2 ^ l.length : Nat) := by
  induction l using rev_ind with
  | h0 => rfl
  | h1 l c ih =>
    rw [endP_snoc, List.length_append, List.length_singleton, Nat.pow_succ]
    have h := sq_expand (endP l).1 (endP l).2
    have h2 := sq_expand (endP l).2 (endP l).1
    unfold enS
    split
    · dsimp only; rw [h, ih]; omega
    · dsimp only
      rw [Int.add_comm (endP l).2 (endP l).1] at h2
      omega
theorem partC_le {x y : Int} {n : Nat} (h : x * x + y * y = (n : Int)) : x.natAbs ≤ n ∧ y.natAbs ≤ n := by
  have h1 : ((x.natAbs * x.natAbs : Nat) : Int) = x * x := by rw [Int.natAbs_mul_self]
  have h2 : ((y.natAbs * y.natAbs : Nat) : Int) = y * y := by rw [Int.natAbs_mul_self]
  have h3 := Nat.le_mul_self x.natAbs
  have h4 := Nat.le_mul_self y.natAbs
  omega
theorem endP_in {l : List UInt8} {k : Nat} (h : l.length ≤ k) : (endP l).1.natAbs ≤ 2 ^ k ∧ (endP l).2.natAbs ≤ 2 ^ k := by
  have h1 := partC_le (endP_norm l)
  have h2 : 2 ^ l.length ≤ 2 ^ k := Nat.pow_le_pow_right (by omega) h
  omega
theorem endP_ne (l : List UInt8) : (endP l).1.natAbs ≠ 0 ∨ (endP l).2.natAbs ≠ 0 := by
  have h := endP_norm l
  have := Nat.two_pow_pos l.length
  rcases Nat.eq_zero_or_pos (endP l).1.natAbs with a | a
  · right
    intro b
    rw [Int.natAbs_eq_zero.1 a, Int.natAbs_eq_zero.1 b] at h
    generalize 2 ^ l.length = N at *
    omega
  · left; omega
theorem sgS_own {s t : Bool} {m n : Nat} (h : m ≠ 0 ∨ n ≠ 0) : sgS s m t n = decide (sg s m + sg t n < 0) := by
  unfold sgS
  split
  · rename_i e
    rw [e]
    cases s <;> cases t <;> simp [sg] at e ⊢
    omega
  · rfl
theorem sw_own {s t : Bool} {m n : Nat} {a : Int} (h : m ≠ 0 ∨ n ≠ 0) (e : sg s m + sg t n = a) : sw .f32 (sgS s m t n) (sgN s m t n) = floatOfInt .f32 a := by
  rw [sgS_own h, fw_sw, ← e]; rfl
theorem sg_own' (a : Int) : sg (!decide (a < 0)) a.natAbs = -a := by rw [sg_neg, own_sg]
section
variable {P : Program} (w : World)
theorem run_fold_l (t : TypeId) {z : Int × Int} (h : z.1.natAbs ≤ 1000 ∧ z.2.natAbs ≤ 1000) (h0 : z.1.natAbs ≠ 0 ∨ z.2.natAbs ≠ 0) : (binOp .mul t (encP z) (.complex .f32 1065353216 1065353216)).run P w = .ok (encP (z.1 - z.2, z.1 + z.2)) w := by
  have e := run_cmul32 (P := P) w t (decide (z.1 < 0)) (decide (z.2 < 0)) false false (a := z.1.natAbs) (b := z.2.natAbs) (c := 1) (d := 1) h.1 h.2 (by omega) (by omega)
  rw [show sw .f32 false 1 = 1065353216 from w1s] at e
  simp only [Nat.mul_one, Bool.xor_false] at e
  rw [sw_own h0 (show _ = z.1 - z.2 by rw [own_sg, sg_own']; omega), sw_own h0 (show _ = z.1 + z.2 by rw [own_sg, own_sg])] at e
  exact e
theorem run_fold_r (t : TypeId) {z : Int × Int} (h : z.1.natAbs ≤ 1000 ∧ z.2.natAbs ≤ 1000) (h0 : z.1.natAbs ≠ 0 ∨ z.2.natAbs ≠ 0) : (binOp .mul t (encP z) (.complex .f32 1065353216 3212836864)).run P w = .ok (encP (z.1 + z.2, z.2 - z.1)) w := by
  have e := run_cmul32 (P := P) w t (decide (z.1 < 0)) (decide (z.2 < 0)) false true (a := z.1.natAbs) (b := z.2.natAbs) (c := 1) (d := 1) h.1 h.2 (by omega) (by omega)
  rw [show sw .f32 false 1 = 1065353216 from w1s, show sw .f32 true 1 = 3212836864 from wm1s] at e
  simp only [Nat.mul_one, Bool.xor_false, Bool.xor_true, Bool.not_not] at e
  rw [sw_own h0 (show _ = z.1 + z.2 by rw [own_sg, own_sg]), sw_own h0 (show _ = z.2 - z.1 by rw [own_sg, sg_own']; omega)] at e
  exact e
theorem run_one_l (t : TypeId) : (binOp .add t (.complex .f32 1065353216 0) (.complex .f32 0 1065353216)).run P w = .ok (.complex .f32 1065353216 1065353216) w := by
  have e := run_cadd (P := P) w (k := .f32) t (a := 1) (b := 0) (c := 0) (d := 1) (by decide) (by decide) (by decide) (by decide)
  rw [w1s, w0s, show (1 : Int) + 0 = 1 by omega, show (0 : Int) + 1 = 1 by omega, w1s] at e
  exact e
theorem run_one_r (t : TypeId) : (binOp .add t (.complex .f32 1065353216 0) (.complex .f32 0 3212836864)).run P w = .ok (.complex .f32 1065353216 3212836864) w := by
  have e := run_cadd (P := P) w (k := .f32) t (a := 1) (b := 0) (c := 0) (d := -1) (by decide) (by decide) (by decide) (by decide)
  rw [w1s, w0s, wm1s, show (1 : Int) + 0 = 1 by omega, show (0 : Int) + -1 = -1 by omega, w1s, wm1s] at e
  exact e
end
def endW (s : ByteArray) : Int × Int := if wdB 10 s then endP (toL s) else (0, 0)
abbrev endV (s : ByteArray) : Value := .tuple #[encP (endW s), .bool (wdB 10 s)]
theorem endV_t {s : ByteArray} (h : wdB 10 s = true) : endV s = .tuple #[encP (endP (toL s)), .bool true] := by unfold endV endW; rw [h]; rfl
theorem endV_f {s : ByteArray} (h : wdB 10 s = false) : endV s = .tuple #[.complex .f32 0 0, .bool false] := by unfold endV endW; rw [h]; exact congrArg (fun x => Value.tuple #[x, .bool false]) enc00
theorem end_step {s : ByteArray} {k : Nat} (hk : k < s.size) : endP ((toL s).take (k + 1)) = enS s[k] (endP ((toL s).take k)) := by
  rw [take_snocB s k hk, endP_snoc]
theorem end_l {s : ByteArray} {k : Nat} (hk : k < s.size) (h : s[k].toNat = 108) : endP ((toL s).take (k + 1)) = ((endP ((toL s).take k)).1 - (endP ((toL s).take k)).2, (endP ((toL s).take k)).1 + (endP ((toL s).take k)).2) := by
  rw [end_step hk, show s[k] = 108 from UInt8.toNat_inj.1 (by rw [h]; rfl)]; rfl
theorem end_r {s : ByteArray} {k : Nat} (hk : k < s.size) (h : s[k].toNat ≠ 108) : endP ((toL s).take (k + 1)) = ((endP ((toL s).take k)).1 + (endP ((toL s).take k)).2, (endP ((toL s).take k)).2 - (endP ((toL s).take k)).1) := by
  rw [end_step hk]; unfold enS; rw [if_neg (fun e => h (by rw [e]; rfl))]
def IEnRel (s : ByteArray) (w1 : World) (m : Nat) (v : Value) (wr : World) : Prop := ∃ k : Nat, k + m = s.size ∧ v = encP (endP ((toL s).take k)) ∧ wr = w1.iter s k
set_option maxRecDepth 100000 in
set_option maxHeartbeats 4000000 in
theorem iCurveEnd_c (s : ByteArray) (w : World) : Calls Tryz.prog 25 #[.string s] w fun e w' => e = .returned (endV s) ∧ Below w.heap.size w w' := by
  rcases Bool.eq_false_or_eq_true (wdB 10 s) with h | h
  · have H := Lib.hid (endV_t h)
    have HW := Lib.hid h
    have hsz := wdB_len h
    have q1 := fun w t => run_one_l (P := Tryz.prog) w t
    have q2 := fun w t => run_one_r (P := Tryz.prog) w t
    go_enter Tryz.func25, Tryz.ntmps25
    go_wp2_with (first | (go_at_call 50; refine (areCreases_c _ _).mono ?_; rintro e w1 ⟨rfl, hb⟩; obtain ⟨hc, hf⟩ := bcell hb; have hz := bsize hb; have hs := hb.size; try simp at hs))
    have hB1 := Lib.hid (show Below w.heap.size w w1 by (first | ((repeat' with_reducible first | assumption | exact Below.refl _ _ | apply Blw.alloc | apply Blw.drew | apply Blw.drewN | (refine Blw.after ?_ (by assumption)) | (refine Blw.set ?_ (by first | (dsimp only; omega) | (simp; omega)) _)); done) | (repeat' (first | assumption | exact Below.refl _ _ | apply Blw.alloc | apply Blw.drew | apply Blw.drewN | (refine Blw.after ?_ (by assumption)) | (refine Blw.set ?_ (by first | (dsimp only; omega) | (simp; done) | (simp; omega)) _)))))
    have hs1 := hB1.out.size
    clear h hb hc hf hz hs
    have S0 := Lib.hid (show IEnRel s w1 s.size (.complex .f32 1065353216 0) (w1.iter s 0) from ⟨0, by omega, by rw [List.take_zero, endP_nil]; exact enc10.symm, rfl⟩)
    go_loopg [4, 6] s.size (fun m v r wr => IEnRel s w1 m v wr)
    case atStart => exact S0.out
    case round =>
      clear S0
      obtain ⟨k, hk, rfl, rfl⟩ := hrel
      by_cases hlt : k < s.size
      · have hnx : ∀ ty, (Instr.next (.pointer (some ⟨w1.heap.size, 0, none⟩)) true ty).run Tryz.prog (w1.iter s k) = _ := fun ty => run_next_any w1 s k ty hlt
        rw [decode_ascii s k hlt (by have := wdB_at HW.out k hlt; omega)] at hnx
        have hin := endP_in (l := (toL s).take k) (k := 9) (by rw [List.length_take]; omega)
        have e512 : (2 : Nat) ^ 9 = 512 := by decide
        rw [e512] at hin
        have hne := endP_ne ((toL s).take k)
        have f1 := fun w t => run_fold_l (P := Tryz.prog) w t (z := endP ((toL s).take k)) (by omega) hne
        have f2 := fun w t => run_fold_r (P := Tryz.prog) w t (z := endP ((toL s).take k)) (by omega) hne
        by_cases e8 : s[k].toNat = 108
        · have HS := Lib.hid (end_l hlt e8)
          rw [e8] at hnx
          clear e8 hin hne e512
          generalize endP ((toL s).take k) = z at *
          go_wp2_with (first | (go_at_call 51; refine (quarter_l _).mono ?_; rintro e w1 ⟨rfl, rfl⟩))
          go_roundg (gk - 1)
          case measure => omega
          case rel => exact ⟨k + 1, by omega, by rw [HS.out], rfl⟩
        · have HS := Lib.hid (end_r hlt e8)
          have e9 : ¬ ((s[k].toNat : Int) = 108) := by omega
          generalize hcv : (s[k].toNat : Int) = cv at *
          clear e8 hin hne e512 hcv
          generalize endP ((toL s).take k) = z at *
          go_wp2_with (first | (go_at_call 51; refine (quarter_r _ _ e9).mono ?_; rintro e w1 ⟨rfl, rfl⟩))
          go_roundg (gk - 1)
          case measure => omega
          case rel => exact ⟨k + 1, by omega, by rw [HS.out], rfl⟩
      · have hnx : ∀ ty, (Instr.next (.pointer (some ⟨w1.heap.size, 0, none⟩)) true ty).run Tryz.prog (w1.iter s k) = _ := fun ty => run_next_end w1 s k ty hlt
        have HS := Lib.hid (take_allB s k (by omega))
        go_wp2
        go_ret2
        exact ⟨by rw [H.out, HS.out]; rfl, hB1.out.trans ((iter_below w1 s k).mono hs1)⟩
  · have H := Lib.hid (endV_f h)
    go_enter Tryz.func25, Tryz.ntmps25
    go_wp2_with (first | (go_at_call 50; refine (areCreases_c _ _).mono ?_; rintro e w1 ⟨rfl, hb⟩; obtain ⟨hc, hf⟩ := bcell hb; have hz := bsize hb; have hs := hb.size; try simp at hs))
    go_ret2
    exact ⟨by rw [H.out]; rfl, by (first | ((repeat' with_reducible first | assumption | exact Below.refl _ _ | apply Blw.alloc | apply Blw.drew | apply Blw.drewN | (refine Blw.after ?_ (by assumption)) | (refine Blw.set ?_ (by first | (dsimp only; omega) | (simp; omega)) _)); done) | (repeat' (first | assumption | exact Below.refl _ _ | apply Blw.alloc | apply Blw.drew | apply Blw.drewN | (refine Blw.after ?_ (by assumption)) | (refine Blw.set ?_ (by first | (dsimp only; omega) | (simp; done) | (simp; omega)) _))))⟩
def SEnRel (s : ByteArray) (w : World) (m : Nat) (x y i : Value) (wr : World) : Prop :=
  ∃ k : Nat, k + m = s.size ∧ x = .int .i64 (endP ((toL s).take k)).1 ∧ y = .int .i64 (endP ((toL s).take k)).2 ∧ i = .int .i64 k ∧ wr = w
set_option maxRecDepth 100000 in
set_option maxHeartbeats 4000000 in
theorem sCurveEnd_c (s : ByteArray) (w : World) : Calls Tryz.prog 26 #[.string s] w fun e w' => e = .returned (endV s) ∧ Below w.heap.size w w' := by
  rcases Bool.eq_false_or_eq_true (wdB 10 s) with h | h
  · have H := Lib.hid (endV_t h)
    have HW := Lib.hid h
    have hsz := wdB_len h
    go_enter Tryz.func26, Tryz.ntmps26
    go_wp2_with (first | (go_at_call 52; refine (l4Word_c _ 10 _ (by decide)).mono ?_; rintro e w1 ⟨rfl, rfl⟩))
    clear h
    go_loopg [4, 5, 6, 7, 8] s.size (fun m x y i a b wr => SEnRel s w m x y i wr)
    case atStart => exact ⟨0, by omega, rfl, rfl, rfl, rfl⟩
    case round =>
      obtain ⟨k, hk, rfl, rfl, rfl, rfl⟩ := hrel
      by_cases hlt : k < s.size
      · have hin := endP_in (l := (toL s).take k) (k := 10) (by rw [List.length_take]; omega)
        have e512 : (2 : Nat) ^ 10 = 1024 := by decide
        rw [e512] at hin
        have hx : -1024 ≤ (endP ((toL s).take k)).1 ∧ (endP ((toL s).take k)).1 ≤ 1024 := by omega
        have hy : -1024 ≤ (endP ((toL s).take k)).2 ∧ (endP ((toL s).take k)).2 ≤ 1024 := by omega
        obtain ⟨x1, x2⟩ := hx
        obtain ⟨y1, y2⟩ := hy
        by_cases e8 : s[k].toNat = 108
        · have HS := Lib.hid (end_l hlt e8)
          have a1 : ((s[k].toNat : Int) == 114) = false := by simp [e8]
          clear e8 hin e512
          generalize endP ((toL s).take k) = z at *
          go_wp2
          go_roundg (gk - 1)
          case measure => omega
          case rel => exact ⟨k + 1, by omega, by rw [HS.out], by rw [HS.out], by go_num, rfl⟩
        · have HS := Lib.hid (end_r hlt e8)
          have a1 : ((s[k].toNat : Int) == 114) = true := by have := wdB_at HW.out k hlt; simp; omega
          clear e8 hin e512
          generalize endP ((toL s).take k) = z at *
          go_wp2
          go_roundg (gk - 1)
          case measure => omega
          case rel => exact ⟨k + 1, by omega, by rw [HS.out], by rw [HS.out], by go_num, rfl⟩
      · have HS := Lib.hid (take_allB s k (by omega))
        go_wp2
        go_ret2
        exact ⟨by rw [H.out, HS.out]; rfl, by (first | ((repeat' with_reducible first | assumption | exact Below.refl _ _ | apply Blw.alloc | apply Blw.drew | apply Blw.drewN | (refine Blw.after ?_ (by assumption)) | (refine Blw.set ?_ (by first | (dsimp only; omega) | (simp; omega)) _)); done) | (repeat' (first | assumption | exact Below.refl _ _ | apply Blw.alloc | apply Blw.drew | apply Blw.drewN | (refine Blw.after ?_ (by assumption)) | (refine Blw.set ?_ (by first | (dsimp only; omega) | (simp; done) | (simp; omega)) _))))⟩
  · have H := Lib.hid (endV_f h)
    go_enter Tryz.func26, Tryz.ntmps26
    go_wp2_with (first | (go_at_call 52; refine (l4Word_c _ 10 _ (by decide)).mono ?_; rintro e w1 ⟨rfl, rfl⟩))
    go_ret2
    exact ⟨by rw [H.out]; rfl, by (first | ((repeat' with_reducible first | assumption | exact Below.refl _ _ | apply Blw.alloc | apply Blw.drew | apply Blw.drewN | (refine Blw.after ?_ (by assumption)) | (refine Blw.set ?_ (by first | (dsimp only; omega) | (simp; omega)) _)); done) | (repeat' (first | assumption | exact Below.refl _ _ | apply Blw.alloc | apply Blw.drew | apply Blw.drewN | (refine Blw.after ?_ (by assumption)) | (refine Blw.set ?_ (by first | (dsimp only; omega) | (simp; done) | (simp; omega)) _))))⟩
end Go.Proofs.YtmondgcehgmamaaGreatDoor

namespace Go.Proofs.YtmondgcehgmamaaGreatDoor
set_option linter.unusedSimpArgs false
set_option linter.unusedVariables false
open Go.RowKit

theorem toInt_32 : ∀ k ∈ List.range 2049, floatToIntVal .f32 (floatOfInt .f32 ((k : Int) - 1024)) .i64 = some ((k : Int) - 1024) := by decide +kernel
theorem toInt32 {z : Int} (h : z.natAbs ≤ 1024) : floatToIntVal .f32 (floatOfInt .f32 z) .i64 = some z := by
  have := toInt_32 (z + 1024).toNat (by simp; omega)
  rw [show (((z + 1024).toNat : Nat) : Int) - 1024 = z by omega] at this
  exact this
theorem mustC_t (x y : Nat) (w : World) : Calls Tryz.prog 127 #[.complex .f32 x y, .bool true] w fun e w' => e = .returned (.complex .f32 x y) ∧ w' = w := by
  go_enter Tryz.func127, Tryz.ntmps127
  go_wp2_with (go_at_call 122; refine (failUnless_t _).mono ?_; rintro e w1 ⟨rfl, rfl⟩)
  go_ret
  exact ⟨rfl, rfl⟩
theorem mustC_f (x y : Nat) (w : World) : Calls Tryz.prog 127 #[.complex .f32 x y, .bool false] w fun e w' => e = refE noB ∧ w' = w := by
  go_enter Tryz.func127, Tryz.ntmps127
  go_wp2_with fail
  refine (failUnless_f _).mono ?_
  rintro e w1 ⟨rfl, rfl⟩
  unfold refE
  go_wp2_with fail
  exact ⟨rfl, rfl, rfl⟩
/-- two numbers with a space between -/
def bothB (x y : Int) : ByteArray := bs (Lib.itoa x ++ 32 :: Lib.itoa y)
theorem itoa_len (x : Int) : (Lib.itoa x).length ≤ x.natAbs + 2 := by
  unfold Lib.itoa
  split
  · have := decD_len x.natAbs; simp; omega
  · have := decD_len x.toNat; omega
theorem both_c (x y : Int) (w : World) (hx : x.natAbs ≤ 1000000000000) (hy : y.natAbs ≤ 1000000000000) (hG : Gx w) : Calls Tryz.prog 138 #[.int .i64 x, .int .i64 y] w fun e w' => e = .returned (.string (bothB x y)) ∧ Below w.heap.size w w' := by
  have HG := Lib.hid hG
  have hlx := itoa_len x
  have hly := itoa_len y
  have sx : (bs (Lib.itoa x)).size ≤ 1000000000002 := by rw [← toL_len, toL_bs]; omega
  have sy : (bs (Lib.itoa y)).size ≤ 1000000000002 := by rw [← toL_len, toL_bs]; omega
  have HE := Lib.hid (show bothB x y = bs (Lib.itoa x) ++ (⟨#[32]⟩ : ByteArray) ++ bs (Lib.itoa y) by apply toL_ext; unfold bothB; simp [toL, ByteArray.data_append, bs])
  have HX := Lib.hid (fun w h => itoa_c x w (by omega) (by omega) h)
  have HY := Lib.hid (fun w h => itoa_c y w (by omega) (by omega) h)
  clear hG hlx hly
  generalize bs (Lib.itoa x) = X at *
  generalize bs (Lib.itoa y) = Y at *
  go_enter Tryz.func138, Tryz.ntmps138
  go_wp2_with fail
  refine (HX.out w HG.out).mono ?_
  rintro e w1 ⟨rfl, hb1⟩
  have HB1 := Lib.hid hb1
  have HG1 := Lib.hid (HG.out.below hb1)
  clear hb1
  have h1 : ¬ (9223372036854775807 < X.size + 1) := by omega
  have h2 : ¬ (9223372036854775807 < X.size + 1 + Y.size) := by omega
  go_wp2_with fail
  refine (HY.out w1 HG1.out).mono ?_
  rintro e w2 ⟨rfl, hb2⟩
  have HB2 := Lib.hid (Blw.after HB1.out hb2)
  clear hb2
  go_wp2_with fail
  go_ret
  exact ⟨by rw [HE.out]; rfl, HB2.out⟩
/-- digits of a number with a sign -/
theorem digitsZ_c (x : Int) (w : World) (hx : x.natAbs ≤ 1000000000000) : Calls Tryz.prog 18 #[.int .i64 x] w fun e w' => e = .returned (.string (bs (Lib.itoa x))) ∧ Below w.heap.size w w' := by
  by_cases h : x < 0
  · have HX := Lib.hid (fun w => digits_c x.natAbs w (by omega))
    have hl := decD_len x.natAbs
    have sx : (bs (Lib.decDigits x.natAbs)).size ≤ 1000000000001 := by rw [← toL_len, toL_bs]; omega
    have HE := Lib.hid (show bs (Lib.itoa x) = (⟨#[45]⟩ : ByteArray) ++ bs (Lib.decDigits x.natAbs) by apply toL_ext; unfold Lib.itoa; rw [if_pos h]; simp [toL, ByteArray.data_append, bs])
    have e1 : IntKind.i64.wrap (0 - x) = (x.natAbs : Int) := by rw [IntWalk.i64_in _ (by omega)]; omega
    have e2 : IntKind.i64.wrap (-x) = (x.natAbs : Int) := by rw [IntWalk.i64_in _ (by omega)]; omega
    clear hl
    generalize bs (Lib.decDigits x.natAbs) = X at *
    generalize (x.natAbs : Int) = n at *
    have h1 : ¬ (9223372036854775807 < 1 + X.size) := by omega
    go_enter Tryz.func18, Tryz.ntmps18
    go_wp2_with fail
    refine (HX.out w).mono ?_
    rintro e w1 ⟨rfl, hb1⟩
    go_wp2_with fail
    go_ret
    exact ⟨by rw [HE.out]; rfl, hb1⟩
  · have h2 := digits_c x.toNat w (by omega)
    rw [show ((x.toNat : Nat) : Int) = x by omega] at h2
    have e : Lib.itoa x = Lib.decDigits x.toNat := by unfold Lib.itoa; rw [if_neg h]
    rw [e]
    exact h2
/-- creases, at least one -/
def crOk (s : ByteArray) : Bool := !(toL s).isEmpty && wdB 10 s
set_option maxRecDepth 100000 in
theorem crease_c (b : Nat) (d c rest : ByteArray) (w : World) (hS : Sess b d c w) : Calls Tryz.prog 86 #[.pointer (some ⟨b, 0, none⟩), .string rest] w (CmdPost b (if crOk rest then some okB else none) d (if crOk rest then rest else c) w) := by
  have HS := Lib.hid hS
  clear hS
  rcases Bool.eq_false_or_eq_true (toL rest).isEmpty with he | he
  · have hk : crOk rest = false := by unfold crOk; rw [he]; rfl
    simp only [hk, Bool.false_eq_true, if_false]
    have hr : rest = ⟨#[]⟩ := toL_ext (List.isEmpty_iff.1 he)
    subst hr
    go_enter Tryz.func86, Tryz.ntmps86
    go_wp2_with (go_at_call 122; refine (failUnless_f _).mono ?_; rintro e wx ⟨rfl, rfl⟩; unfold refE)
    exact ⟨rfl, rfl, HS.out, grw_below (Below.refl _ _)⟩
  · have e2 : rest.toList.isEmpty = false := by rw [toList_toL]; exact he
    have e1 : ¬ rest.toList = [] := by intro h; rw [h] at e2; simp at e2
    have hk : crOk rest = wdB 10 rest := by unfold crOk; rw [he]; rfl
    rw [hk]
    clear hk he
    rcases Bool.eq_false_or_eq_true (wdB 10 rest) with hv | hv
    · simp only [hv, if_true]
      go_enter Tryz.func86, Tryz.ntmps86
      go_wp2_with fail
      refine (areCreases_c rest w).mono ?_
      rw [hv]
      rintro e w1 ⟨rfl, hb1⟩
      have HS1 := Lib.hid (HS.out.keep hb1)
      have HB1 := Lib.hid (grw_below (b := b) hb1)
      obtain ⟨c0, c1, z0, z1⟩ := HS1.out
      clear hb1
      go_wp2_with (go_at_call 122; refine (failUnless_t _).mono ?_; rintro e wx ⟨rfl, rfl⟩)
      go_ret
      exact ⟨rfl, HS1.out.set1, grw_trans HB1.out grw_set⟩
    · simp only [hv, Bool.false_eq_true, if_false]
      go_enter Tryz.func86, Tryz.ntmps86
      go_wp2_with fail
      refine (areCreases_c rest w).mono ?_
      rw [hv]
      rintro e w1 ⟨rfl, hb1⟩
      have HS1 := Lib.hid (HS.out.keep hb1)
      have HB1 := Lib.hid (grw_below (b := b) hb1)
      clear hb1
      go_wp2_with (go_at_call 122; refine (failUnless_f _).mono ?_; rintro e wx ⟨rfl, rfl⟩; unfold refE)
      exact ⟨rfl, rfl, HS1.out, HB1.out⟩
theorem endP_small {c : ByteArray} (h : wdB 10 c = true) : (endP (toL c)).1.natAbs ≤ 1024 ∧ (endP (toL c)).2.natAbs ≤ 1024 := by
  have hin := endP_in (l := toL c) (k := 10) (by rw [toL_len]; exact wdB_len h)
  have e1024 : (2 : Nat) ^ 10 = 1024 := by decide
  rw [e1024] at hin
  exact ⟨by omega, by omega⟩
set_option maxRecDepth 100000 in
theorem end_c (b : Nat) (d c : ByteArray) (w : World) (hG : Gx w) (hS : Sess b d c w) : Calls Tryz.prog 93 #[.pointer (some ⟨b, 0, none⟩)] w (CmdPost b (if wdB 10 c then some (bothB (endP (toL c)).1 (endP (toL c)).2) else none) d c w) := by
  have HS := Lib.hid hS
  have HG := Lib.hid hG
  obtain ⟨c0, c1, z0, z1⟩ := hS
  clear hG
  have HC := Lib.hid (iCurveEnd_c c w)
  rcases Bool.eq_false_or_eq_true (wdB 10 c) with hv | hv
  · simp only [hv, if_true]
    have hsm := endP_small hv
    rw [endV_t hv, show encP (endP (toL c)) = .complex .f32 (px (endP (toL c))) (py (endP (toL c))) from rfl] at HC
    have f1 := fun w => run_convert_float_int (P := Tryz.prog) w 38 3 .f32 .i64 (px (endP (toL c))) (endP (toL c)).1 (by rw [Tryz.underlying38]; rfl) Tryz.underlying3 (toInt32 hsm.1)
    have f2 := fun w => run_convert_float_int (P := Tryz.prog) w 38 3 .f32 .i64 (py (endP (toL c))) (endP (toL c)).2 (by rw [Tryz.underlying38]; rfl) Tryz.underlying3 (toInt32 hsm.2)
    have HM := Lib.hid (fun w => mustC_t (px (endP (toL c))) (py (endP (toL c))) w)
    have HB := Lib.hid (fun w hG => both_c (endP (toL c)).1 (endP (toL c)).2 w (by omega) (by omega) hG)
    generalize px (endP (toL c)) = X at *
    generalize py (endP (toL c)) = Y at *
    generalize bothB (endP (toL c)).1 (endP (toL c)).2 = O at *
    generalize (endP (toL c)).1 = x at *
    generalize (endP (toL c)).2 = y at *
    go_enter Tryz.func93, Tryz.ntmps93
    go_wp2_with fail
    refine HC.out.mono ?_
    rintro e w1 ⟨rfl, hb1⟩
    have HS1 := Lib.hid (HS.out.keep hb1)
    have HG1 := Lib.hid (HG.out.below hb1)
    have HB1 := Lib.hid (grw_below (b := b) hb1)
    clear hb1 c0 c1 z0 z1
    go_wp2_with (go_at_call 127; refine (HM.out _).mono ?_; rintro e wx ⟨rfl, rfl⟩)
    refine (HB.out _ HG1.out).mono ?_
    rintro e w2 ⟨rfl, hb2⟩
    have HS2 := Lib.hid (HS1.out.keep hb2)
    have HB2 := Lib.hid (grw_trans HB1.out (grw_below (b := b) hb2))
    clear hb2
    go_wp2_with fail
    go_ret
    exact ⟨rfl, HS2.out, HB2.out⟩
  · simp only [hv, Bool.false_eq_true, if_false]
    rw [endV_f hv] at HC
    go_enter Tryz.func93, Tryz.ntmps93
    go_wp2_with fail
    refine HC.out.mono ?_
    rintro e w1 ⟨rfl, hb1⟩
    have HS1 := Lib.hid (HS.out.keep hb1)
    have HB1 := Lib.hid (grw_below (b := b) hb1)
    clear hb1 c0 c1 z0 z1
    go_wp2_with (go_at_call 127; refine (mustC_f _ _ _).mono ?_; rintro e wx ⟨rfl, rfl⟩; unfold refE)
    exact ⟨rfl, rfl, HS1.out, HB1.out⟩
end Go.Proofs.YtmondgcehgmamaaGreatDoor

namespace Go.Proofs.YtmondgcehgmamaaGreatDoor
set_option linter.unusedSimpArgs false
set_option linter.unusedVariables false
open Go.RowKit

theorem wdB_one {c : ByteArray} (h : wdB 1 c = true) (hne : ¬ c.toList = []) : (toL c == [108]) = true ∨ (toL c == [114]) = true := by
  have h1 := wdB_len h
  have h2 := wdB_all h
  rw [toList_toL] at hne
  rw [← toL_len] at h1
  generalize toL c = l at *
  cases l with
  | nil => exact absurd rfl hne
  | cons a r =>
    cases r with
    | nil => rcases wdC_or (h2 a (by simp)) with rfl | rfl <;> simp
    | cons b r => simp at h1
theorem wdB_oneR {c : ByteArray} (h : (toL c == [108]) = true ∨ (toL c == [114]) = true) : wdB 1 c = true := by
  rw [wdB_of (by rcases h with h | h <;> rw [← toL_len, eq_of_beq h] <;> simp)]
  refine onlyW_good fun a ha => ?_
  rcases h with h | h <;> rw [eq_of_beq h] at ha <;> simp at ha <;> rw [ha] <;> rfl
theorem unfB_bad {s c : ByteArray} (h : wdB 1 c = false) : unfB s c = false := by
  unfold unfB
  rw [Bool.and_eq_false_iff]
  right
  rw [← Bool.not_eq_true, Bool.or_eq_true]
  intro e
  rw [wdB_oneR e] at h
  cases h
theorem unfB_empty {s c : ByteArray} (h : c.toList = []) : unfB s c = false := by
  rw [toList_toL] at h
  unfold unfB
  rw [h]; simp
/-! ### words of turns -/
def STwRel (s : ByteArray) (w : World) (m : Nat) (v i : Value) (wr : World) : Prop :=
  ∃ (k : Nat) (t : ByteArray), k + m = s.size ∧ v = .string t ∧ toL t = turnsL ((toL s).take k) ∧ i = .int .i64 k ∧ Below w.heap.size w wr
abbrev twV (s : ByteArray) : Value := strV (wdB 10 s) (turnsL (toL s))
theorem twV_t {s : ByteArray} (h : wdB 10 s = true) : twV s = .tuple #[.string (bs (turnsL (toL s))), .bool true] := strV_t h _
theorem twV_f {s : ByteArray} (h : wdB 10 s = false) : twV s = .tuple #[.string ⟨#[]⟩, .bool false] := strV_f h _
set_option maxRecDepth 100000 in
set_option maxHeartbeats 4000000 in
theorem sTurnWord_c (s : ByteArray) (w : World) : Calls Tryz.prog 101 #[.string s] w fun e w' => e = .returned (twV s) ∧ Below w.heap.size w w' := by
  rcases Bool.eq_false_or_eq_true (wdB 10 s) with h | h
  · have H := Lib.hid (twV_t h)
    have HW := Lib.hid h
    have hsz := wdB_len h
    go_enter Tryz.func101, Tryz.ntmps101
    go_wp2_with (first | (go_at_call 52; refine (l4Word_c _ 10 _ (by decide)).mono ?_; rintro e w1 ⟨rfl, rfl⟩))
    clear h
    go_loopg [4, 5] s.size (fun m v i wr => STwRel s w m v i wr)
    case atStart => exact ⟨0, ⟨#[]⟩, by omega, rfl, rfl, rfl, Below.refl _ _⟩
    case round =>
      obtain ⟨k, t, hk, rfl, ht, rfl, hB⟩ := hrel
      by_cases hlt : k < s.size
      · have hl := turnsL_len ((toL s).take k)
        rw [List.length_take, toL_len, Nat.min_eq_left (by omega)] at hl
        have hp : 2 ^ k ≤ 2 ^ 10 := Nat.pow_le_pow_right (by omega) (by omega)
        have hp2 : (2 : Nat) ^ 10 = 1024 := by decide
        have hts : t.size ≤ 1023 := by rw [← toL_len, ht]; omega
        have HE := extract_one s k hlt
        have z2 : (s.extract k (k + 1)).size = 1 := by rw [← toL_len, HE]; rfl
        have z3 : (bs (backL (toL t))).size = t.size := by rw [bsz, backL_len, toL_len]
        have z1 : (t ++ s.extract k (k + 1)).size = t.size + 1 := by rw [ByteArray.size_append, z2]
        have HS := Lib.hid (show toL (t ++ s.extract k (k + 1) ++ bs (backL (toL t))) = turnsL ((toL s).take (k + 1)) by
          rw [toL_appW, toL_appW, toL_bs, HE, take_snocB s k hlt, turnsL_snoc, ht])
        have q1 : ¬ (9223372036854775807 < t.size + 1) := by omega
        have q2 : ¬ (9223372036854775807 < t.size + 1 + t.size) := by omega
        obtain ⟨K, hK⟩ : ∃ K, K = k + 1 := ⟨_, rfl⟩
        have HK := Lib.hid hK
        rw [← hK] at z1 z2 HS
        have q0 : IntKind.i64.wrap ((K : Nat) : Int) = (K : Int) := by rw [IntKind.wrap_i64]; omega
        have hKk : k ≤ K := by omega
        have hKs : K ≤ s.size := by omega
        have q3 : (k : Int) + 1 = (K : Nat) := by omega
        clear hl hp hp2 ht HE hK
        go_upto_region 7 with fail
        have hNE : ∀ w, Nonempty (BelowW w) := BelowW.none
        refine wp_region_below (by kernel_rfl) (by kernel_rfl) ?_
        repeat
          (with_reducible refine wpQuiet_step ?_
           intro K hK
           go_simp
           first
             | (refine hK _ ?_; clear hK K)
             | (apply Exists.intro
                refine ⟨fun xW => ?_, hK _ ?_⟩
                ((go_at_call 151; exact Calls.below (sBack_c _ _ (by omega))))
                clear hK K))
        with_reducible refine wpQuiet_nil ?_
        rintro _ ⟨⟨w2, hb2⟩, rfl⟩
        try dsimp only
        go_wp2_with fail
        go_roundg (gk - 1)
        case measure => omega
        case rel => exact ⟨K, _, by have := HK.out; omega, rfl, HS.out, by first | rfl | (have := HK.out; go_num), by (first | ((repeat' with_reducible first | assumption | exact Below.refl _ _ | apply Blw.alloc | apply Blw.drew | apply Blw.drewN | (refine Blw.after ?_ (by assumption)) | (refine Blw.set ?_ (by first | (dsimp only; omega) | (simp; omega)) _)); done) | (repeat' (first | assumption | exact Below.refl _ _ | apply Blw.alloc | apply Blw.drew | apply Blw.drewN | (refine Blw.after ?_ (by assumption)) | (refine Blw.set ?_ (by first | (dsimp only; omega) | (simp; done) | (simp; omega)) _))))⟩
      · have HS := Lib.hid (show t = bs (turnsL (toL s)) from toL_ext (by rw [toL_bs, ht, take_allB s k (by omega)]))
        go_wp2
        go_ret2
        exact ⟨by rw [H.out, ← HS.out]; rfl, hB⟩
  · have H := Lib.hid (twV_f h)
    go_enter Tryz.func101, Tryz.ntmps101
    go_wp2_with (first | (go_at_call 52; refine (l4Word_c _ 10 _ (by decide)).mono ?_; rintro e w1 ⟨rfl, rfl⟩))
    go_ret2
    exact ⟨by rw [H.out]; rfl, by (first | ((repeat' with_reducible first | assumption | exact Below.refl _ _ | apply Blw.alloc | apply Blw.drew | apply Blw.drewN | (refine Blw.after ?_ (by assumption)) | (refine Blw.set ?_ (by first | (dsimp only; omega) | (simp; omega)) _)); done) | (repeat' (first | assumption | exact Below.refl _ _ | apply Blw.alloc | apply Blw.drew | apply Blw.drewN | (refine Blw.after ?_ (by assumption)) | (refine Blw.set ?_ (by first | (dsimp only; omega) | (simp; done) | (simp; omega)) _))))⟩
end Go.Proofs.YtmondgcehgmamaaGreatDoor

namespace Go.Proofs.YtmondgcehgmamaaGreatDoor
set_option linter.unusedSimpArgs false
set_option linter.unusedVariables false
open Go.RowKit

theorem strsLR (w : World) (t : TypeId) : Strs 2 w.heap.size 2 (w.alloc (.cells #[.string ⟨#[108]⟩, .string ⟨#[114]⟩] t)) := by
  intro i hi
  match i, hi with
  | 0, _ => exact ⟨⟨#[108]⟩, by go_simp, by decide⟩
  | 1, _ => exact ⟨⟨#[114]⟩, by go_simp, by decide⟩
theorem strsX (w : World) (t : TypeId) : Strs 2 w.heap.size 3 (w.alloc (.cells #[.string ⟨#[120]⟩, .string ⟨#[32]⟩, .string ⟨#[76]⟩] t)) := by
  intro i hi
  match i, hi with
  | 0, _ => exact ⟨⟨#[120]⟩, by go_simp, by decide⟩
  | 1, _ => exact ⟨⟨#[32]⟩, by go_simp, by decide⟩
  | 2, _ => exact ⟨⟨#[76]⟩, by go_simp, by decide⟩
theorem strsC (w : World) (t : TypeId) : Strs 2 w.heap.size 3 (w.alloc (.cells #[.string ⟨#[]⟩, .string ⟨#[108, 108]⟩, .string ⟨#[120]⟩] t)) := by
  intro i hi
  match i, hi with
  | 0, _ => exact ⟨⟨#[]⟩, by go_simp, by decide⟩
  | 1, _ => exact ⟨⟨#[108, 108]⟩, by go_simp, by decide⟩
  | 2, _ => exact ⟨⟨#[120]⟩, by go_simp, by decide⟩
def WDrawRel (rb : Nat) (sv : Value) (p : Int) (n : Nat) (w : World) (m : Nat) (tv iv : Value) (wr : World) : Prop :=
  ∃ (i : Nat) (t : ByteArray) (p' : Int), i + m = n ∧ iv = .int .i64 i ∧ tv = .string t ∧ t.size ≤ 2 * i ∧ p ≤ p' ∧ p' ≤ p + i ∧ Rd rb sv p' wr ∧ Moved rb w wr
set_option maxHeartbeats 4000000 in
theorem l92Word_k (rb : Nat) (sv : Value) (p : Int) (most : Nat) (w : World) (hs : Src sv rb w) (h : Rd rb sv p w) (hp : 0 ≤ p ∧ p ≤ 1000) (hm : most ≤ 100) :
    Calls Tryz.prog 55 #[.pointer (some ⟨rb, 0, none⟩), .int .i64 most] w (Drawn (StrTo (2 * most + 2)) 110 rb sv p w) := by
  have hrb : rb < w.heap.size := World.block_lt_of_cell? w _ h.1
  go_enter Tryz.func55, Tryz.ntmps55
  go_wp2_with fail
  refine (pick_d rb sv p (most + 1) w hs h ⟨by omega, by omega⟩ ⟨by omega, by omega⟩).mono ?_
  rintro e W1 ⟨v, p1, ⟨k, rfl, k0, k1⟩, rfl, q0, q1, h1, -, m1⟩
  obtain ⟨n, rfl⟩ : ∃ n : Nat, k = (n : Int) := ⟨k.toNat, by omega⟩
  have hn : n ≤ most := by omega
  have S0 := Lib.hid (show WDrawRel rb sv p1 n W1 n (.string ⟨#[]⟩) (.int .i64 0) W1 from ⟨0, ⟨#[]⟩, p1, by omega, rfl, rfl, by decide, by omega, by omega, h1, Moved.refl _ _⟩)
  have HS := Lib.hid hs
  have M1 := Lib.hid m1
  clear h h1 m1 hs
  go_wp2_with fail
  go_loopg [5, 7] n (fun m tv iv wr => WDrawRel rb sv p1 n W1 m tv iv wr)
  case atStart => exact S0.out
  case round =>
    clear S0
    obtain ⟨i, t, p2, hi, rfl, rfl, ht, r0, r1, h2, m2⟩ := hrel
    have M2 := Lib.hid (M1.out.trans m2)
    have m2' := Lib.hid m2
    have H2 := Lib.hid h2
    have z2 : rb < wr.heap.size := Nat.lt_of_lt_of_le hrb M2.out.1
    clear m2 h2
    by_cases hin : i < n
    · go_wp2_with fail
      have m0 := (Moved.refl rb wr).alloc (.cells #[.string ⟨#[108]⟩, .string ⟨#[114]⟩] 9)
      have hk := (Below.refl wr.heap.size wr).alloc (Nat.le_refl _) (.cells #[.string ⟨#[108]⟩, .string ⟨#[114]⟩] 9)
      have z0 : wr.heap.size ≠ rb := Nat.ne_of_gt z2
      refine (of_c rb sv p2 2 wr.heap.size 2 2 _ ((HS.out.moved M2.out).moved m0) (H2.out.keep hk) ⟨by omega, by omega⟩ ⟨by omega, by omega⟩ z0 (strsLR wr _)).mono ?_
      rintro e W3 ⟨v, p3, ⟨u, rfl, hu⟩, rfl, s0, s1, h3, -, m3⟩
      have M3 := Lib.hid (m2'.out.trans (m0.trans m3))
      have HT := Lib.hid (show (t ++ u).size ≤ 2 * (i + 1) by rw [ByteArray.size_append]; omega)
      have H3 := Lib.hid h3
      clear m0 hk z0 h3 m3
      go_wp2_with fail
      go_roundg (gk - 1)
      case measure => omega
      case rel => exact ⟨i + 1, t ++ u, p3, by omega, by go_num, rfl, HT.out, by omega, by omega, H3.out, M3.out⟩
    · go_wp2_with fail
      refine (pick_d rb sv p2 20 wr (HS.out.moved M2.out) H2.out ⟨by omega, by omega⟩ ⟨by omega, by omega⟩).mono ?_
      rintro e W3 ⟨v, p3, ⟨c, rfl, c0, c1⟩, rfl, s0, s1, h3, -, m3⟩
      have M3 := Lib.hid (M2.out.trans m3)
      have H3 := Lib.hid h3
      have z3 : rb < W3.heap.size := Nat.lt_of_lt_of_le hrb M3.out.1
      clear h3 m3
      have fin : ∀ (t : ByteArray) (w' : World) (p' : Int), t.size ≤ 2 * most + 2 → p ≤ p' → p' ≤ p + 110 → Rd rb sv p' w' → Moved rb w w' → Drawn (StrTo (2 * most + 2)) 110 rb sv p w (.returned (.string t)) w' :=
        fun t w' p' ht hp1 hp2 hr hm => ⟨_, p', ⟨t, rfl, ht⟩, rfl, hp1, hp2, hr, HS.out.moved hm, hm⟩
      by_cases e0 : c = 0
      · subst e0
        go_wp2_with fail
        have hk := (Below.refl W3.heap.size W3).alloc (Nat.le_refl _) (.cells #[.string ⟨#[120]⟩, .string ⟨#[32]⟩, .string ⟨#[76]⟩] 9)
        have m0 := (Moved.refl rb W3).below hk
        have z0 : W3.heap.size ≠ rb := Nat.ne_of_gt z3
        refine (of_c rb sv p3 2 W3.heap.size 3 3 _ ((HS.out.moved M3.out).moved m0) (H3.out.keep hk) ⟨by omega, by omega⟩ ⟨by omega, by omega⟩ z0 (strsX W3 _)).mono ?_
        rintro e W4 ⟨v, p4, ⟨u, rfl, hu⟩, rfl, y0, y1, h4, -, m4⟩
        have M4 := Lib.hid (M3.out.trans (m0.trans m4))
        have H4 := Lib.hid h4
        have hsz : (t ++ u).size ≤ 2 * most + 2 := by rw [ByteArray.size_append]; omega
        clear m0 hk z0 h4 m4
        go_wp2_with fail
        go_ret
        exact fin (t ++ u) _ p4 hsz (by omega) (by omega) H4.out M4.out
      · go_wp2_with fail
        go_ret
        exact fin t _ p3 (by omega) (by omega) (by omega) H3.out M3.out
theorem l92Word_c (rb : Nat) (sv : Value) (p most : Int) (w : World) (hs : Src sv rb w) (h : Rd rb sv p w) (hp : 0 ≤ p ∧ p ≤ 1000) (hm : 0 ≤ most ∧ most ≤ 100) :
    Calls Tryz.prog 55 #[.pointer (some ⟨rb, 0, none⟩), .int .i64 most] w (Drawn (StrTo 400) 110 rb sv p w) := by
  obtain ⟨m, rfl⟩ : ∃ m : Nat, most = (m : Int) := ⟨most.toNat, by omega⟩
  refine (l92Word_k rb sv p m w hs h hp (by omega)).mono ?_
  rintro e w' ⟨v, p', ⟨t, rfl, ht⟩, h1, h2, h3, h4, h5, h6⟩
  exact ⟨_, p', ⟨t, rfl, by omega⟩, h1, h2, h3, h4, h5, h6⟩

set_option maxHeartbeats 1000000 in
theorem drawTurnWord_c (v : Value) (w : World) (h : Code v w) : Calls Tryz.prog 49 #[v] w (OneText w) := by
  go_enter Tryz.func49, Tryz.ntmps49
  go_wp2_with fail
  refine (l6Open_c v w h).mono ?_
  rintro e W1 ⟨sv, rfl, hr, hs, hz, hb⟩
  go_wp2_with fail
  refine (pick_d w.heap.size sv 0 8 W1 hs hr ⟨by omega, by omega⟩ ⟨by omega, by omega⟩).mono ?_
  rintro e W2 ⟨v, p1, ⟨k, rfl, k0, k1⟩, rfl, q0, q1, h1, hs1, m1⟩
  have hk : k.tdiv 7 = 0 ∨ k.tdiv 7 = 1 := by rw [Int.tdiv_eq_ediv_of_nonneg k0]; omega
  rcases hk with hk | hk
  · go_wp2_with fail
    refine (l92Word_c w.heap.size sv p1 _ W2 hs1 h1 ⟨by omega, by omega⟩ ⟨by omega, by omega⟩).mono ?_
    rintro e W3 ⟨v', p', ⟨t, rfl, ht⟩, rfl, -, -, -, -, m⟩
    have hB2 : Below w.heap.size w W3 := (m1.trans m).2.2.2 w hb (Nat.le_refl _)
    go_wp2_with fail
    go_ret
    exact ⟨t, rfl, ht, hB2⟩
  · go_wp2_with fail
    refine (l92Word_c w.heap.size sv p1 _ W2 hs1 h1 ⟨by omega, by omega⟩ ⟨by omega, by omega⟩).mono ?_
    rintro e W3 ⟨v', p', ⟨t, rfl, ht⟩, rfl, -, -, -, -, m⟩
    have hB2 : Below w.heap.size w W3 := (m1.trans m).2.2.2 w hb (Nat.le_refl _)
    go_wp2_with fail
    go_ret
    exact ⟨t, rfl, ht, hB2⟩
/-- what a draw of one text of at most 1100 bytes leaves -/
def OneTextW (w : World) (e : Ending) (w' : World) : Prop := ∃ t : ByteArray, e = .returned (.string t) ∧ t.size ≤ 1100 ∧ Below w.heap.size w w'
theorem twV_size (t : ByteArray) : (selW (wdB 10 t) (turnsL (toL t))).size ≤ 1100 := by
  rcases Bool.eq_false_or_eq_true (wdB 10 t) with h | h
  · have hl := turnsL_len (toL t)
    have hs := wdB_len h
    have hp : 2 ^ (toL t).length ≤ 2 ^ 10 := Nat.pow_le_pow_right (by omega) (by rw [toL_len]; exact hs)
    have : (2 : Nat) ^ 10 = 1024 := by decide
    unfold selW
    rw [h, if_pos rfl, bsz]; omega
  · unfold selW; rw [h]; exact Nat.zero_le _
end Go.Proofs.YtmondgcehgmamaaGreatDoor

namespace Go.Proofs.YtmondgcehgmamaaGreatDoor
set_option linter.unusedSimpArgs false
set_option linter.unusedVariables false
open Go.RowKit

theorem sSingle_c {x y r i : Nat} (w : World) (h : Div .f32 x y r i) : Calls Tryz.prog 46 #[.complex .f32 x y] w fun e w' => e = .returned (.complex .f32 r i) ∧ w = w' := by
  obtain ⟨d, n, e, ⟨h1, h2, h3, h4, h5⟩, -⟩ := h
  have h2' : floatBits .quo .f32 d 1073741824 = some r := h2
  have h5' : floatBits .quo .f32 e 1073741824 = some i := h5
  have f1 := fun w => run_float_arith (P := Tryz.prog) w .sub 38 .f32 y x d h1
  have f2 := fun w => run_float_arith (P := Tryz.prog) w .quo 38 .f32 d _ r h2'
  have f3 := fun w => run_float_arith (P := Tryz.prog) w .sub 38 .f32 0 x n h3
  have f4 := fun w => run_float_arith (P := Tryz.prog) w .sub 38 .f32 n y e h4
  have f5 := fun w => run_float_arith (P := Tryz.prog) w .quo 38 .f32 e _ i h5'
  clear h1 h2 h2' h3 h4 h5 h5'
  go_enter Tryz.func46, Tryz.ntmps46
  go_wp2
  go_ret
  exact ⟨rfl, rfl⟩
theorem sWide_c {x y r i : Nat} (w : World) (h : Div .f64 x y r i) : Calls Tryz.prog 156 #[.complex .f64 x y] w fun e w' => e = .returned (.complex .f64 r i) ∧ w = w' := by
  obtain ⟨d, n, e, ⟨h1, h2, h3, h4, h5⟩, -⟩ := h
  have h2' : floatBits .quo .f64 d 4611686018427387904 = some r := h2
  have h5' : floatBits .quo .f64 e 4611686018427387904 = some i := h5
  have f1 := fun w => run_float_arith (P := Tryz.prog) w .sub 109 .f64 y x d h1
  have f2 := fun w => run_float_arith (P := Tryz.prog) w .quo 109 .f64 d _ r h2'
  have f3 := fun w => run_float_arith (P := Tryz.prog) w .sub 109 .f64 0 x n h3
  have f4 := fun w => run_float_arith (P := Tryz.prog) w .sub 109 .f64 n y e h4
  have f5 := fun w => run_float_arith (P := Tryz.prog) w .quo 109 .f64 e _ i h5'
  clear h1 h2 h2' h3 h4 h5 h5'
  go_enter Tryz.func156, Tryz.ntmps156
  go_wp2
  go_ret
  exact ⟨rfl, rfl⟩
theorem convP_c {t u : TypeId} {k l : FloatKind} {a b c d : Nat} (ht : Tryz.prog.underlying t = some (.complex k)) (hu : Tryz.prog.underlying u = some (.complex l)) (h1 : floatToFloatBits k a l = some c) (h2 : floatToFloatBits k b l = some d) (w : World) :
    (convert t u (.complex k a b)).run Tryz.prog w = .ok (.complex l c d) w :=
  run_convert_complex (P := Tryz.prog) w t u k l a b c d (by rw [ht]; rfl) hu (by simp [cConvBits, h1, h2])
theorem sum_c {t : TypeId} {o : BinOp} {k : FloatKind} {a b c d r i : Nat} (ho : o = .add ∨ o = .sub) (h1 : floatBits o k a c = some r) (h2 : floatBits o k b d = some i) (w : World) :
    (binOp o t (.complex k a b) (.complex k c d)).run Tryz.prog w = .ok (.complex k r i) w :=
  run_complex_sum (P := Tryz.prog) w o ho t k a b c d r i (by simp [cSumBits, h1, h2])
theorem conv_same (k : FloatKind) (a : Nat) : floatToFloatBits k a k = some a := by simp [floatToFloatBits]
set_option maxHeartbeats 1000000 in
theorem iSingle_c {x y r i : Nat} (w : World) (h : Div .f32 x y r i) : Calls Tryz.prog 72 #[.complex .f32 x y] w fun e w' => e = .returned (.complex .f32 r i) ∧ w = w' := by
  obtain ⟨d, n, e, -, h⟩ := h
  obtain ⟨X, Y, N, y', n', D, E, R, I, h1, h2, h3, h4, h5, h6, h7, h8, h9, h10, h11, h12, h13⟩ := h rfl
  have f1 := convP_c Tryz.underlying32 Tryz.underlying70 h1 h2
  have f2 := fun w => run_float_arith (P := Tryz.prog) w .sub 109 .f64 0 X N h3
  have f3 := convP_c Tryz.underlying70 Tryz.underlying32 h4 h5
  have f4 := sum_c (t := 32) (.inr rfl) h6 h7
  have f5 := convP_c Tryz.underlying32 Tryz.underlying70 h8 h9
  have f6 := fun w => run_float_arith (P := Tryz.prog) w .quo 109 .f64 D _ R h10
  have f7 := fun w => run_float_arith (P := Tryz.prog) w .quo 109 .f64 E _ I h11
  have f8 := convP_c Tryz.underlying70 Tryz.underlying32 h12 h13
  clear h1 h2 h3 h4 h5 h6 h7 h8 h9 h10 h11 h12 h13
  go_enter Tryz.func72, Tryz.ntmps72
  go_wp2
  go_ret
  exact ⟨rfl, rfl⟩
set_option maxHeartbeats 1000000 in
theorem iWide_c {x y r i : Nat} (w : World) (h : Div .f64 x y r i) : Calls Tryz.prog 215 #[.complex .f64 x y] w fun e w' => e = .returned (.complex .f64 r i) ∧ w = w' := by
  obtain ⟨d, n, e, ⟨h1, h2, h3, h4, h5⟩, -⟩ := h
  have h2' : floatBits .quo .f64 d 4611686018427387904 = some r := h2
  have h5' : floatBits .quo .f64 e 4611686018427387904 = some i := h5
  have f1 := convP_c Tryz.underlying70 Tryz.underlying70 (conv_same .f64 x) (conv_same .f64 y)
  have f2 := fun w => run_float_arith (P := Tryz.prog) w .sub 109 .f64 0 x n h3
  have f3 := convP_c Tryz.underlying70 Tryz.underlying70 (conv_same .f64 y) (conv_same .f64 n)
  have f4 := sum_c (t := 70) (.inr rfl) h1 h4
  have f5 := convP_c Tryz.underlying70 Tryz.underlying70 (conv_same .f64 d) (conv_same .f64 e)
  have f6 := fun w => run_float_arith (P := Tryz.prog) w .quo 109 .f64 d _ r h2'
  have f7 := fun w => run_float_arith (P := Tryz.prog) w .quo 109 .f64 e _ i h5'
  have f8 := convP_c Tryz.underlying70 Tryz.underlying70 (conv_same .f64 r) (conv_same .f64 i)
  clear h1 h2 h2' h3 h4 h5 h5'
  go_enter Tryz.func215, Tryz.ntmps215
  go_wp2
  go_ret
  exact ⟨rfl, rfl⟩

/-! ### powers -/
def pickN (b : Bool) (x : Nat) : Nat := if b then x else 0
abbrev powV (k : FloatKind) (n : Int) : Value := .tuple #[.complex k (pickN (inR 0 320 n) (pw k n.toNat).1) (pickN (inR 0 320 n) (pw k n.toNat).2), .bool (inR 0 320 n)]
theorem powV_no {k : FloatKind} {n : Int} (h : inR 0 320 n = false) : powV k n = .tuple #[.complex k 0 0, .bool false] := by unfold powV pickN; rw [h]; rfl
theorem powV_yes {k : FloatKind} {n : Int} (h : inR 0 320 n = true) : powV k n = .tuple #[.complex k (pw k n.toNat).1 (pw k n.toNat).2, .bool true] := by unfold powV pickN; rw [h]; rfl
def PwRel (k : FloatKind) (w : World) (t : Nat) (m : Nat) (z c : Value) (wr : World) : Prop := ∃ j : Nat, j + m = t ∧ wr = w ∧ c = .int .i64 j ∧ z = .complex k (pw k j).1 (pw k j).2
theorem sPowerSingle_c (n : Int) (w : World) : Calls Tryz.prog 21 #[.int .i64 n] w fun e w' => e = .returned (powV .f32 n) ∧ w = w' := by
  rcases Bool.eq_false_or_eq_true (inR 0 320 n) with h1 | h1
  · have H := Lib.hid (powV_yes (k := .f32) h1)
    obtain ⟨t, rfl⟩ : ∃ t : Nat, n = t := ⟨n.toNat, by simp [inR] at h1; omega⟩
    have ht : t ≤ 320 := by simp [inR] at h1; omega
    go_enter Tryz.func21, Tryz.ntmps21
    go_wp2_with (go_at_call 45; refine (l6In_c _ _ _ _).mono ?_; rintro e w1 ⟨rfl, rfl⟩)
    go_loopg [4, 5] t (fun m z c wr => PwRel .f32 w t m z c wr)
    case atStart => exact ⟨0, by omega, rfl, rfl, rfl⟩
    case round =>
      obtain ⟨j, hj, rfl, rfl, rfl⟩ := hrel
      by_cases hlt : j < t
      · go_wp2_with (go_at_call 46; refine (sSingle_c _ (pw_div .f32 j)).mono ?_; rintro e w1 ⟨rfl, rfl⟩)
        go_roundg (gk - 1)
        case measure => omega
        case rel => exact ⟨j + 1, by omega, rfl, by go_num, rfl⟩
      · obtain rfl : j = t := by omega
        go_wp2
        go_ret2
        exact ⟨by rw [H.out]; rfl, rfl⟩
  · have H := Lib.hid (powV_no (k := .f32) h1)
    go_enter Tryz.func21, Tryz.ntmps21
    go_wp2_with (go_at_call 45; refine (l6In_c _ _ _ _).mono ?_; rintro e w1 ⟨rfl, rfl⟩)
    go_ret2
    exact ⟨by rw [H.out]; rfl, rfl⟩
theorem sPowerWide_c (n : Int) (w : World) : Calls Tryz.prog 110 #[.int .i64 n] w fun e w' => e = .returned (powV .f64 n) ∧ w = w' := by
  rcases Bool.eq_false_or_eq_true (inR 0 320 n) with h1 | h1
  · have H := Lib.hid (powV_yes (k := .f64) h1)
    obtain ⟨t, rfl⟩ : ∃ t : Nat, n = t := ⟨n.toNat, by simp [inR] at h1; omega⟩
    have ht : t ≤ 320 := by simp [inR] at h1; omega
    go_enter Tryz.func110, Tryz.ntmps110
    go_wp2_with (go_at_call 45; refine (l6In_c _ _ _ _).mono ?_; rintro e w1 ⟨rfl, rfl⟩)
    go_loopg [4, 5] t (fun m z c wr => PwRel .f64 w t m z c wr)
    case atStart => exact ⟨0, by omega, rfl, rfl, rfl⟩
    case round =>
      obtain ⟨j, hj, rfl, rfl, rfl⟩ := hrel
      by_cases hlt : j < t
      · go_wp2_with (go_at_call 156; refine (sWide_c _ (pw_div .f64 j)).mono ?_; rintro e w1 ⟨rfl, rfl⟩)
        go_roundg (gk - 1)
        case measure => omega
        case rel => exact ⟨j + 1, by omega, rfl, by go_num, rfl⟩
      · obtain rfl : j = t := by omega
        go_wp2
        go_ret2
        exact ⟨by rw [H.out]; rfl, rfl⟩
  · have H := Lib.hid (powV_no (k := .f64) h1)
    go_enter Tryz.func110, Tryz.ntmps110
    go_wp2_with (go_at_call 45; refine (l6In_c _ _ _ _).mono ?_; rintro e w1 ⟨rfl, rfl⟩)
    go_ret2
    exact ⟨by rw [H.out]; rfl, rfl⟩
theorem power32_c (n : Int) (w : World) : Calls Tryz.prog 44 #[.int .i64 n] w fun e w' => e = .returned (powV .f32 n) ∧ w = w' := by
  rcases Bool.eq_false_or_eq_true (inR 0 320 n) with h1 | h1
  · have H := Lib.hid (powV_yes (k := .f32) h1)
    obtain ⟨t, rfl⟩ : ∃ t : Nat, n = t := ⟨n.toNat, by simp [inR] at h1; omega⟩
    have ht : t ≤ 320 := by simp [inR] at h1; omega
    go_enter Tryz.func44, Tryz.ntmps44
    go_wp2
    go_loopg [4, 12] t (fun m z c wr => PwRel .f32 w t m z c wr)
    case atStart => exact ⟨0, by omega, rfl, rfl, rfl⟩
    case round =>
      obtain ⟨j, hj, rfl, rfl, rfl⟩ := hrel
      by_cases hlt : j < t
      · go_wp2_with (go_at_call 72; refine (iSingle_c _ (pw_div .f32 j)).mono ?_; rintro e w1 ⟨rfl, rfl⟩)
        go_roundg (gk - 1)
        case measure => omega
        case rel => exact ⟨j + 1, by omega, rfl, by go_num, rfl⟩
      · obtain rfl : j = t := by omega
        go_wp2
        go_ret2
        exact ⟨by rw [H.out]; rfl, rfl⟩
  · have H := Lib.hid (powV_no (k := .f32) h1)
    by_cases h0 : n < 0
    all_goals
      first | have h9 : 320 < n := by (simp [inR] at h1; omega) | skip
      go_enter Tryz.func44, Tryz.ntmps44
      go_wp2
      go_ret2
      exact ⟨by rw [H.out]; rfl, rfl⟩
theorem power64_c (n : Int) (w : World) : Calls Tryz.prog 176 #[.int .i64 n] w fun e w' => e = .returned (powV .f64 n) ∧ w = w' := by
  rcases Bool.eq_false_or_eq_true (inR 0 320 n) with h1 | h1
  · have H := Lib.hid (powV_yes (k := .f64) h1)
    obtain ⟨t, rfl⟩ : ∃ t : Nat, n = t := ⟨n.toNat, by simp [inR] at h1; omega⟩
    have ht : t ≤ 320 := by simp [inR] at h1; omega
    go_enter Tryz.func176, Tryz.ntmps176
    go_wp2
    go_loopg [4, 12] t (fun m z c wr => PwRel .f64 w t m z c wr)
    case atStart => exact ⟨0, by omega, rfl, rfl, rfl⟩
    case round =>
      obtain ⟨j, hj, rfl, rfl, rfl⟩ := hrel
      by_cases hlt : j < t
      · go_wp2_with (go_at_call 215; refine (iWide_c _ (pw_div .f64 j)).mono ?_; rintro e w1 ⟨rfl, rfl⟩)
        go_roundg (gk - 1)
        case measure => omega
        case rel => exact ⟨j + 1, by omega, rfl, by go_num, rfl⟩
      · obtain rfl : j = t := by omega
        go_wp2
        go_ret2
        exact ⟨by rw [H.out]; rfl, rfl⟩
  · have H := Lib.hid (powV_no (k := .f64) h1)
    by_cases h0 : n < 0
    all_goals
      first | have h9 : 320 < n := by (simp [inR] at h1; omega) | skip
      go_enter Tryz.func176, Tryz.ntmps176
      go_wp2
      go_ret2
      exact ⟨by rw [H.out]; rfl, rfl⟩
theorem iPowerSingle_c (n : Int) (w : World) : Calls Tryz.prog 20 #[.int .i64 n] w fun e w' => e = .returned (powV .f32 n) ∧ w = w' := by
  go_enter Tryz.func20, Tryz.ntmps20
  go_wp2_with (go_at_call 44; refine (power32_c _ _).mono ?_; rintro e w1 ⟨rfl, rfl⟩)
  go_ret2
  exact ⟨rfl, rfl⟩
theorem iPowerWide_c (n : Int) (w : World) : Calls Tryz.prog 129 #[.int .i64 n] w fun e w' => e = .returned (powV .f64 n) ∧ w = w' := by
  go_enter Tryz.func129, Tryz.ntmps129
  go_wp2_with (go_at_call 176; refine (power64_c _ _).mono ?_; rintro e w1 ⟨rfl, rfl⟩)
  go_ret2
  exact ⟨rfl, rfl⟩
end Go.Proofs.YtmondgcehgmamaaGreatDoor

namespace Go.Proofs.YtmondgcehgmamaaGreatDoor
set_option linter.unusedSimpArgs false
set_option linter.unusedVariables false
open Go.RowKit Ieee

theorem nearest_word (f : Format) (s : Bool) (m : Nat) (p : Int) : ∃ k, f.nearest s m p = f.word s k ∧ k ≤ f.infRung := by
  unfold Format.nearest
  split
  · exact ⟨0, rfl, Nat.zero_le _⟩
  · exact ⟨_, rfl, Nat.min_le_right _ _⟩
theorem word_self (f : Format) (hb : ¬ f.infRung < f.binade) (s : Bool) {k : Nat} (h : k ≤ f.infRung) : f.order (f.word s k) (f.word s k) = some .eq := by
  unfold Format.order
  rcases Nat.lt_or_eq_of_le h with h | h
  · rw [read_word f s h]
    split <;> exact congrArg some (Int.compare_eq_eq.2 rfl)
  · subst h
    have hlt := Format.infRung_lt f
    have hpos : 0 < f.signWeight := by omega
    have e1 : (f.word s f.infRung / f.signWeight % 2 == 1) = s := by
      cases s
      · show (f.infRung / f.signWeight % 2 == 1) = false
        rw [Nat.div_eq_of_lt hlt]; rfl
      · show ((f.signWeight + f.infRung) / f.signWeight % 2 == 1) = true
        rw [Nat.add_div_left _ hpos, Nat.div_eq_of_lt hlt]; rfl
    have e2 : f.word s f.infRung % f.signWeight = f.infRung := by
      cases s
      · show f.infRung % f.signWeight = _
        exact Nat.mod_eq_of_lt hlt
      · show (f.signWeight + f.infRung) % f.signWeight = _
        rw [Nat.add_mod_left]; exact Nat.mod_eq_of_lt hlt
    have e3 : f.read (f.word s f.infRung) = .infinity s := by
      unfold Format.read
      simp only [e1, e2]
      simp [hb]
    rw [e3]
    cases s <;> rfl
theorem write_self (f : Format) (hb : ¬ f.infRung < f.binade) {d : Datum} (h : d.isNaN = false) : f.order (f.write d) (f.write d) = some .eq := by
  cases d with
  | nan s t => simp [Datum.isNaN] at h
  | infinity s => exact word_self f hb s (Nat.le_refl _)
  | number s m p =>
    obtain ⟨k, e, hk⟩ := nearest_word f s m p
    show f.order (f.nearest s m p) (f.nearest s m p) = _
    rw [e]
    exact word_self f hb s hk
theorem one_div_ok {x : Nat} (h : FloatKind.f64.format.order x x = some .eq) : ∃ r, floatBits .quo .f64 4607182418800017408 x = some r ∧ FloatKind.f64.format.order r r = some .eq := by
  have e : floatBits .quo .f64 4607182418800017408 x = ((FloatKind.f64.format.read 4607182418800017408).quotient (double.fractionBits + 2) (FloatKind.f64.format.read x)).map FloatKind.f64.format.write := rfl
  rw [e, show FloatKind.f64.format.read 4607182418800017408 = .number false 4503599627370496 (-52) by decide +kernel]
  cases hx : FloatKind.f64.format.read x with
  | nan s t => unfold Format.order at h; rw [hx] at h; simp [Datum.order] at h
  | infinity s => exact ⟨_, rfl, write_self _ (by decide +kernel) rfl⟩
  | number s m i =>
    by_cases hm : m = 0
    · subst hm; exact ⟨_, rfl, write_self _ (by decide +kernel) rfl⟩
    · simp only [Datum.quotient, if_neg hm]
      exact ⟨_, rfl, write_self _ (by decide +kernel) rfl⟩
theorem sameZero_c (x : Nat) (w : World) (h1 : FloatKind.f64.format.order x x = some .eq) : Calls Tryz.prog 73 #[.float .f64 x, .float .f64 x] w fun e w' => e = .returned (.bool true) ∧ w = w' := by
  obtain ⟨r, hr, h2⟩ := one_div_ok h1
  have hq := fun w => run_float_arith (P := Tryz.prog) w .quo 109 .f64 _ x r hr
  clear hr
  go_enter Tryz.func73, Tryz.ntmps73
  go_wp2
  go_ret
  exact ⟨by simp [*], rfl⟩
theorem sameWide_c (x y : Nat) (w : World) (h1 : FloatKind.f64.format.order x x = some .eq) (h2 : FloatKind.f64.format.order y y = some .eq) : Calls Tryz.prog 47 #[.complex .f64 x y, .complex .f64 x y] w fun e w' => e = .returned (.bool true) ∧ w = w' := by
  go_enter Tryz.func47, Tryz.ntmps47
  go_wp2_with (go_at_call 73; refine (sameZero_c _ _ (by assumption)).mono ?_; rintro e w1 ⟨rfl, rfl⟩)
  go_ret
  exact ⟨rfl, rfl⟩
theorem sameSingle_c (x y X Y : Nat) (w : World) (u1 : floatToFloatBits .f32 x .f64 = some X) (u2 : floatToFloatBits .f32 y .f64 = some Y) (h1 : FloatKind.f64.format.order X X = some .eq) (h2 : FloatKind.f64.format.order Y Y = some .eq) :
    Calls Tryz.prog 22 #[.complex .f32 x y, .complex .f32 x y] w fun e w' => e = .returned (.bool true) ∧ w = w' := by
  have f1 := convP_c Tryz.underlying32 Tryz.underlying70 u1 u2
  go_enter Tryz.func22, Tryz.ntmps22
  go_wp2_with (go_at_call 47; refine (sameWide_c _ _ _ h1 h2).mono ?_; rintro e w1 ⟨rfl, rfl⟩)
  go_ret
  exact ⟨rfl, rfl⟩
/-- a finite word is equal to itself -/
theorem fl_self {k : FloatKind} {x : Nat} {s : Bool} {V : Nat} (h : Fl k.format x s V) : k.format.order x x = some .eq := vl_same ⟨s, V, h, rfl⟩ ⟨s, V, h, rfl⟩
theorem pt_self {k : FloatKind} {U B x y : Nat} (h : Pt k.format U B x y) : k.format.order x x = some .eq ∧ k.format.order y y = some .eq := by
  obtain ⟨s, V, t, W, h1, h2, _, _⟩ := h
  exact ⟨fl_self h1, fl_self h2⟩
/-- a single point in the wider width, no NaN there -/
theorem pt_upS {B x y : Nat} (h : Pt single (un .f32) B x y) (hB : B ≤ 2000000) : ∃ X Y, floatToFloatBits .f32 x .f64 = some X ∧ floatToFloatBits .f32 y .f64 = some Y ∧ FloatKind.f64.format.order X X = some .eq ∧ FloatKind.f64.format.order Y Y = some .eq := by
  obtain ⟨s, V, t, W, h1, h2, h3, h4⟩ := h
  obtain ⟨a1, a2⟩ := conv_up wd h1 (up_le h3 hB)
  obtain ⟨b1, b2⟩ := conv_up wd h2 (up_le h4 hB)
  exact ⟨_, _, a1, b1, fl_self (k := .f64) a2, fl_self (k := .f64) b2⟩
end Go.Proofs.YtmondgcehgmamaaGreatDoor

namespace Go.Proofs.YtmondgcehgmamaaGreatDoor
set_option linter.unusedSimpArgs false
set_option linter.unusedVariables false
open Go.RowKit

theorem drawCurveEnd_c (v : Value) (w : World) (h : Code v w) : Calls Tryz.prog 24 #[v] w (OneText w) := by
  go_enter Tryz.func24, Tryz.ntmps24
  go_wp2_with fail
  refine (drawTurnWord_c v w h).mono ?_
  rintro e W1 ⟨t, rfl, ht, hb⟩
  go_wp2_with fail
  go_ret
  exact ⟨t, rfl, ht, hb⟩
theorem same_p {E : Int × Int} (h : E.1.natAbs ≤ 2000000 ∧ E.2.natAbs ≤ 2000000) (w : World) : Calls Tryz.prog 22 #[encP E, encP E] w fun e w' => e = .returned (.bool true) ∧ w = w' := by
  refine sameSingle_c _ _ _ _ w (ff_conv .f32 .f64 h.1) (ff_conv .f32 .f64 h.2) ?_ ?_
  · rw [ff_order h.1 h.1, Int.compare_eq_eq.2 rfl]
  · rw [ff_order h.2 h.2, Int.compare_eq_eq.2 rfl]
end Go.Proofs.YtmondgcehgmamaaGreatDoor

namespace Go.Proofs.YtmondgcehgmamaaGreatDoor
set_option linter.unusedSimpArgs false
set_option linter.unusedVariables false
open Go.RowKit

/-- one to three digits -/
def numO (l : List UInt8) : Option Nat := match Lib.parseUintB 64 l with
  | .ok u => if l.length ≤ 3 then some u else none
  | _ => none
/-- .. with a sign -/
def decO (l : List UInt8) : Option Int := if Lib.hasPrefix l [45] then (numO (Lib.trimPrefix l [45])).map fun (u : Nat) => -(u : Int) else (numO (Lib.trimPrefix l [45])).map fun (u : Nat) => (u : Int)
theorem pM_bound {M : Nat} : ∀ (l : List UInt8) (acc u : Nat), Lib.parseUintM M acc l = .ok u → u < (acc + 1) * 10 ^ l.length
  | [], acc, u, h => by
    simp only [Lib.parseUintM] at h
    cases h; simp
  | c :: r, acc, u, h => by
    simp only [Lib.parseUintM] at h
    split at h
    · rename_i hc
      split at h
      · cases h
      split at h
      · cases h
      · have := pM_bound r _ u h
        rw [List.length_cons, Nat.pow_succ]
        have h9 : c.toNat - 48 ≤ 9 := by omega
        have hp : 0 < 10 ^ r.length := Nat.pow_pos (by omega)
        calc u < (acc * 10 + (c.toNat - 48) + 1) * 10 ^ r.length := this
          _ ≤ ((acc + 1) * 10) * 10 ^ r.length := Nat.mul_le_mul_right _ (by omega)
          _ = (acc + 1) * (10 ^ r.length * 10) := by rw [Nat.mul_assoc, Nat.mul_comm 10]
    · cases h
theorem numO_le {l : List UInt8} {u : Nat} (h : numO l = some u) : u ≤ 999 := by
  unfold numO at h
  split at h
  · rename_i v hv
    split at h
    · rename_i hl
      cases h
      unfold Lib.parseUintB at hv
      split at hv
      · cases hv
      · have h1 := pM_bound _ _ _ hv
        have : 10 ^ l.length ≤ 10 ^ 3 := Nat.pow_le_pow_right (by omega) hl
        omega
    · cases h
  · cases h
theorem iface_nil (t : TypeId) (v : Value) (w : World) : (binOp .eql 53 (.iface t v) .nilIface).run Tryz.prog w = .ok (.bool false) w := by
  have e : ∀ m, (Op.equalIn (m + 1) 53 (.iface t v) .nilIface).run Tryz.prog w = .ok false w := fun m => by simp [Op.equalIn, run_underlying Tryz.underlying53]
  simp only [binOp]
  simp [show Op.equal 53 (.iface t v) .nilIface = Op.equalIn (9999 + 1) 53 (.iface t v) .nilIface from rfl, e]
theorem nil_nil (w : World) : (binOp .eql 53 .nilIface .nilIface).run Tryz.prog w = .ok (.bool true) w := by
  have e : ∀ m, (Op.equalIn (m + 1) 53 .nilIface .nilIface).run Tryz.prog w = .ok true w := fun m => by simp [Op.equalIn, run_underlying Tryz.underlying53]
  simp only [binOp]
  simp [show Op.equal 53 .nilIface .nilIface = Op.equalIn (9999 + 1) 53 .nilIface .nilIface from rfl, e]
/-- what ParseUint leaves: the number, or an error -/
theorem parse_ok (s : ByteArray) (w : World) (hs : s.size ≤ 281474976710656) (u : Nat) (h : Lib.parseUintB 64 (toL s) = .ok u) : Calls Tryz.prog 175 #[.string s, .int .i64 10, .int .i64 64] w fun e w' => e = .returned (.tuple #[.int .u64 u, .nilIface]) ∧ Below w.heap.size w w' :=
  (Tryz.strconv_ParseUint_10_at64_ok s (by omega) u h w).mono fun e w' ⟨he, hw⟩ => ⟨he, by
    rcases hw with rfl | rfl
    · exact Below.refl _ _
    · exact Lib.bytesWorld_below w 5 s⟩
theorem parse_err (s : ByteArray) (w : World) (hs : s.size ≤ 281474976710656) (hG : Gx w) (h : ∀ u, Lib.parseUintB 64 (toL s) ≠ .ok u) : Calls Tryz.prog 175 #[.string s, .int .i64 10, .int .i64 64] w fun e w' => (∃ (u : Int) (t : TypeId) (v : Value), e = .returned (.tuple #[.int .u64 u, .iface t v])) ∧ Below w.heap.size w w' := by
  cases hp : Lib.parseUintB 64 (toL s)
  · exact absurd hp (h _)
  · obtain ⟨ev, h1, h2⟩ := hG.syn
    exact (Any.strconv_ParseUint_10_at64_syntax Tryz.laysPu14 s hs hp ev w h1 h2).mono fun e w' ⟨N, he, _, _, hB⟩ => ⟨⟨_, _, _, he⟩, hB⟩
  · obtain ⟨ev, h1, h2⟩ := hG.rng
    exact (Any.strconv_ParseUint_10_at64_range Tryz.laysPu14 s hs hp ev w h1 h2).mono fun e w' ⟨N, he, _, _, hB⟩ => ⟨⟨_, _, _, he⟩, hB⟩
def decE : Option Int → Ending
  | some z => .returned (.int .i64 z)
  | none => refE noB
set_option maxRecDepth 100000 in
theorem decimal_c (s : ByteArray) (w : World) (hs : s.size ≤ 281474976710656) (hG : Gx w) : Calls Tryz.prog 126 #[.string s] w fun e w' => e = decE (decO (toL s)) ∧ Below w.heap.size w w' := by
  have HG := Lib.hid hG
  have HC := Lib.hid (Tryz.strings_CutPrefix s ⟨#[45]⟩ w)
  have hn1 := fun t v w => iface_nil t v w
  have hn2 := nil_nil
  have hlen : (bs (Lib.trimPrefix (toL s) [45])).size ≤ 281474976710656 := by
    rw [← toL_len, toL_bs]
    unfold Lib.trimPrefix
    split
    · rw [List.length_drop, toL_len]; omega
    · rw [toL_len]; exact hs
  obtain ⟨D, hD⟩ : ∃ D, bs (Lib.trimPrefix (toL s) [45]) = D := ⟨_, rfl⟩
  have hDL : toL D = Lib.trimPrefix (toL s) [45] := by rw [← hD, toL_bs]
  have e1 : (⟨(Lib.trimPrefix s.data.toList (⟨#[45]⟩ : ByteArray).data.toList).toArray⟩ : ByteArray) = D := hD
  have e2 : Lib.hasPrefix s.data.toList (⟨#[45]⟩ : ByteArray).data.toList = Lib.hasPrefix (toL s) [45] := rfl
  rw [e1, e2] at HC
  rw [hD] at hlen
  have hO : decO (toL s) = if Lib.hasPrefix (toL s) [45] then (numO (toL D)).map fun (u : Nat) => -(u : Int) else (numO (toL D)).map fun (u : Nat) => (u : Int) := by unfold decO; rw [hDL]
  rw [hO]
  clear hG hO e1 e2 hD hDL
  generalize Lib.hasPrefix (toL s) [45] = P at *
  by_cases hok : ∃ u, Lib.parseUintB 64 (toL D) = .ok u
  · obtain ⟨u, hu⟩ := hok
    have HP := Lib.hid (fun w => parse_ok D w hlen u hu)
    by_cases hl : D.size ≤ 3
    · have hnu : numO (toL D) = some u := by unfold numO; rw [hu]; simp only; rw [if_pos (by rw [toL_len]; exact hl)]
      have hle := numO_le hnu
      rw [hnu]
      have c1 : IntKind.i64.wrap (u : Int) = (u : Int) := IntWalk.i64_in _ (by omega)
      have c2 : IntKind.i64.wrap (-(u : Int)) = -(u : Int) := IntWalk.i64_in _ (by omega)
      have d3 : decide ((D.size : Int) ≤ 3) = true := decide_eq_true (by omega)
      clear hnu hu hlen
      go_enter Tryz.func126, Tryz.ntmps126
      go_wp2_with fail
      refine HC.out.mono ?_
      rintro e w1 ⟨rfl, rfl⟩
      go_wp2_with fail
      refine (HP.out _).mono ?_
      rintro e w2 ⟨rfl, hb2⟩
      cases P
      · go_wp2_with (go_at_call 122; refine (failUnless_t _).mono ?_; rintro e wx ⟨rfl, rfl⟩)
        go_ret
        exact ⟨rfl, hb2⟩
      · go_wp2_with (go_at_call 122; refine (failUnless_t _).mono ?_; rintro e wx ⟨rfl, rfl⟩)
        go_ret
        exact ⟨rfl, hb2⟩
    · have hnu : numO (toL D) = none := by unfold numO; rw [hu]; simp only; rw [if_neg (by rw [toL_len]; exact hl)]
      rw [hnu]
      have d3 : decide ((D.size : Int) ≤ 3) = false := decide_eq_false (by omega)
      clear hnu hu hlen
      go_enter Tryz.func126, Tryz.ntmps126
      go_wp2_with fail
      refine HC.out.mono ?_
      rintro e w1 ⟨rfl, rfl⟩
      go_wp2_with fail
      refine (HP.out _).mono ?_
      rintro e w2 ⟨rfl, hb2⟩
      go_wp2_with (go_at_call 122; refine (failUnless_f _).mono ?_; rintro e wx ⟨rfl, rfl⟩; unfold refE)
      all_goals first | exact ⟨rfl, rfl, hb2⟩ | exact ⟨rfl, by cases P <;> rfl, hb2⟩
  · have hnu : numO (toL D) = none := by
      unfold numO
      cases hp : Lib.parseUintB 64 (toL D)
      · exact absurd ⟨_, hp⟩ hok
      · rfl
      · rfl
    rw [hnu]
    have HP := Lib.hid (fun w hG => parse_err D w hlen hG (fun u h => hok ⟨u, h⟩))
    clear hnu hok hlen
    go_enter Tryz.func126, Tryz.ntmps126
    go_wp2_with fail
    refine HC.out.mono ?_
    rintro e w1 ⟨rfl, rfl⟩
    go_wp2_with fail
    refine (HP.out _ HG.out).mono ?_
    rintro e w2 ⟨⟨u, t, v, rfl⟩, hb2⟩
    go_wp2_with (go_at_call 122; refine (failUnless_f _).mono ?_; rintro e wx ⟨rfl, rfl⟩; unfold refE)
    all_goals first | exact ⟨rfl, rfl, hb2⟩ | exact ⟨rfl, by cases P <;> rfl, hb2⟩
end Go.Proofs.YtmondgcehgmamaaGreatDoor

namespace Go.Proofs.YtmondgcehgmamaaGreatDoor
set_option linter.unusedSimpArgs false
set_option linter.unusedVariables false
open Ieee
def stp (k : FloatKind) (z : Nat × Nat) : Nat × Nat := (divR k z.1 z.2, divI k z.1 z.2)
theorem pw_succ (k : FloatKind) (n : Nat) : pw k (n + 1) = stp k (pw k n) := rfl
def tabRun (f : Nat → Nat × Nat → Nat × Nat → Bool) : Nat → Nat → Nat × Nat → Nat × Nat → Bool
  | 0, _, _, _ => true
  | n + 1, k, z, w => f k z w && tabRun f n (k + 1) (stp .f32 z) (stp .f64 w)
theorem tab_all {f : Nat → Nat × Nat → Nat × Nat → Bool} : ∀ {n k : Nat}, tabRun f n k (pw .f32 k) (pw .f64 k) = true → ∀ j, j < n → f (k + j) (pw .f32 (k + j)) (pw .f64 (k + j)) = true
  | 0, _, _, j, hj => by omega
  | n + 1, k, h, j, hj => by
    rw [tabRun, Bool.and_eq_true] at h
    rcases Nat.eq_zero_or_pos j with rfl | hp
    · exact h.1
    · have := tab_all (f := f) (n := n) (k := k + 1) h.2 (j - 1) (by omega)
      rw [show k + 1 + (j - 1) = k + j by omega] at this
      exact this
/-- a word is subnormal -/
def subN (x : Nat) : Bool := x / 8388608 % 256 == 0 && x % 8388608 != 0
def chkSub (k : Nat) (z _w : Nat × Nat) : Bool := (subN z.1).toNat + (subN z.2).toNat == if 252 < k ∧ k < 299 then 1 + k % 2 else 0
theorem sub_tab : tabRun chkSub 321 0 (pw .f32 0) (pw .f64 0) = true := by decide +kernel
theorem sub_at {k : Nat} (h : k ≤ 320) : (subN (pw .f32 k).1).toNat + (subN (pw .f32 k).2).toNat = if 252 < k ∧ k < 299 then 1 + k % 2 else 0 := by
  have := tab_all sub_tab k (by omega)
  rw [Nat.zero_add] at this
  exact beq_iff_eq.1 this
def same (a b : Nat) : Bool := double.order a b == some .eq
def upW (x : Nat) : Nat := gd (floatToFloatBits .f32 x .f64)
def chkOne (k : Nat) (z w : Nat × Nat) : Bool := (decide (298 < k) || (same (upW z.1) w.1 && same (upW z.2) w.2)) && (decide (k < 299) || (same (upW z.1) 0 && same (upW z.2) 0 && single.order z.1 0 == some .eq && single.order z.2 0 == some .eq))
theorem one_tab : tabRun chkOne 321 0 (pw .f32 0) (pw .f64 0) = true := by decide +kernel
theorem one_at {k : Nat} (h : k ≤ 320) : chkOne k (pw .f32 k) (pw .f64 k) = true := by
  have := tab_all one_tab k (by omega)
  rw [Nat.zero_add] at this
  exact this
end Go.Proofs.YtmondgcehgmamaaGreatDoor

namespace Go.Proofs.YtmondgcehgmamaaGreatDoor
set_option linter.unusedSimpArgs false
set_option linter.unusedVariables false
open Go.RowKit

theorem f32bits_run (x : Nat) (w : World) : (Extern.MathFloatBits.float32bits #[.float .f32 x]).run Tryz.prog w = .ok (.int .u32 (x : Nat)) w := rfl
theorem u32_mask {a k : Nat} (ha : a < 4294967296) (hk : k ≤ 31) : bits .and .u32 (a : Int) ((2 ^ k - 1 : Nat) : Int) = ((a % 2 ^ k : Nat) : Int) := by
  have hp : 2 ^ k ≤ 2 ^ 31 := Nat.pow_le_pow_right (by omega) hk
  have e31 : (2 : Nat) ^ 31 = 2147483648 := by decide
  have h1 : (BitVec.ofInt 32 (a : Int)).toNat = a := by
    rw [BitVec.ofInt_natCast, BitVec.toNat_ofNat]; exact Nat.mod_eq_of_lt (by omega)
  have h2 : (BitVec.ofInt 32 ((2 ^ k - 1 : Nat) : Int)).toNat = 2 ^ k - 1 := by
    rw [BitVec.ofInt_natCast, BitVec.toNat_ofNat]; exact Nat.mod_eq_of_lt (by omega)
  show IntKind.u32.wrap ((BitVec.ofInt 32 (a : Int) &&& BitVec.ofInt 32 ((2 ^ k - 1 : Nat) : Int)).toNat : Int) = _
  rw [BitVec.toNat_and, h1, h2, Nat.and_two_pow_sub_one_eq_mod]
  have : a % 2 ^ k < 4294967296 := Nat.lt_of_le_of_lt (Nat.mod_le _ _) ha
  show ((a % 2 ^ k : Nat) : Int) % ((2 ^ 32 : Nat) : Int) = _
  omega
theorem retB {a b : Bool} (h : a = b) : Ending.returned (.bool a) = .returned (.bool b) := by rw [h]
set_option maxRecDepth 20000 in
theorem subnormal_c (x : Nat) (w : World) (hx : x < 4294967296) : Calls Tryz.prog 48 #[.float .f32 x] w fun e w' => e = .returned (.bool (subN x)) ∧ w = w' := by
  have e1 : bits .and .u32 ((x : Int) / 8388608) 255 = ((x / 8388608 % 256 : Nat) : Int) := u32_mask (a := x / 8388608) (k := 8) (by omega) (by omega)
  have e2 : bits .and .u32 (x : Int) 8388607 = ((x % 8388608 : Nat) : Int) := u32_mask (a := x) (k := 23) hx (by omega)
  by_cases h0 : x / 8388608 % 256 = 0
  · rw [h0] at e1
    have e1' : bits .and .u32 ((x : Int) / 8388608) 255 = 0 := e1
    have HS := Lib.hid (show subN x = (((x % 8388608 : Nat) : Int) != 0) by
      unfold subN; rw [h0]
      by_cases hz : x % 8388608 = 0
      · rw [hz]; rfl
      · have a : (x % 8388608 != 0) = true := by simp [hz]
        have b : (((x % 8388608 : Nat) : Int) != 0) = true := by simp; omega
        rw [a, b]; rfl)
    clear e1 h0
    go_enter Tryz.func48, Tryz.ntmps48
    go_wp2
    rw [run_callFunc_extern Tryz.func74 (by kernel_rfl) (by kernel_rfl) (by kernel_rfl) (e := Extern.MathFloatBits.float32bits) (by kernel_rfl), f32bits_run]
    simp only [Result.andThen]
    rw [Oper.upon_value]
    go_wp2
    go_ret
    exact ⟨retB HS.out.symm, rfl⟩
  · have e3 : (((x / 8388608 % 256 : Nat) : Int) == 0) = false := by simp; omega
    have HS := Lib.hid (show subN x = false by unfold subN; simp [h0])
    go_enter Tryz.func48, Tryz.ntmps48
    go_wp2
    rw [run_callFunc_extern Tryz.func74 (by kernel_rfl) (by kernel_rfl) (by kernel_rfl) (e := Extern.MathFloatBits.float32bits) (by kernel_rfl), f32bits_run]
    simp only [Result.andThen]
    rw [Oper.upon_value]
    go_wp2
    go_ret
    exact ⟨retB HS.out.symm, rfl⟩
end Go.Proofs.YtmondgcehgmamaaGreatDoor

namespace Go.Proofs.YtmondgcehgmamaaGreatDoor
set_option linter.unusedSimpArgs false
set_option linter.unusedVariables false
open Go.RowKit

theorem pw_lt (t : Nat) : (pw .f32 t).1 < 4294967296 ∧ (pw .f32 t).2 < 4294967296 := by
  cases t with
  | zero => decide
  | succ t =>
    obtain ⟨d, n, e, ⟨h1, h2, h3, h4, h5⟩, -⟩ := pw_div .f32 t
    exact ⟨Ieee.Format.div_lt _ h2, Ieee.Format.div_lt _ h5⟩
def cntP (a b : Bool) : Nat → Nat
  | 0 => 0
  | 1 => a.toNat
  | _ => a.toNat + b.toNat
theorem two_at (x y : Nat) (w : World) : (Instr.index 71 (.agg #[.float .f32 x, .float .f32 y]) (.int .i64 0)).run Tryz.prog w = .ok (.float .f32 x) w ∧ (Instr.index 71 (.agg #[.float .f32 x, .float .f32 y]) (.int .i64 1)).run Tryz.prog w = .ok (.float .f32 y) w := by
  constructor <;> simp [Instr.index, go_sem, Tryz.underlying71, Tryz.underlying38]
set_option maxRecDepth 100000 in
theorem parts_ff (x y : Nat) (w : World) (hX : ∀ w, Calls Tryz.prog 48 #[.float .f32 x] w fun e w' => e = .returned (.bool false) ∧ w = w') (hY : ∀ w, Calls Tryz.prog 48 #[.float .f32 y] w fun e w' => e = .returned (.bool false) ∧ w = w') : Calls Tryz.prog 23 #[.complex .f32 x y] w fun e w' => e = .returned (.int .i64 (cntP false false 2 : Nat)) ∧ w = w' := by
  have i0 := fun w => (two_at x y w).1
  have i1 := fun w => (two_at x y w).2
  go_enter Tryz.func23, Tryz.ntmps23
  go_wp2
  go_loopg [3, 11] 2 (fun m c i wr => ∃ j : Nat, j + m = 2 ∧ i = .int .i64 j ∧ wr = w ∧ c = .int .i64 (cntP false false j : Nat))
  case atStart => exact ⟨0, rfl, rfl, rfl, rfl⟩
  case round =>
    obtain ⟨j, hj, rfl, rfl, rfl⟩ := hrel
    obtain rfl | rfl | rfl : j = 0 ∨ j = 1 ∨ j = 2 := by omega
    · go_wp2_with (go_at_call 48; refine (hX _).mono ?_; rintro e w1 ⟨rfl, rfl⟩)
      go_roundg (gk - 1)
      case measure => omega
      case rel => exact ⟨1, by omega, rfl, rfl, by first | rfl | (congr 1; simp [cntP, wrap64]; done)⟩
    · go_wp2_with (go_at_call 48; refine (hY _).mono ?_; rintro e w1 ⟨rfl, rfl⟩)
      go_roundg (gk - 1)
      case measure => omega
      case rel => exact ⟨2, by omega, rfl, rfl, by first | rfl | (congr 1; simp [cntP, wrap64]; done)⟩
    · go_wp2
      go_ret
      exact ⟨rfl, rfl⟩
set_option maxRecDepth 100000 in
theorem parts_ft (x y : Nat) (w : World) (hX : ∀ w, Calls Tryz.prog 48 #[.float .f32 x] w fun e w' => e = .returned (.bool false) ∧ w = w') (hY : ∀ w, Calls Tryz.prog 48 #[.float .f32 y] w fun e w' => e = .returned (.bool true) ∧ w = w') : Calls Tryz.prog 23 #[.complex .f32 x y] w fun e w' => e = .returned (.int .i64 (cntP false true 2 : Nat)) ∧ w = w' := by
  have i0 := fun w => (two_at x y w).1
  have i1 := fun w => (two_at x y w).2
  go_enter Tryz.func23, Tryz.ntmps23
  go_wp2
  go_loopg [3, 11] 2 (fun m c i wr => ∃ j : Nat, j + m = 2 ∧ i = .int .i64 j ∧ wr = w ∧ c = .int .i64 (cntP false true j : Nat))
  case atStart => exact ⟨0, rfl, rfl, rfl, rfl⟩
  case round =>
    obtain ⟨j, hj, rfl, rfl, rfl⟩ := hrel
    obtain rfl | rfl | rfl : j = 0 ∨ j = 1 ∨ j = 2 := by omega
    · go_wp2_with (go_at_call 48; refine (hX _).mono ?_; rintro e w1 ⟨rfl, rfl⟩)
      go_roundg (gk - 1)
      case measure => omega
      case rel => exact ⟨1, by omega, rfl, rfl, by first | rfl | (congr 1; simp [cntP, wrap64]; done)⟩
    · go_wp2_with (go_at_call 48; refine (hY _).mono ?_; rintro e w1 ⟨rfl, rfl⟩)
      go_roundg (gk - 1)
      case measure => omega
      case rel => exact ⟨2, by omega, rfl, rfl, by first | rfl | (congr 1; simp [cntP, wrap64]; done)⟩
    · go_wp2
      go_ret
      exact ⟨rfl, rfl⟩
set_option maxRecDepth 100000 in
theorem parts_tf (x y : Nat) (w : World) (hX : ∀ w, Calls Tryz.prog 48 #[.float .f32 x] w fun e w' => e = .returned (.bool true) ∧ w = w') (hY : ∀ w, Calls Tryz.prog 48 #[.float .f32 y] w fun e w' => e = .returned (.bool false) ∧ w = w') : Calls Tryz.prog 23 #[.complex .f32 x y] w fun e w' => e = .returned (.int .i64 (cntP true false 2 : Nat)) ∧ w = w' := by
  have i0 := fun w => (two_at x y w).1
  have i1 := fun w => (two_at x y w).2
  go_enter Tryz.func23, Tryz.ntmps23
  go_wp2
  go_loopg [3, 11] 2 (fun m c i wr => ∃ j : Nat, j + m = 2 ∧ i = .int .i64 j ∧ wr = w ∧ c = .int .i64 (cntP true false j : Nat))
  case atStart => exact ⟨0, rfl, rfl, rfl, rfl⟩
  case round =>
    obtain ⟨j, hj, rfl, rfl, rfl⟩ := hrel
    obtain rfl | rfl | rfl : j = 0 ∨ j = 1 ∨ j = 2 := by omega
    · go_wp2_with (go_at_call 48; refine (hX _).mono ?_; rintro e w1 ⟨rfl, rfl⟩)
      go_roundg (gk - 1)
      case measure => omega
      case rel => exact ⟨1, by omega, rfl, rfl, by first | rfl | (congr 1; simp [cntP, wrap64]; done)⟩
    · go_wp2_with (go_at_call 48; refine (hY _).mono ?_; rintro e w1 ⟨rfl, rfl⟩)
      go_roundg (gk - 1)
      case measure => omega
      case rel => exact ⟨2, by omega, rfl, rfl, by first | rfl | (congr 1; simp [cntP, wrap64]; done)⟩
    · go_wp2
      go_ret
      exact ⟨rfl, rfl⟩
set_option maxRecDepth 100000 in
theorem parts_tt (x y : Nat) (w : World) (hX : ∀ w, Calls Tryz.prog 48 #[.float .f32 x] w fun e w' => e = .returned (.bool true) ∧ w = w') (hY : ∀ w, Calls Tryz.prog 48 #[.float .f32 y] w fun e w' => e = .returned (.bool true) ∧ w = w') : Calls Tryz.prog 23 #[.complex .f32 x y] w fun e w' => e = .returned (.int .i64 (cntP true true 2 : Nat)) ∧ w = w' := by
  have i0 := fun w => (two_at x y w).1
  have i1 := fun w => (two_at x y w).2
  go_enter Tryz.func23, Tryz.ntmps23
  go_wp2
  go_loopg [3, 11] 2 (fun m c i wr => ∃ j : Nat, j + m = 2 ∧ i = .int .i64 j ∧ wr = w ∧ c = .int .i64 (cntP true true j : Nat))
  case atStart => exact ⟨0, rfl, rfl, rfl, rfl⟩
  case round =>
    obtain ⟨j, hj, rfl, rfl, rfl⟩ := hrel
    obtain rfl | rfl | rfl : j = 0 ∨ j = 1 ∨ j = 2 := by omega
    · go_wp2_with (go_at_call 48; refine (hX _).mono ?_; rintro e w1 ⟨rfl, rfl⟩)
      go_roundg (gk - 1)
      case measure => omega
      case rel => exact ⟨1, by omega, rfl, rfl, by first | rfl | (congr 1; simp [cntP, wrap64]; done)⟩
    · go_wp2_with (go_at_call 48; refine (hY _).mono ?_; rintro e w1 ⟨rfl, rfl⟩)
      go_roundg (gk - 1)
      case measure => omega
      case rel => exact ⟨2, by omega, rfl, rfl, by first | rfl | (congr 1; simp [cntP, wrap64]; done)⟩
    · go_wp2
      go_ret
      exact ⟨rfl, rfl⟩
theorem partsSmall_c (x y : Nat) (w : World) (hx : x < 4294967296) (hy : y < 4294967296) : Calls Tryz.prog 23 #[.complex .f32 x y] w fun e w' => e = .returned (.int .i64 (((subN x).toNat + (subN y).toNat : Nat) : Int)) ∧ w = w' := by
  have hX := fun w => subnormal_c x w hx
  have hY := fun w => subnormal_c y w hy
  generalize subN x = a at *
  generalize subN y = b at *
  cases a <;> cases b
  · exact parts_ff x y w hX hY
  · exact parts_ft x y w hX hY
  · exact parts_tf x y w hX hY
  · exact parts_tt x y w hX hY
end Go.Proofs.YtmondgcehgmamaaGreatDoor

namespace Go.Proofs.YtmondgcehgmamaaGreatDoor
set_option linter.unusedSimpArgs false
set_option linter.unusedVariables false
open Go.RowKit

theorem mustW_t (x y : Nat) (w : World) : Calls Tryz.prog 128 #[.complex .f64 x y, .bool true] w fun e w' => e = .returned (.complex .f64 x y) ∧ w' = w := by
  go_enter Tryz.func128, Tryz.ntmps128
  go_wp2_with (go_at_call 122; refine (failUnless_t _).mono ?_; rintro e w1 ⟨rfl, rfl⟩)
  go_ret
  exact ⟨rfl, rfl⟩
def chkLike (k : Nat) (z w : Nat × Nat) : Bool := (same (upW z.1) w.1 && same (upW z.2) w.2) == decide (k < 299)
theorem like_tab : tabRun chkLike 321 0 (pw .f32 0) (pw .f64 0) = true := by decide +kernel
theorem like_at {t : Nat} (h : t ≤ 320) {X Y : Nat} (h1 : floatToFloatBits .f32 (pw .f32 t).1 .f64 = some X) (h2 : floatToFloatBits .f32 (pw .f32 t).2 .f64 = some Y) :
    (same X (pw .f64 t).1 && same Y (pw .f64 t).2) = decide (t < 299) := by
  have := tab_all like_tab t (by omega)
  rw [Nat.zero_add] at this
  unfold chkLike at this
  have e1 : upW (pw .f32 t).1 = X := by unfold upW gd; rw [h1]; rfl
  have e2 : upW (pw .f32 t).2 = Y := by unfold upW gd; rw [h2]; rfl
  rw [e1, e2] at this
  exact beq_iff_eq.1 this
theorem ceqW (t : TypeId) (a b c d : Nat) (w : World) : (binOp .eql t (.complex .f64 a b) (.complex .f64 c d)).run Tryz.prog w = .ok (.bool (same a c && same b d)) w := by
  simp [binOp, Op.complexOp, Op.Complex.cmp, Op.floatCmp, same, asBool]
  rfl
def sameB : ByteArray := ⟨#[115, 97, 109, 101]⟩
def otherB : ByteArray := ⟨#[111, 116, 104, 101, 114]⟩
def partsN (t : Nat) : Nat := (subN (pw .f32 t).1).toNat + (subN (pw .f32 t).2).toNat
def likeB (t : Nat) : ByteArray := if t < 299 then sameB else otherB
def placeB (t : Nat) : ByteArray := bs (Lib.itoa (partsN t : Int)) ++ (⟨#[32]⟩ : ByteArray) ++ likeB t
def placeO : Option Int → Option ByteArray
  | some k => if inR 0 320 k then some (placeB k.toNat) else none
  | none => none
set_option maxRecDepth 100000 in
set_option maxHeartbeats 1000000 in
theorem place_c (b : Nat) (d c rest : ByteArray) (w : World) (hr : rest.size ≤ 281474976710656) (hG : Gx w) (hS : Sess b d c w) : Calls Tryz.prog 85 #[.pointer (some ⟨b, 0, none⟩), .string rest] w (CmdPost b (placeO (decO (toL rest))) d c w) := by
  have HS := Lib.hid hS
  have HG := Lib.hid hG
  have HD := Lib.hid (decimal_c rest w hr hG)
  clear hS hG
  cases hk : decO (toL rest) with
  | none =>
    rw [hk] at HD
    go_enter Tryz.func85, Tryz.ntmps85
    go_wp2_with fail
    refine HD.out.mono ?_
    rintro e w1 ⟨rfl, hb1⟩
    have HS1 := Lib.hid (HS.out.keep hb1)
    have HB1 := Lib.hid (grw_below (b := b) hb1)
    clear hb1
    dsimp only [decE, refE]
    go_wp2_with fail
    exact ⟨rfl, rfl, HS1.out, HB1.out⟩
  | some k =>
    rw [hk] at HD
    rcases Bool.eq_false_or_eq_true (inR 0 320 k) with h1 | h1
    · obtain ⟨t, rfl⟩ : ∃ t : Nat, k = t := ⟨k.toNat, by simp [inR] at h1; omega⟩
      have ht : t ≤ 320 := by simp [inR] at h1; omega
      have HO := Lib.hid (show placeO (some (t : Int)) = some (bs (Lib.itoa (partsN t : Int)) ++ (⟨#[32]⟩ : ByteArray) ++ likeB t) by unfold placeO; simp only [h1]; rfl)
      obtain ⟨X, Y, u1, u2, -, -⟩ := pt_upS (pw_pt .f32 t) (by omega)
      have hL := like_at ht u1 u2
      obtain ⟨p1, p2⟩ := pw_lt t
      have V32 : powV .f32 (t : Int) = .tuple #[.complex .f32 (pw .f32 t).1 (pw .f32 t).2, .bool true] := powV_yes h1
      have V64 : powV .f64 (t : Int) = .tuple #[.complex .f64 (pw .f64 t).1 (pw .f64 t).2, .bool true] := powV_yes h1
      have HI := Lib.hid (fun w => iPowerSingle_c (t : Int) w)
      have HW := Lib.hid (fun w => iPowerWide_c (t : Int) w)
      rw [V32] at HI
      rw [V64] at HW
      have HP := Lib.hid (fun w => partsSmall_c (pw .f32 t).1 (pw .f32 t).2 w p1 p2)
      have hpn : partsN t ≤ 2 := by unfold partsN; cases subN (pw .f32 t).1 <;> cases subN (pw .f32 t).2 <;> decide
      have HIt := Lib.hid (fun w hG => itoa_c (partsN t : Int) w (by omega) (by omega) hG)
      have hlT : (bs (Lib.itoa (partsN t : Int))).size ≤ 4 := by rw [← toL_len, toL_bs]; have := itoa_len (partsN t : Int); omega
      change Hid (∀ w, Calls _ _ _ w fun e w' => e = .returned (.int .i64 ((partsN t : Nat) : Int)) ∧ w = w') at HP
      clear V32 V64 h1 p1 p2 hk
      generalize bs (Lib.itoa (partsN t : Int)) = T at *
      generalize partsN t = n at *
      generalize (pw .f32 t).1 = x at *
      generalize (pw .f32 t).2 = y at *
      generalize (pw .f64 t).1 = X' at *
      generalize (pw .f64 t).2 = Y' at *
      have f1 := convP_c Tryz.underlying32 Tryz.underlying70 u1 u2
      have f2 := fun w t => ceqW t X Y X' Y' w
      rw [hL] at f2
      clear hL u1 u2
      go_enter Tryz.func85, Tryz.ntmps85
      go_wp2_with fail
      refine HD.out.mono ?_
      rintro e w1 ⟨rfl, hb1⟩
      have HS1 := Lib.hid (HS.out.keep hb1)
      have HG1 := Lib.hid (HG.out.below hb1)
      have HB1 := Lib.hid (grw_below (b := b) hb1)
      clear hb1
      dsimp only [decE]
      by_cases h299 : t < 299
      · have e1 : likeB t = sameB := by unfold likeB; rw [if_pos h299]
        rw [e1] at HO
        have hd : decide (t < 299) = true := decide_eq_true h299
        rw [hd] at f2
        clear hd
        go_wp2_with (first | (go_at_call 20; refine (HI.out _).mono ?_; rintro e w1 ⟨rfl, rfl⟩) | (go_at_call 129; refine (HW.out _).mono ?_; rintro e w1 ⟨rfl, rfl⟩) | (go_at_call 127; refine (mustC_t _ _ _).mono ?_; rintro e wx ⟨rfl, rfl⟩) | (go_at_call 128; refine (mustW_t _ _ _).mono ?_; rintro e wx ⟨rfl, rfl⟩) | (go_at_call 23; refine (HP.out _).mono ?_; rintro e w1 ⟨rfl, rfl⟩))
        refine (HIt.out _ HG1.out).mono ?_
        rintro e w2 ⟨rfl, hb2⟩
        have HS2 := Lib.hid (HS1.out.keep hb2)
        have HB2 := Lib.hid (grw_trans HB1.out (grw_below (b := b) hb2))
        clear hb2
        go_wp2_with fail
        go_ret
        exact ⟨by rw [HO.out]; rfl, HS2.out, HB2.out⟩
      · have e1 : likeB t = otherB := by unfold likeB; rw [if_neg h299]
        rw [e1] at HO
        have hd : decide (t < 299) = false := decide_eq_false h299
        rw [hd] at f2
        clear hd
        go_wp2_with (first | (go_at_call 20; refine (HI.out _).mono ?_; rintro e w1 ⟨rfl, rfl⟩) | (go_at_call 129; refine (HW.out _).mono ?_; rintro e w1 ⟨rfl, rfl⟩) | (go_at_call 127; refine (mustC_t _ _ _).mono ?_; rintro e wx ⟨rfl, rfl⟩) | (go_at_call 128; refine (mustW_t _ _ _).mono ?_; rintro e wx ⟨rfl, rfl⟩) | (go_at_call 23; refine (HP.out _).mono ?_; rintro e w1 ⟨rfl, rfl⟩))
        refine (HIt.out _ HG1.out).mono ?_
        rintro e w2 ⟨rfl, hb2⟩
        have HS2 := Lib.hid (HS1.out.keep hb2)
        have HB2 := Lib.hid (grw_trans HB1.out (grw_below (b := b) hb2))
        clear hb2
        go_wp2_with fail
        go_ret
        exact ⟨by rw [HO.out]; rfl, HS2.out, HB2.out⟩
    · have V32 : powV .f32 k = .tuple #[.complex .f32 0 0, .bool false] := powV_no h1
      have HO := Lib.hid (show placeO (some k) = none by unfold placeO; simp only [h1]; rfl)
      have HI := Lib.hid (fun w => iPowerSingle_c k w)
      rw [V32] at HI
      clear V32 h1 hk
      go_enter Tryz.func85, Tryz.ntmps85
      go_wp2_with fail
      refine HD.out.mono ?_
      rintro e w1 ⟨rfl, hb1⟩
      have HS1 := Lib.hid (HS.out.keep hb1)
      have HB1 := Lib.hid (grw_below (b := b) hb1)
      clear hb1
      dsimp only [decE]
      go_wp2_with (first | (go_at_call 20; refine (HI.out _).mono ?_; rintro e w1 ⟨rfl, rfl⟩) | (go_at_call 127; refine (mustC_f _ _ _).mono ?_; rintro e wx ⟨rfl, rfl⟩; unfold refE))
      exact ⟨rfl, by rw [HO.out]; rfl, HS1.out, HB1.out⟩
end Go.Proofs.YtmondgcehgmamaaGreatDoor
