/- Binary floats as whole numbers of the format's least unit: what rounding gives, and reads back as. No law is stated here. -/
import Derived.WalkKit
import Derived.Laws.ComplexArith
namespace Go.Proofs.YtmdnfamjdogogaaDoor
set_option linter.unusedSimpArgs false
set_option linter.unusedVariables false
open Ieee
/-- n over 2 to the power of p, rounded to the nearest, between two the even one -/
def rnd (n p : Nat) : Nat := n / 2 ^ p + (decide (2 ^ p < 2 * (n % 2 ^ p)) || (2 ^ p == 2 * (n % 2 ^ p) && n / 2 ^ p % 2 == 1)).toNat
theorem cut_rnd (s : Bool) (n p : Nat) : Toward.even.cut s n p = rnd n p := by
  unfold Toward.cut rnd
  simp only [Nat.one_shiftLeft]
  rcases Nat.le_total p (n.log2 + 2) with h | h
  · rw [Nat.min_eq_left h]
  · rw [Nat.min_eq_right h]
    have h1 : n < 2 ^ (n.log2 + 1) := Nat.lt_log2_self
    have h2 : 2 ^ (n.log2 + 2) = 2 * 2 ^ (n.log2 + 1) := by rw [Nat.pow_succ]; omega
    have h3 : 2 ^ (n.log2 + 2) ≤ 2 ^ p := Nat.pow_le_pow_right (by omega) h
    rw [Nat.div_eq_of_lt (by omega), Nat.mod_eq_of_lt (by omega), Nat.div_eq_of_lt (a := n) (b := 2 ^ p) (by omega), Nat.mod_eq_of_lt (a := n) (b := 2 ^ p) (by omega)]
    have e1 : decide (2 ^ (n.log2 + 2) < 2 * n) = false := by simp; omega
    have e2 : decide (2 ^ p < 2 * n) = false := by simp; omega
    simp [e1, e2]
theorem rnd_none (n : Nat) : rnd n 0 = n := by
  simp [rnd, Nat.mod_one]
theorem rnd_scale (n p t : Nat) : rnd (n * 2 ^ t) (p + t) = rnd n p := by
  unfold rnd
  have hp := Nat.two_pow_pos t
  rw [Nat.pow_add, Nat.mul_div_mul_right _ _ hp, Nat.mul_mod_mul_right]
  generalize n % 2 ^ p = r
  generalize 2 ^ p = g
  have e : 2 * (r * 2 ^ t) = (2 * r) * 2 ^ t := by rw [Nat.mul_assoc]
  have e1 : decide (g * 2 ^ t < 2 * (r * 2 ^ t)) = decide (g < 2 * r) := by
    rw [e]; exact decide_eq_decide.2 (Nat.mul_lt_mul_right hp)
  have e2 : (g * 2 ^ t == 2 * (r * 2 ^ t)) = (g == 2 * r) := by
    rw [e]
    rw [Bool.eq_iff_iff]
    simp only [beq_iff_eq]
    exact ⟨fun h => Nat.eq_of_mul_eq_mul_right hp h, fun h => by rw [h]⟩
  rw [e1, e2]
theorem rnd_exact (k p : Nat) : rnd (k * 2 ^ p) p = k := by
  have := rnd_scale k 0 p
  rw [Nat.zero_add, rnd_none] at this
  exact this
theorem rnd_le {n p M : Nat} (h : n ≤ M * 2 ^ p) : rnd n p ≤ M := by
  have hp := Nat.two_pow_pos p
  have h1 : n / 2 ^ p ≤ M := Nat.div_le_of_le_mul (by rw [Nat.mul_comm]; exact h)
  unfold rnd
  rcases Nat.lt_or_eq_of_le h1 with h2 | h2
  · have := Bool.toNat_le (decide (2 ^ p < 2 * (n % 2 ^ p)) || (2 ^ p == 2 * (n % 2 ^ p) && n / 2 ^ p % 2 == 1))
    omega
  · have h3 := Nat.div_add_mod n (2 ^ p)
    rw [h2, Nat.mul_comm] at h3
    have h4 : n % 2 ^ p = 0 := by omega
    rw [h4, h2]
    have e : (2 ^ p == 2 * 0) = false := by simp
    simp [e]
theorem rnd_ge {n p M : Nat} (h : M * 2 ^ p ≤ n) : M ≤ rnd n p := by
  have h1 : M ≤ n / 2 ^ p := (Nat.le_div_iff_mul_le (Nat.two_pow_pos p)).2 h
  unfold rnd
  omega
theorem log2_scale {n : Nat} (h : n ≠ 0) (t : Nat) : (n * 2 ^ t).log2 = n.log2 + t := by
  rw [Nat.log2_eq_iff (Nat.mul_ne_zero h (Nat.ne_of_gt (Nat.two_pow_pos t)))]
  refine ⟨?_, ?_⟩
  · rw [Nat.pow_add]; exact Nat.mul_le_mul_right _ (Nat.log2_self_le h)
  · rw [show n.log2 + t + 1 = (n.log2 + 1) + t by omega, Nat.pow_add]
    exact (Nat.mul_lt_mul_right (Nat.two_pow_pos t)).2 Nat.lt_log2_self
theorem nearest_zero (f : Format) (s : Bool) (p : Int) : f.nearest s 0 p = f.word s 0 := by simp [Format.nearest]
theorem nearest_shift (f : Format) (s : Bool) (m t : Nat) (p : Int) : f.nearest s (m * 2 ^ t) (p - t) = f.nearest s m p := by
  rcases Nat.eq_zero_or_pos m with rfl | hm
  · rw [Nat.zero_mul, nearest_zero, nearest_zero]
  have hm0 : m ≠ 0 := by omega
  have hmt : m * 2 ^ t ≠ 0 := Nat.mul_ne_zero hm0 (Nat.ne_of_gt (Nat.two_pow_pos t))
  unfold Format.nearest
  rw [if_neg hm0, if_neg hmt]
  simp only [log2_scale hm0, cut_rnd, Nat.shiftLeft_eq]
  have e : max (p - (t : Int) + ((m.log2 + t : Nat) : Int) - (f.fractionBits : Int)) f.leastPlace = max (p + (m.log2 : Int) - (f.fractionBits : Int)) f.leastPlace := by omega
  rw [e]
  generalize max (p + (m.log2 : Int) - (f.fractionBits : Int)) f.leastPlace = last
  have k : rnd (m * 2 ^ t * 2 ^ (p - (t : Int) - last).toNat) (last - (p - (t : Int))).toNat = rnd (m * 2 ^ (p - last).toNat) (last - p).toNat := by
    by_cases c1 : last ≤ p - t
    · rw [show (last - (p - (t : Int))).toNat = 0 by omega, show (last - p).toNat = 0 by omega, rnd_none, rnd_none, Nat.mul_assoc, ← Nat.pow_add, show t + (p - (t : Int) - last).toNat = (p - last).toNat by omega]
    · by_cases c2 : last ≤ p
      · rw [show (p - (t : Int) - last).toNat = 0 by omega, show (last - p).toNat = 0 by omega, rnd_none, Nat.pow_zero, Nat.mul_one]
        have e3 : t = (p - last).toNat + (last - (p - (t : Int))).toNat := by omega
        generalize (last - (p - (t : Int))).toNat = a at e3
        rw [e3, Nat.pow_add, ← Nat.mul_assoc, rnd_exact]
      · rw [show (p - (t : Int) - last).toNat = 0 by omega, show (p - last).toNat = 0 by omega, Nat.pow_zero, Nat.mul_one, Nat.mul_one, show (last - (p - (t : Int))).toNat = (last - p).toNat + t by omega, rnd_scale]
  rw [k]
/-- the number of units that a number of 2 to the power of -u units is rounded to -/
def dropU (f : Format) (u V : Nat) : Nat := max (V.log2 - f.fractionBits) u
def rndU (f : Format) (u V : Nat) : Nat := rnd V (dropU f u V) * 2 ^ (dropU f u V - u)
theorem nearest_eq (f : Format) (s : Bool) {V : Nat} (hV : V ≠ 0) (u : Nat) {p : Int} (hp : p + u = f.leastPlace) :
    f.nearest s V p = f.word s (min ((dropU f u V - u) * f.binade + rnd V (dropU f u V)) f.infRung) := by
  unfold Format.nearest dropU
  rw [if_neg hV]
  have e : max (p + (V.log2 : Int) - (f.fractionBits : Int)) f.leastPlace = p + ((max (V.log2 - f.fractionBits) u : Nat) : Int) := by omega
  simp only [e, cut_rnd, Nat.shiftLeft_eq]
  generalize max (V.log2 - f.fractionBits) u = d
  rw [show (p - (p + (d : Int))).toNat = 0 by omega, show (p + (d : Int) - p).toNat = d by omega, show (p + (d : Int) - f.leastPlace).toNat = d - u by omega, Nat.pow_zero, Nat.mul_one]
theorem infRung_le (f : Format) : f.infRung ≤ f.signWeight := Nat.le_of_lt (Format.infRung_lt f)
theorem read_word (f : Format) (s : Bool) {r : Nat} (h : r < f.infRung) :
    f.read (f.word s r) = if r < f.binade then .number s r f.leastPlace else .number s (f.binade + r % f.binade) (f.leastPlace + (r / f.binade - 1 : Nat)) := by
  have hw := infRung_le f
  have hpos : 0 < f.signWeight := by omega
  have e1 : (f.word s r / f.signWeight % 2 == 1) = s := by
    cases s
    · show (r / f.signWeight % 2 == 1) = false
      rw [Nat.div_eq_of_lt (by omega)]; rfl
    · show ((f.signWeight + r) / f.signWeight % 2 == 1) = true
      rw [Nat.add_div_left _ hpos, Nat.div_eq_of_lt (by omega)]; rfl
  have e2 : f.word s r % f.signWeight = r := by
    cases s
    · show r % f.signWeight = r
      exact Nat.mod_eq_of_lt (by omega)
    · show (f.signWeight + r) % f.signWeight = r
      rw [Nat.add_mod_left]; exact Nat.mod_eq_of_lt (by omega)
  unfold Format.read
  simp only [e1, e2, if_pos h]
/-- a word that stands for V units, of a sign -/
def Fl (f : Format) (x : Nat) (s : Bool) (V : Nat) : Prop := ∃ m k : Nat, f.read x = .number s m (f.leastPlace + (k : Int)) ∧ m * 2 ^ k = V ∧ m < 2 ^ (f.fractionBits + 1)
theorem binade_pos (f : Format) : 0 < f.binade := Nat.two_pow_pos _
theorem fl_word (f : Format) (s : Bool) {e k : Nat} (hk : k ≤ 2 * f.binade) (he : e = 0 ∨ f.binade ≤ k) (hr : e + 2 < 2 ^ f.exponentBits - 1) :
    e * f.binade + k < f.infRung ∧ Fl f (f.word s (e * f.binade + k)) s (k * 2 ^ e) := by
  have hb := binade_pos f
  have h2 : 2 ^ (f.fractionBits + 1) = 2 * f.binade := by rw [Nat.pow_succ, Nat.mul_comm]; rfl
  have hi : e * f.binade + k < f.infRung := by
    have h1 : (e + 2) * f.binade < f.infRung := (Nat.mul_lt_mul_right hb).2 hr
    rw [Nat.add_mul] at h1
    omega
  refine ⟨hi, ?_⟩
  unfold Fl
  rw [read_word f s hi, h2]
  generalize f.binade = B at *
  by_cases c : e * B + k < B
  · have e0 : e = 0 := by
      rcases he with h | h
      · exact h
      · have := Nat.zero_le (e * B); omega
    subst e0
    rw [if_pos c]
    exact ⟨0 * B + k, 0, by simp, by simp, by omega⟩
  · rw [if_neg c]
    by_cases c2 : k = 2 * B
    · subst c2
      have q : (e * B + 2 * B) / B = e + 2 := by rw [← Nat.add_mul]; exact Nat.mul_div_cancel _ hb
      have q2 : (e * B + 2 * B) % B = 0 := by rw [← Nat.add_mul]; exact Nat.mul_mod_left _ _
      refine ⟨B, e + 1, ?_, ?_, by omega⟩
      · rw [q, q2]; congr 1
      · rw [Nat.pow_succ]; ac_rfl
    · have kB : B ≤ k := by
        rcases he with h | h
        · subst h; omega
        · exact h
      obtain ⟨j, rfl⟩ : ∃ j, k = B + j := ⟨k - B, by omega⟩
      have e3 : e * B + (B + j) = j + B * (e + 1) := by rw [Nat.mul_add, Nat.mul_comm e B]; omega
      have q : (e * B + (B + j)) / B = e + 1 := by rw [e3, Nat.add_mul_div_left _ _ hb, Nat.div_eq_of_lt (by omega)]; omega
      have q2 : (e * B + (B + j)) % B = j := by rw [e3, Nat.add_mul_mod_self_left, Nat.mod_eq_of_lt (by omega)]
      refine ⟨B + j, e, ?_, rfl, by omega⟩
      rw [q, q2]; congr 1
theorem fl_zero (f : Format) (s : Bool) (hb : f.binade ≤ f.infRung) : Fl f (f.word s 0) s 0 := by
  have := binade_pos f
  refine ⟨0, 0, ?_, by simp, Nat.two_pow_pos _⟩
  rw [read_word f s (by omega), if_pos (by omega)]
  simp
theorem rnd_top (f : Format) (u V : Nat) : rnd V (dropU f u V) ≤ 2 * f.binade := by
  apply rnd_le
  have h1 : V < 2 ^ (V.log2 + 1) := Nat.lt_log2_self
  have h2 : 2 ^ (V.log2 + 1) ≤ 2 ^ (f.fractionBits + 1 + dropU f u V) := Nat.pow_le_pow_right (by omega) (by unfold dropU; omega)
  have h3 : 2 ^ (f.fractionBits + 1 + dropU f u V) = 2 * f.binade * 2 ^ dropU f u V := by
    rw [Nat.pow_add, Nat.pow_succ, Nat.mul_comm (2 ^ f.fractionBits) 2]; rfl
  omega
theorem rnd_bottom (f : Format) {u V : Nat} (hV : V ≠ 0) (h : u < dropU f u V) : f.binade ≤ rnd V (dropU f u V) := by
  apply rnd_ge
  have h1 : 2 ^ V.log2 ≤ V := Nat.log2_self_le hV
  have h2 : 2 ^ (f.fractionBits + dropU f u V) ≤ 2 ^ V.log2 := Nat.pow_le_pow_right (by omega) (by unfold dropU at *; omega)
  rw [Nat.pow_add] at h2
  exact Nat.le_trans h2 h1
theorem fl_nearest (f : Format) (s : Bool) (V u : Nat) {p : Int} (hp : p + u = f.leastPlace) (hl : dropU f u V - u + 2 < 2 ^ f.exponentBits - 1) :
    Fl f (f.nearest s V p) s (rndU f u V) := by
  by_cases hV : V = 0
  · subst hV
    rw [nearest_zero]
    have e : rndU f u 0 = 0 := by
      unfold rndU
      have : rnd 0 (dropU f u 0) ≤ 0 := rnd_le (by omega)
      rw [Nat.le_zero.1 this, Nat.zero_mul]
    rw [e]
    refine fl_zero f s ?_
    show f.binade ≤ (2 ^ f.exponentBits - 1) * f.binade
    exact Nat.le_mul_of_pos_left _ (by omega)
  · rw [nearest_eq f s hV u hp]
    have h := fl_word f s (e := dropU f u V - u) (rnd_top f u V) (by
      by_cases c : u < dropU f u V
      · exact .inr (rnd_bottom f hV c)
      · exact .inl (by omega)) hl
    rw [Nat.min_eq_left (Nat.le_of_lt h.1)]
    exact h.2
/-- representable -/
def Rep (f : Format) (c : Nat) : Prop := ∃ d, 2 ^ d ∣ c ∧ c < 2 ^ (f.fractionBits + 1 + d)
theorem rep_small {f : Format} {c : Nat} (h : c < 2 ^ (f.fractionBits + 1)) : Rep f c := ⟨0, by simp, by simpa using h⟩
theorem rep_scale {f : Format} {c : Nat} (h : Rep f c) (t : Nat) : Rep f (c * 2 ^ t) := by
  obtain ⟨d, h1, h2⟩ := h
  refine ⟨d + t, ?_, ?_⟩
  · rw [Nat.pow_add]; exact Nat.mul_dvd_mul_right h1 _
  · rw [← Nat.add_assoc, Nat.pow_add]; exact (Nat.mul_lt_mul_right (Nat.two_pow_pos t)).2 h2
theorem fl_rep {f : Format} {x : Nat} {s : Bool} {V : Nat} (h : Fl f x s V) : Rep f V := by
  obtain ⟨m, k, _, rfl, h⟩ := h
  exact rep_scale (rep_small h) k
theorem drop_le {f : Format} {u V d : Nat} (hV : V ≠ 0) (hu : u ≤ d) (h : V < 2 ^ (f.fractionBits + 1 + d)) : dropU f u V ≤ d := by
  have := (Nat.log2_lt hV).2 h
  unfold dropU
  omega
theorem rndU_exact {f : Format} {u c : Nat} (h : Rep f c) : rndU f u (c * 2 ^ u) = c := by
  by_cases hc : c = 0
  · subst hc
    rw [Nat.zero_mul]
    unfold rndU
    have : rnd 0 (dropU f u 0) ≤ 0 := rnd_le (by omega)
    rw [Nat.le_zero.1 this, Nat.zero_mul]
  obtain ⟨d, ⟨b, rfl⟩, h2⟩ := h
  have hn : 2 ^ d * b * 2 ^ u ≠ 0 := Nat.mul_ne_zero hc (Nat.ne_of_gt (Nat.two_pow_pos u))
  have hd : dropU f u (2 ^ d * b * 2 ^ u) ≤ d + u := drop_le hn (by omega) (by
    rw [← Nat.add_assoc, Nat.pow_add]; exact (Nat.mul_lt_mul_right (Nat.two_pow_pos u)).2 h2)
  have hd2 : u ≤ dropU f u (2 ^ d * b * 2 ^ u) := by unfold dropU; omega
  unfold rndU
  generalize dropU f u (2 ^ d * b * 2 ^ u) = D at hd hd2
  obtain ⟨a, rfl⟩ : ∃ a, D = u + a := ⟨D - u, by omega⟩
  obtain ⟨c, rfl⟩ : ∃ c, d = a + c := ⟨d - a, by omega⟩
  have e : 2 ^ (a + c) * b * 2 ^ u = 2 ^ c * b * 2 ^ (u + a) := by
    rw [Nat.pow_add, Nat.pow_add]; ac_rfl
  rw [e, rnd_exact, show u + a - u = a by omega, Nat.pow_add]
  ac_rfl
theorem rndU_zero (f : Format) (u : Nat) : rndU f u 0 = 0 := by
  have := rndU_exact (f := f) (u := u) (c := 0) ⟨0, by simp, Nat.two_pow_pos _⟩
  rwa [Nat.zero_mul] at this
theorem rndU_le {f : Format} {u V M : Nat} (hM : Rep f M) (h : V ≤ M * 2 ^ u) : rndU f u V ≤ M := by
  by_cases hV : V = 0
  · subst hV
    rw [rndU_zero]; omega
  obtain ⟨d, ⟨b, rfl⟩, h2⟩ := hM
  have hd : dropU f u V ≤ d + u := drop_le hV (by omega) (by
    rw [← Nat.add_assoc, Nat.pow_add]
    exact Nat.lt_of_le_of_lt h ((Nat.mul_lt_mul_right (Nat.two_pow_pos u)).2 h2))
  have hd2 : u ≤ dropU f u V := by unfold dropU; omega
  unfold rndU
  generalize dropU f u V = D at hd hd2
  obtain ⟨a, rfl⟩ : ∃ a, D = u + a := ⟨D - u, by omega⟩
  obtain ⟨c, rfl⟩ : ∃ c, d = a + c := ⟨d - a, by omega⟩
  have e : 2 ^ (a + c) * b * 2 ^ u = 2 ^ c * b * 2 ^ (u + a) := by
    rw [Nat.pow_add, Nat.pow_add]; ac_rfl
  rw [e] at h
  have := rnd_le h
  rw [show u + a - u = a by omega, Nat.pow_add]
  calc rnd V (u + a) * 2 ^ a ≤ 2 ^ c * b * 2 ^ a := Nat.mul_le_mul_right _ this
    _ = 2 ^ a * 2 ^ c * b := by ac_rfl
theorem drop_lim {f : Format} {u V M : Nat} (h : V < 2 ^ (f.fractionBits + 1 + u + M)) : dropU f u V - u ≤ M := by
  by_cases hV : V = 0
  · subst hV
    unfold dropU
    rw [Nat.log2_zero]
    omega
  · have := drop_le (f := f) (u := u) (V := V) (d := u + M) hV (by omega) (by rwa [← Nat.add_assoc])
    omega
/-- the whole number that a sign and a size stand for -/
def sg (s : Bool) (V : Nat) : Int := if s then -(V : Int) else V
theorem sg_abs (s : Bool) (V : Nat) : (sg s V).natAbs = V := by cases s <;> simp [sg]
theorem signed_sg (s : Bool) (m k : Nat) : signed s m k = sg s (m * 2 ^ k) := by
  unfold signed sg; rw [Nat.shiftLeft_eq]
theorem sg_scale (s : Bool) (m k : Nat) : sg s (m * 2 ^ k) = sg s m * 2 ^ k := by
  cases s <;> simp [sg, Int.neg_mul]
/-- the word of a sum -/
def sumW (f : Format) (s : Bool) (V : Nat) (t : Bool) (W : Nat) : Nat :=
  f.nearest (if sg s V + sg t W = 0 then s && t else decide (sg s V + sg t W < 0)) (sg s V + sg t W).natAbs f.leastPlace
theorem sum_write {f : Format} {s t : Bool} {m n i j : Nat} :
    ((Datum.number s m (f.leastPlace + (i : Int))).sum (.number t n (f.leastPlace + (j : Int)))).map f.write = some (sumW f s (m * 2 ^ i) t (n * 2 ^ j)) := by
  unfold Datum.sum
  have hb : min (f.leastPlace + (i : Int)) (f.leastPlace + (j : Int)) = f.leastPlace + ((min i j : Nat) : Int) := by omega
  simp only [hb, Option.map_some, Format.write, signed_sg]
  rw [show (f.leastPlace + (i : Int) - (f.leastPlace + ((min i j : Nat) : Int))).toNat = i - min i j by omega, show (f.leastPlace + (j : Int) - (f.leastPlace + ((min i j : Nat) : Int))).toNat = j - min i j by omega]
  have e1 : sg s (m * 2 ^ i) = sg s (m * 2 ^ (i - min i j)) * 2 ^ min i j := by
    rw [← sg_scale, Nat.mul_assoc, ← Nat.pow_add, show i - min i j + min i j = i by omega]
  have e2 : sg t (n * 2 ^ j) = sg t (n * 2 ^ (j - min i j)) * 2 ^ min i j := by
    rw [← sg_scale, Nat.mul_assoc, ← Nat.pow_add, show j - min i j + min i j = j by omega]
  unfold sumW
  rw [e1, e2, ← Int.add_mul]
  generalize sg s (m * 2 ^ (i - min i j)) + sg t (n * 2 ^ (j - min i j)) = T
  generalize min i j = b
  have hp : (0 : Int) < 2 ^ b := by exact_mod_cast Nat.two_pow_pos b
  have c1 : (T * 2 ^ b = 0) = (T = 0) := by
    apply propext
    refine ⟨fun h => ?_, fun h => by rw [h, Int.zero_mul]⟩
    rcases Int.mul_eq_zero.1 h with h | h
    · exact h
    · omega
  have c2 : (T * 2 ^ b < 0) = (T < 0) := by
    apply propext
    refine ⟨fun h => ?_, fun h => Int.mul_neg_of_neg_of_pos h hp⟩
    rcases Int.lt_or_le T 0 with h2 | h2
    · exact h2
    · have := Int.mul_nonneg h2 (Int.le_of_lt hp); omega
  have c3 : (T * 2 ^ b).natAbs = T.natAbs * 2 ^ b := by rw [Int.natAbs_mul, Int.natAbs_pow]; rfl
  have c4 : f.leastPlace = (f.leastPlace + (b : Int)) - (b : Int) := by omega
  simp only [c1, c2, c3]
  conv => rhs; rw [c4]
  rw [nearest_shift]
theorem fl_add {f : Format} {x y : Nat} {s t : Bool} {V W : Nat} (hx : Fl f x s V) (hy : Fl f y t W) : f.add x y = some (sumW f s V t W) := by
  obtain ⟨m, i, h1, rfl, _⟩ := hx
  obtain ⟨n, j, h2, rfl, _⟩ := hy
  unfold Format.add
  rw [h1, h2, sum_write]
theorem fl_sub {f : Format} {x y : Nat} {s t : Bool} {V W : Nat} (hx : Fl f x s V) (hy : Fl f y t W) : f.sub x y = some (sumW f s V (!t) W) := by
  obtain ⟨m, i, h1, rfl, _⟩ := hx
  obtain ⟨n, j, h2, rfl, _⟩ := hy
  unfold Format.sub
  rw [h1, h2]
  exact sum_write
end Go.Proofs.YtmdnfamjdogogaaDoor
