/- What the promises ask of two floats: a word that is no NaN is the same as itself, the sign of nought and all. No law is stated here. -/
import Derived.Test.YtmdnfamjdogogaaDoorPo
import Derived.Test.YtmdnfamjdogogaaDoorVl
namespace Go.Proofs.YtmdnfamjdogogaaDoor
set_option linter.unusedSimpArgs false
set_option linter.unusedVariables false
open Go.RowKit Ieee

theorem nearest_word (f : Format) (s : Bool) (m : Nat) (p : Int) : ∃ k, f.nearest s m p = f.word s k ∧ k ≤ f.infRung := by
  unfold Format.nearest
  split
  · exact ⟨0, rfl, Nat.zero_le _⟩
  · exact ⟨_, rfl, Nat.min_le_right _ _⟩
theorem word_self (f : Format) (hb : ¬ f.infRung < f.binade) (s : Bool) {k : Nat} (h : k ≤ f.infRung) : f.order (f.word s k) (f.word s k) = some .eq := by
  unfold Format.order
  rcases Nat.lt_or_eq_of_le h with h | h
  · rw [read_word f s h]
    split <;> exact congrArg some (Int.compare_eq_eq.2 rfl)
  · subst h
    have hlt := Format.infRung_lt f
    have hpos : 0 < f.signWeight := by omega
    have e1 : (f.word s f.infRung / f.signWeight % 2 == 1) = s := by
      cases s
      · show (f.infRung / f.signWeight % 2 == 1) = false
        rw [Nat.div_eq_of_lt hlt]; rfl
      · show ((f.signWeight + f.infRung) / f.signWeight % 2 == 1) = true
        rw [Nat.add_div_left _ hpos, Nat.div_eq_of_lt hlt]; rfl
    have e2 : f.word s f.infRung % f.signWeight = f.infRung := by
      cases s
      · show f.infRung % f.signWeight = _
        exact Nat.mod_eq_of_lt hlt
      · show (f.signWeight + f.infRung) % f.signWeight = _
        rw [Nat.add_mod_left]; exact Nat.mod_eq_of_lt hlt
    have e3 : f.read (f.word s f.infRung) = .infinity s := by
      unfold Format.read
      simp only [e1, e2]
      simp [hb]
    rw [e3]
    cases s <;> rfl
theorem write_self (f : Format) (hb : ¬ f.infRung < f.binade) {d : Datum} (h : d.isNaN = false) : f.order (f.write d) (f.write d) = some .eq := by
  cases d with
  | nan s t => simp [Datum.isNaN] at h
  | infinity s => exact word_self f hb s (Nat.le_refl _)
  | number s m p =>
    obtain ⟨k, e, hk⟩ := nearest_word f s m p
    show f.order (f.nearest s m p) (f.nearest s m p) = _
    rw [e]
    exact word_self f hb s hk
theorem one_div_ok {x : Nat} (h : FloatKind.f64.format.order x x = some .eq) : ∃ r, floatBits .quo .f64 4607182418800017408 x = some r ∧ FloatKind.f64.format.order r r = some .eq := by
  have e : floatBits .quo .f64 4607182418800017408 x = ((FloatKind.f64.format.read 4607182418800017408).quotient (double.fractionBits + 2) (FloatKind.f64.format.read x)).map FloatKind.f64.format.write := rfl
  rw [e, show FloatKind.f64.format.read 4607182418800017408 = .number false 4503599627370496 (-52) by decide +kernel]
  cases hx : FloatKind.f64.format.read x with
  | nan s t => unfold Format.order at h; rw [hx] at h; simp [Datum.order] at h
  | infinity s => exact ⟨_, rfl, write_self _ (by decide +kernel) rfl⟩
  | number s m i =>
    by_cases hm : m = 0
    · subst hm; exact ⟨_, rfl, write_self _ (by decide +kernel) rfl⟩
    · simp only [Datum.quotient, if_neg hm]
      exact ⟨_, rfl, write_self _ (by decide +kernel) rfl⟩
theorem sameZero_c (x : Nat) (w : World) (h1 : FloatKind.f64.format.order x x = some .eq) : Calls Tryd.prog 43 #[.float .f64 x, .float .f64 x] w fun e w' => e = .returned (.bool true) ∧ w = w' := by
  obtain ⟨r, hr, h2⟩ := one_div_ok h1
  have hq := fun w => run_float_arith (P := Tryd.prog) w .quo 71 .f64 _ x r hr
  clear hr
  go_enter Tryd.func43, Tryd.ntmps43
  go_wp2
  go_ret
  exact ⟨by simp [*], rfl⟩
theorem sameWide_c (x y : Nat) (w : World) (h1 : FloatKind.f64.format.order x x = some .eq) (h2 : FloatKind.f64.format.order y y = some .eq) : Calls Tryd.prog 31 #[.complex .f64 x y, .complex .f64 x y] w fun e w' => e = .returned (.bool true) ∧ w = w' := by
  go_enter Tryd.func31, Tryd.ntmps31
  go_wp2_with (go_at_call 43; refine (sameZero_c _ _ (by assumption)).mono ?_; rintro e w1 ⟨rfl, rfl⟩)
  go_ret
  exact ⟨rfl, rfl⟩
theorem sameSingle_c (x y X Y : Nat) (w : World) (u1 : floatToFloatBits .f32 x .f64 = some X) (u2 : floatToFloatBits .f32 y .f64 = some Y) (h1 : FloatKind.f64.format.order X X = some .eq) (h2 : FloatKind.f64.format.order Y Y = some .eq) :
    Calls Tryd.prog 15 #[.complex .f32 x y, .complex .f32 x y] w fun e w' => e = .returned (.bool true) ∧ w = w' := by
  have f1 := convP_c Tryd.underlying28 Tryd.underlying55 u1 u2
  go_enter Tryd.func15, Tryd.ntmps15
  go_wp2_with (go_at_call 31; refine (sameWide_c _ _ _ h1 h2).mono ?_; rintro e w1 ⟨rfl, rfl⟩)
  go_ret
  exact ⟨rfl, rfl⟩
/-- a finite word is equal to itself -/
theorem fl_self {k : FloatKind} {x : Nat} {s : Bool} {V : Nat} (h : Fl k.format x s V) : k.format.order x x = some .eq := vl_same ⟨s, V, h, rfl⟩ ⟨s, V, h, rfl⟩
theorem pt_self {k : FloatKind} {U B x y : Nat} (h : Pt k.format U B x y) : k.format.order x x = some .eq ∧ k.format.order y y = some .eq := by
  obtain ⟨s, V, t, W, h1, h2, _, _⟩ := h
  exact ⟨fl_self h1, fl_self h2⟩
/-- a single point in the wider width, no NaN there -/
theorem pt_upS {B x y : Nat} (h : Pt single (un .f32) B x y) (hB : B ≤ 2000000) : ∃ X Y, floatToFloatBits .f32 x .f64 = some X ∧ floatToFloatBits .f32 y .f64 = some Y ∧ FloatKind.f64.format.order X X = some .eq ∧ FloatKind.f64.format.order Y Y = some .eq := by
  obtain ⟨s, V, t, W, h1, h2, h3, h4⟩ := h
  obtain ⟨a1, a2⟩ := conv_up wd h1 (up_le h3 hB)
  obtain ⟨b1, b2⟩ := conv_up wd h2 (up_le h4 hB)
  exact ⟨_, _, a1, b1, fl_self (k := .f64) a2, fl_self (k := .f64) b2⟩
end Go.Proofs.YtmdnfamjdogogaaDoor
