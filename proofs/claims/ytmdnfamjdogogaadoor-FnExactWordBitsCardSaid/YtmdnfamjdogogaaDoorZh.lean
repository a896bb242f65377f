/- Chapter 7: eight hexadecimal digits. Plain mathematics; no law is stated here. -/
import Derived.Test.YtmdnfamjdogogaaDoorDMath
namespace Go.Proofs.YtmdnfamjdogogaaDoor
set_option linter.unusedSimpArgs false
set_option linter.unusedVariables false

def hexc (d : Nat) : UInt8 := if d < 10 then UInt8.ofNat (48 + d) else UInt8.ofNat (87 + d)
theorem lt16 {d : Nat} (h : d < 16) : d = 0 ∨ d = 1 ∨ d = 2 ∨ d = 3 ∨ d = 4 ∨ d = 5 ∨ d = 6 ∨ d = 7 ∨ d = 8 ∨ d = 9 ∨ d = 10 ∨ d = 11 ∨ d = 12 ∨ d = 13 ∨ d = 14 ∨ d = 15 := by omega
theorem hexc_inj {a b : Nat} (ha : a < 16) (hb : b < 16) (h : hexc a = hexc b) : a = b := by
  have key : ∀ i : Fin 16, ∀ j : Fin 16, hexc i.1 = hexc j.1 → i.1 = j.1 := by decide
  exact key ⟨a, ha⟩ ⟨b, hb⟩ h
def hl (K n : Nat) : List UInt8 := (List.range (K + 1)).map fun j => hexc (n / 16 ^ (K - j) % 16)
theorem hl_len (K n : Nat) : (hl K n).length = K + 1 := by simp [hl]
theorem hl_at {K n t : Nat} (h : t ≤ K) : (hl K n)[t]? = some (hexc (n / 16 ^ (K - t) % 16)) := by
  unfold hl
  rw [List.getElem?_map, List.getElem?_range (by omega)]; rfl
theorem hl_take {K n t : Nat} (h : t ≤ K) : (hl K n).take (t + 1) = (hl K n).take t ++ [hexc (n / 16 ^ (K - t) % 16)] := by
  rw [List.take_add_one, hl_at h]; rfl
theorem hl_pad {k n : Nat} (hk : k ≤ 7) (h : n / 16 ^ k < 16) : List.replicate (7 - k) 48 ++ hl k n = hl 7 n := by
  apply List.ext_getElem?
  intro j
  by_cases hj : j < 7 - k
  · rw [List.getElem?_append_left (by rw [List.length_replicate]; exact hj), List.getElem?_replicate, if_pos hj, hl_at (by omega)]
    have e : n / 16 ^ (7 - j) = 0 := by
      have e1 : 7 - j = k + (7 - j - k) := by omega
      rw [e1, Nat.pow_add, ← Nat.div_div_eq_div_mul]
      apply Nat.div_eq_of_lt
      refine Nat.lt_of_lt_of_le h ?_
      calc 16 = 16 ^ 1 := rfl
        _ ≤ 16 ^ (7 - j - k) := Nat.pow_le_pow_right (by omega) (by omega)
    rw [e]; rfl
  · rw [List.getElem?_append_right (by rw [List.length_replicate]; omega), List.length_replicate]
    by_cases h7 : j ≤ 7
    · rw [hl_at (by omega), hl_at h7, show k - (j - (7 - k)) = 7 - j by omega]
    · rw [List.getElem?_eq_none (by rw [hl_len]; omega), List.getElem?_eq_none (by rw [hl_len]; omega)]
theorem hl_eight (f : Nat → UInt8) : (List.range 8).map f = [f 0, f 1, f 2, f 3, f 4, f 5, f 6, f 7] := rfl
theorem hl7 (n : Nat) : hl 7 n = [hexc (n / 268435456 % 16), hexc (n / 16777216 % 16), hexc (n / 1048576 % 16), hexc (n / 65536 % 16), hexc (n / 4096 % 16), hexc (n / 256 % 16), hexc (n / 16 % 16), hexc (n % 16)] := by
  have h : hl 7 n = (List.range 8).map fun j => hexc (n / 16 ^ (7 - j) % 16) := by unfold hl; with_reducible rfl
  rw [h, hl_eight]
  simp only [Nat.reduceSub, Nat.reducePow, Nat.sub_self, Nat.sub_zero, Nat.pow_zero, Nat.div_one]
/-- the sign turned: the first digit alone is another -/
def flip (x : Nat) : Nat := if x < 2147483648 then x + 2147483648 else x - 2147483648
theorem flip_hex {x : Nat} (h : x < 4294967296) : (hl 7 (flip x)).drop 1 = (hl 7 x).drop 1 ∧ (hl 7 (flip x)).head? ≠ (hl 7 x).head? := by
  have e : ∃ y, y < 2147483648 ∧ ((x = y ∧ flip x = y + 2147483648) ∨ (x = y + 2147483648 ∧ flip x = y)) := by
    unfold flip
    by_cases hx : x < 2147483648
    · exact ⟨x, hx, Or.inl ⟨rfl, by rw [if_pos hx]⟩⟩
    · exact ⟨x - 2147483648, by omega, Or.inr ⟨by omega, by rw [if_neg hx]⟩⟩
  obtain ⟨y, hy, h1⟩ := e
  have e1 : (y + 2147483648) / 16777216 % 16 = y / 16777216 % 16 := by omega
  have e2 : (y + 2147483648) / 1048576 % 16 = y / 1048576 % 16 := by omega
  have e3 : (y + 2147483648) / 65536 % 16 = y / 65536 % 16 := by omega
  have e4 : (y + 2147483648) / 4096 % 16 = y / 4096 % 16 := by omega
  have e5 : (y + 2147483648) / 256 % 16 = y / 256 % 16 := by omega
  have e6 : (y + 2147483648) / 16 % 16 = y / 16 % 16 := by omega
  have e7 : (y + 2147483648) % 16 = y % 16 := by omega
  have e0 : (y + 2147483648) / 268435456 % 16 ≠ y / 268435456 % 16 := by omega
  have d1 : (hl 7 (y + 2147483648)).drop 1 = (hl 7 y).drop 1 := by
    rw [hl7, hl7, e1, e2, e3, e4, e5, e6, e7]
    simp only [List.drop_succ_cons, List.drop_zero]
  have d2 : (hl 7 (y + 2147483648)).head? ≠ (hl 7 y).head? := by
    rw [hl7, hl7]
    intro hh
    simp only [List.head?_cons, Option.some.injEq] at hh
    exact e0 (hexc_inj (Nat.mod_lt _ (by omega)) (Nat.mod_lt _ (by omega)) hh)
  rcases h1 with ⟨rfl, hf⟩ | ⟨rfl, hf⟩
  · rw [hf]; exact ⟨d1, d2⟩
  · rw [hf]; exact ⟨d1.symm, d2.symm⟩
/-- the letter out of the table of digits -/
theorem hex_pick {d : Nat} (h : d < 16) : (⟨#[48, 49, 50, 51, 52, 53, 54, 55, 56, 57, 97, 98, 99, 100, 101, 102]⟩ : ByteArray).extract d (d + 1) = bs [hexc d] := by
  have key : ∀ i : Fin 16, (⟨#[48, 49, 50, 51, 52, 53, 54, 55, 56, 57, 97, 98, 99, 100, 101, 102]⟩ : ByteArray).extract i.1 (i.1 + 1) = bs [hexc i.1] := by decide +kernel
  exact key ⟨d, h⟩
end Go.Proofs.YtmdnfamjdogogaaDoor
