/- Chapter 5: CurveEnd, of both sides. No law is stated here. -/
import Derived.Test.YtljmmmkehieboaaDoorCa
import Derived.Test.YtljmmmkehieboaaDoorWb
namespace Go.Proofs.YtljmmmkehieboaaDoor
set_option linter.unusedSimpArgs false
set_option linter.unusedVariables false
open Go.RowKit Ieee

def enS (c : UInt8) (z : Int × Int) : Int × Int := if c = 108 then (z.1 - z.2, z.1 + z.2) else (z.1 + z.2, z.2 - z.1)
def endP (l : List UInt8) : Int × Int := l.foldl (fun z c => enS c z) (1, 0)
theorem endP_nil : endP [] = (1, 0) := rfl
theorem endP_snoc (l : List UInt8) (c : UInt8) : endP (l ++ [c]) = enS c (endP l) := by unfold endP; rw [List.foldl_append]; rfl
theorem sq_expand (x y : Int) : (x - y) * (x - y) + (x + y) * (x + y) = 2 * (x * x + y * y) := by
  rw [Int.sub_mul, Int.mul_sub, Int.mul_sub, Int.add_mul, Int.mul_add, Int.mul_add, Int.mul_comm y x]; omega
theorem endP_norm (l : List UInt8) : (endP l).1 * (endP l).1 + (endP l).2 * (endP l).2 = (2 ^ l.length : Nat) := by
  induction l using rev_ind with
  | h0 => rfl
  | h1 l c ih =>
    rw [endP_snoc, List.length_append, List.length_singleton, Nat.pow_succ]
    have h := sq_expand (endP l).1 (endP l).2
    have h2 := sq_expand (endP l).2 (endP l).1
    unfold enS
    split
    · dsimp only; rw [h, ih]; omega
    · dsimp only
      rw [Int.add_comm (endP l).2 (endP l).1] at h2
      omega
theorem part_le {x y : Int} {n : Nat} (h : x * x + y * y = (n : Int)) : x.natAbs ≤ n ∧ y.natAbs ≤ n := by
  have h1 : ((x.natAbs * x.natAbs : Nat) : Int) = x * x := by rw [Int.natAbs_mul_self]
  have h2 : ((y.natAbs * y.natAbs : Nat) : Int) = y * y := by rw [Int.natAbs_mul_self]
  have h3 := Nat.le_mul_self x.natAbs
  have h4 := Nat.le_mul_self y.natAbs
  omega
theorem endP_in {l : List UInt8} {k : Nat} (h : l.length ≤ k) : (endP l).1.natAbs ≤ 2 ^ k ∧ (endP l).2.natAbs ≤ 2 ^ k := by
  have h1 := part_le (endP_norm l)
  have h2 : 2 ^ l.length ≤ 2 ^ k := Nat.pow_le_pow_right (by omega) h
  omega
theorem endP_ne (l : List UInt8) : (endP l).1.natAbs ≠ 0 ∨ (endP l).2.natAbs ≠ 0 := by
  have h := endP_norm l
  have := Nat.two_pow_pos l.length
  rcases Nat.eq_zero_or_pos (endP l).1.natAbs with a | a
  · right
    intro b
    rw [Int.natAbs_eq_zero.1 a, Int.natAbs_eq_zero.1 b] at h
    generalize 2 ^ l.length = N at *
    omega
  · left; omega
theorem sgS_own {s t : Bool} {m n : Nat} (h : m ≠ 0 ∨ n ≠ 0) : sgS s m t n = decide (sg s m + sg t n < 0) := by
  unfold sgS
  split
  · rename_i e
    rw [e]
    cases s <;> cases t <;> simp [sg] at e ⊢
    omega
  · rfl
theorem sw_own {s t : Bool} {m n : Nat} {a : Int} (h : m ≠ 0 ∨ n ≠ 0) (e : sg s m + sg t n = a) : sw .f32 (sgS s m t n) (sgN s m t n) = floatOfInt .f32 a := by
  rw [sgS_own h, fw_sw, ← e]; rfl
theorem sg_own' (a : Int) : sg (!decide (a < 0)) a.natAbs = -a := by rw [sg_neg, own_sg]
section
variable {P : Program} (w : World)
theorem run_fold_l (t : TypeId) {z : Int × Int} (h : z.1.natAbs ≤ 1000 ∧ z.2.natAbs ≤ 1000) (h0 : z.1.natAbs ≠ 0 ∨ z.2.natAbs ≠ 0) : (binOp .mul t (encP z) (.complex .f32 1065353216 1065353216)).run P w = .ok (encP (z.1 - z.2, z.1 + z.2)) w := by
  have e := run_cmul32 (P := P) w t (decide (z.1 < 0)) (decide (z.2 < 0)) false false (a := z.1.natAbs) (b := z.2.natAbs) (c := 1) (d := 1) h.1 h.2 (by omega) (by omega)
  rw [show sw .f32 false 1 = 1065353216 from w1s] at e
  simp only [Nat.mul_one, Bool.xor_false] at e
  rw [sw_own h0 (show _ = z.1 - z.2 by rw [own_sg, sg_own']; omega), sw_own h0 (show _ = z.1 + z.2 by rw [own_sg, own_sg])] at e
  exact e
theorem run_fold_r (t : TypeId) {z : Int × Int} (h : z.1.natAbs ≤ 1000 ∧ z.2.natAbs ≤ 1000) (h0 : z.1.natAbs ≠ 0 ∨ z.2.natAbs ≠ 0) : (binOp .mul t (encP z) (.complex .f32 1065353216 3212836864)).run P w = .ok (encP (z.1 + z.2, z.2 - z.1)) w := by
  have e := run_cmul32 (P := P) w t (decide (z.1 < 0)) (decide (z.2 < 0)) false true (a := z.1.natAbs) (b := z.2.natAbs) (c := 1) (d := 1) h.1 h.2 (by omega) (by omega)
  rw [show sw .f32 false 1 = 1065353216 from w1s, show sw .f32 true 1 = 3212836864 from wm1s] at e
  simp only [Nat.mul_one, Bool.xor_false, Bool.xor_true, Bool.not_not] at e
  rw [sw_own h0 (show _ = z.1 + z.2 by rw [own_sg, own_sg]), sw_own h0 (show _ = z.2 - z.1 by rw [own_sg, sg_own']; omega)] at e
  exact e
theorem run_one_l (t : TypeId) : (binOp .add t (.complex .f32 1065353216 0) (.complex .f32 0 1065353216)).run P w = .ok (.complex .f32 1065353216 1065353216) w := by
  have e := run_cadd (P := P) w (k := .f32) t (a := 1) (b := 0) (c := 0) (d := 1) (by decide) (by decide) (by decide) (by decide)
  rw [w1s, w0s, show (1 : Int) + 0 = 1 by omega, show (0 : Int) + 1 = 1 by omega, w1s] at e
  exact e
theorem run_one_r (t : TypeId) : (binOp .add t (.complex .f32 1065353216 0) (.complex .f32 0 3212836864)).run P w = .ok (.complex .f32 1065353216 3212836864) w := by
  have e := run_cadd (P := P) w (k := .f32) t (a := 1) (b := 0) (c := 0) (d := -1) (by decide) (by decide) (by decide) (by decide)
  rw [w1s, w0s, wm1s, show (1 : Int) + 0 = 1 by omega, show (0 : Int) + -1 = -1 by omega, w1s, wm1s] at e
  exact e
end
def endW (s : ByteArray) : Int × Int := if wdB 10 s then endP (toL s) else (0, 0)
abbrev endV (s : ByteArray) : Value := .tuple #[encP (endW s), .bool (wdB 10 s)]
theorem endV_t {s : ByteArray} (h : wdB 10 s = true) : endV s = .tuple #[encP (endP (toL s)), .bool true] := by unfold endV endW; rw [h]; rfl
theorem endV_f {s : ByteArray} (h : wdB 10 s = false) : endV s = .tuple #[.complex .f32 0 0, .bool false] := by unfold endV endW; rw [h]; exact congrArg (fun x => Value.tuple #[x, .bool false]) enc00
theorem end_step {s : ByteArray} {k : Nat} (hk : k < s.size) : endP ((toL s).take (k + 1)) = enS s[k] (endP ((toL s).take k)) := by
  rw [take_snocB s k hk, endP_snoc]
theorem end_l {s : ByteArray} {k : Nat} (hk : k < s.size) (h : s[k].toNat = 108) : endP ((toL s).take (k + 1)) = ((endP ((toL s).take k)).1 - (endP ((toL s).take k)).2, (endP ((toL s).take k)).1 + (endP ((toL s).take k)).2) := by
  rw [end_step hk, show s[k] = 108 from UInt8.toNat_inj.1 (by rw [h]; rfl)]; rfl
theorem end_r {s : ByteArray} {k : Nat} (hk : k < s.size) (h : s[k].toNat ≠ 108) : endP ((toL s).take (k + 1)) = ((endP ((toL s).take k)).1 + (endP ((toL s).take k)).2, (endP ((toL s).take k)).2 - (endP ((toL s).take k)).1) := by
  rw [end_step hk]; unfold enS; rw [if_neg (fun e => h (by rw [e]; rfl))]
def IEnRel (s : ByteArray) (w1 : World) (m : Nat) (v : Value) (wr : World) : Prop := ∃ k : Nat, k + m = s.size ∧ v = encP (endP ((toL s).take k)) ∧ wr = w1.iter s k
set_option maxRecDepth 100000 in
set_option maxHeartbeats 4000000 in
theorem iCurveEnd_c (s : ByteArray) (w : World) : Calls Tryd.prog 6 #[.string s] w fun e w' => e = .returned (endV s) ∧ Below w.heap.size w w' := by
  rcases Bool.eq_false_or_eq_true (wdB 10 s) with h | h
  · have H := Lib.hid (endV_t h)
    have HW := Lib.hid h
    have hsz := wdB_len h
    have q1 := fun w t => run_one_l (P := Tryd.prog) w t
    have q2 := fun w t => run_one_r (P := Tryd.prog) w t
    go_enter Tryd.func6, Tryd.ntmps6
    go_wp2_with (first | (go_at_call 17; refine (areCreases_c _ _).mono ?_; rintro e w1 ⟨rfl, hb⟩; obtain ⟨hc, hf⟩ := bcell hb; have hz := bsize hb; have hs := hb.size; try simp at hs))
    have hB1 := Lib.hid (show Below w.heap.size w w1 by (repeat' (first | assumption | exact Below.refl _ _ | apply Blw.alloc | apply Blw.drew | apply Blw.drewN | (refine Blw.after ?_ (by assumption)) | (refine Blw.set ?_ (by first | (dsimp only; omega) | (simp; done) | (simp; omega)) _))))
    have hs1 := hB1.out.size
    clear h hb hc hf hz hs
    have S0 := Lib.hid (show IEnRel s w1 s.size (.complex .f32 1065353216 0) (w1.iter s 0) from ⟨0, by omega, by rw [List.take_zero, endP_nil]; exact enc10.symm, rfl⟩)
    go_loopg [4, 6] s.size (fun m v r wr => IEnRel s w1 m v wr)
    case atStart => exact S0.out
    case round =>
      clear S0
      obtain ⟨k, hk, rfl, rfl⟩ := hrel
      by_cases hlt : k < s.size
      · have hnx : ∀ ty, (Instr.next (.pointer (some ⟨w1.heap.size, 0, none⟩)) true ty).run Tryd.prog (w1.iter s k) = _ := fun ty => run_next_any w1 s k ty hlt
        rw [decode_ascii s k hlt (by have := wdB_at HW.out k hlt; omega)] at hnx
        have hin := endP_in (l := (toL s).take k) (k := 9) (by rw [List.length_take]; omega)
        have e512 : (2 : Nat) ^ 9 = 512 := by decide
        rw [e512] at hin
        have hne := endP_ne ((toL s).take k)
        have f1 := fun w t => run_fold_l (P := Tryd.prog) w t (z := endP ((toL s).take k)) (by omega) hne
        have f2 := fun w t => run_fold_r (P := Tryd.prog) w t (z := endP ((toL s).take k)) (by omega) hne
        by_cases e8 : s[k].toNat = 108
        · have HS := Lib.hid (end_l hlt e8)
          rw [e8] at hnx
          clear e8 hin hne e512
          generalize endP ((toL s).take k) = z at *
          go_wp2_with (first | (go_at_call 18; refine (quarter_l _).mono ?_; rintro e w1 ⟨rfl, rfl⟩))
          go_roundg (gk - 1)
          case measure => omega
          case rel => exact ⟨k + 1, by omega, by rw [HS.out], rfl⟩
        · have HS := Lib.hid (end_r hlt e8)
          have e9 : ¬ ((s[k].toNat : Int) = 108) := by omega
          generalize hcv : (s[k].toNat : Int) = cv at *
          clear e8 hin hne e512 hcv
          generalize endP ((toL s).take k) = z at *
          go_wp2_with (first | (go_at_call 18; refine (quarter_r _ _ e9).mono ?_; rintro e w1 ⟨rfl, rfl⟩))
          go_roundg (gk - 1)
          case measure => omega
          case rel => exact ⟨k + 1, by omega, by rw [HS.out], rfl⟩
      · have hnx : ∀ ty, (Instr.next (.pointer (some ⟨w1.heap.size, 0, none⟩)) true ty).run Tryd.prog (w1.iter s k) = _ := fun ty => run_next_end w1 s k ty hlt
        have HS := Lib.hid (take_allB s k (by omega))
        go_wp2
        go_ret2
        exact ⟨by rw [H.out, HS.out]; rfl, hB1.out.trans ((iter_below w1 s k).mono hs1)⟩
  · have H := Lib.hid (endV_f h)
    go_enter Tryd.func6, Tryd.ntmps6
    go_wp2_with (first | (go_at_call 17; refine (areCreases_c _ _).mono ?_; rintro e w1 ⟨rfl, hb⟩; obtain ⟨hc, hf⟩ := bcell hb; have hz := bsize hb; have hs := hb.size; try simp at hs))
    go_ret2
    exact ⟨by rw [H.out]; rfl, by (repeat' (first | assumption | exact Below.refl _ _ | apply Blw.alloc | apply Blw.drew | apply Blw.drewN | (refine Blw.after ?_ (by assumption)) | (refine Blw.set ?_ (by first | (dsimp only; omega) | (simp; done) | (simp; omega)) _)))⟩
def SEnRel (s : ByteArray) (w : World) (m : Nat) (x y i : Value) (wr : World) : Prop :=
  ∃ k : Nat, k + m = s.size ∧ x = .int .i64 (endP ((toL s).take k)).1 ∧ y = .int .i64 (endP ((toL s).take k)).2 ∧ i = .int .i64 k ∧ wr = w
set_option maxRecDepth 100000 in
set_option maxHeartbeats 4000000 in
theorem sCurveEnd_c (s : ByteArray) (w : World) : Calls Tryd.prog 7 #[.string s] w fun e w' => e = .returned (endV s) ∧ Below w.heap.size w w' := by
  rcases Bool.eq_false_or_eq_true (wdB 10 s) with h | h
  · have H := Lib.hid (endV_t h)
    have HW := Lib.hid h
    have hsz := wdB_len h
    go_enter Tryd.func7, Tryd.ntmps7
    go_wp2_with (first | (go_at_call 19; refine (l4Word_c _ 10 _ (by decide)).mono ?_; rintro e w1 ⟨rfl, rfl⟩))
    clear h
    go_loopg [4, 5, 6, 7, 8] s.size (fun m x y i a b wr => SEnRel s w m x y i wr)
    case atStart => exact ⟨0, by omega, rfl, rfl, rfl, rfl⟩
    case round =>
      obtain ⟨k, hk, rfl, rfl, rfl, rfl⟩ := hrel
      by_cases hlt : k < s.size
      · have hin := endP_in (l := (toL s).take k) (k := 10) (by rw [List.length_take]; omega)
        have e512 : (2 : Nat) ^ 10 = 1024 := by decide
        rw [e512] at hin
        have hx : -1024 ≤ (endP ((toL s).take k)).1 ∧ (endP ((toL s).take k)).1 ≤ 1024 := by omega
        have hy : -1024 ≤ (endP ((toL s).take k)).2 ∧ (endP ((toL s).take k)).2 ≤ 1024 := by omega
        obtain ⟨x1, x2⟩ := hx
        obtain ⟨y1, y2⟩ := hy
        by_cases e8 : s[k].toNat = 108
        · have HS := Lib.hid (end_l hlt e8)
          have a1 : ((s[k].toNat : Int) == 114) = false := by simp [e8]
          clear e8 hin e512
          generalize endP ((toL s).take k) = z at *
          go_wp2
          go_roundg (gk - 1)
          case measure => omega
          case rel => exact ⟨k + 1, by omega, by rw [HS.out], by rw [HS.out], by go_num, rfl⟩
        · have HS := Lib.hid (end_r hlt e8)
          have a1 : ((s[k].toNat : Int) == 114) = true := by have := wdB_at HW.out k hlt; simp; omega
          clear e8 hin e512
          generalize endP ((toL s).take k) = z at *
          go_wp2
          go_roundg (gk - 1)
          case measure => omega
          case rel => exact ⟨k + 1, by omega, by rw [HS.out], by rw [HS.out], by go_num, rfl⟩
      · have HS := Lib.hid (take_allB s k (by omega))
        go_wp2
        go_ret2
        exact ⟨by rw [H.out, HS.out]; rfl, by (repeat' (first | assumption | exact Below.refl _ _ | apply Blw.alloc | apply Blw.drew | apply Blw.drewN | (refine Blw.after ?_ (by assumption)) | (refine Blw.set ?_ (by first | (dsimp only; omega) | (simp; done) | (simp; omega)) _)))⟩
  · have H := Lib.hid (endV_f h)
    go_enter Tryd.func7, Tryd.ntmps7
    go_wp2_with (first | (go_at_call 19; refine (l4Word_c _ 10 _ (by decide)).mono ?_; rintro e w1 ⟨rfl, rfl⟩))
    go_ret2
    exact ⟨by rw [H.out]; rfl, by (repeat' (first | assumption | exact Below.refl _ _ | apply Blw.alloc | apply Blw.drew | apply Blw.drewN | (refine Blw.after ?_ (by assumption)) | (refine Blw.set ?_ (by first | (dsimp only; omega) | (simp; done) | (simp; omega)) _)))⟩
end Go.Proofs.YtljmmmkehieboaaDoor
