/- Chapter 3: texts with places, of both sides. -/
import Derived.Test.YtlcafjdinjdllabDoorDh
import Derived.Test.YtlcafjdinjdllabDoorCutW
import Derived.Test.YtlcafjdinjdllabDoorRep
import Derived.Test.YtlcafjdinjdllabDoorBq
import Derived.Deep.Cut
namespace Go.Proofs.YtlcafjdinjdllabDoor
set_option linter.unusedSimpArgs false
set_option linter.unusedVariables false
open Go.RowKit

theorem toL_ap (a b : ByteArray) : toL (a ++ b) = toL a ++ toL b := by
  show (a ++ b).data.toList = _
  rw [ByteArray.data_append, Array.toList_append]
theorem zz_toL' (n : Nat) : toL (zz n) = List.replicate n 48 := by unfold zz; rw [toL_bs]
theorem zz_none (d : ByteArray) : zz 0 ++ d = d := by apply toL_ext; rw [toL_ap, zz_toL']; rfl
theorem zz_more (j : Nat) (d : ByteArray) : (⟨#[48]⟩ : ByteArray) ++ (zz j ++ d) = zz (j + 1) ++ d := by
  apply toL_ext
  rw [toL_ap, toL_ap, toL_ap, zz_toL', zz_toL', List.replicate_succ]; rfl
/-- with noughts ahead, so that one digit stays ahead of the point -/
def padS (d : ByteArray) (k : Nat) : ByteArray := zz (k + 1 - d.size) ++ d
theorem padS_size (d : ByteArray) (k : Nat) : (padS d k).size = k + 1 - d.size + d.size := by unfold padS; rw [ByteArray.size_append, zz_size]
def txS (d : ByteArray) (k : Nat) : ByteArray := (padS d k).extract 0 ((padS d k).size - k) ++ ⟨#[46]⟩ ++ (padS d k).extract ((padS d k).size - k) (padS d k).size
theorem ofV_cases (x y : Int) : (∃ d, ofV x y = .tuple #[.string d, .bool true] ∧ vldB d = true) ∨ ofV x y = .tuple #[.string ⟨#[]⟩, .bool false] := by
  unfold ofV
  split
  · have e := toL_bs (strip (dgs1 x y).reverse)
    cases hv : vldB (bs (strip (dgs1 x y).reverse))
    · exact .inr (resD_f e.symm hv)
    · exact .inl ⟨_, resD_t e.symm hv, hv⟩
  · exact .inr rfl
theorem vldL_take {l : List UInt8} (h : vldL l = true) {n : Nat} (h1 : 1 ≤ n) (h2 : n ≤ l.length) : vldL (l.take n) = true := by
  obtain ⟨a1, a2, a3, a4⟩ := (vldL_iff l).1 h
  refine (vldL_iff _).2 ⟨by rw [List.length_take]; omega, by rw [List.length_take]; omega, ?_, fun c hc => a4 c (List.mem_of_mem_take hc)⟩
  rcases a3 with a3 | a3
  · left; subst a3; simp at h2; rw [show n = 1 by omega]; rfl
  · right
    cases l with
    | nil => simp at a1
    | cons c r => obtain ⟨m, rfl⟩ : ∃ m, n = m + 1 := ⟨n - 1, by omega⟩; simpa using a3
theorem bits_no46 {l : List UInt8} (h : ∀ c ∈ l, bitC c = true) : ∀ c ∈ l, c ≠ 46 := by
  intro c hc e
  have := h c hc
  subst e
  cases this
theorem dotL_ap : ∀ {a : List UInt8} (r : List UInt8), (∀ c ∈ a, c ≠ 46) → dotL (a ++ 46 :: r) = a.length
  | [], r, _ => rfl
  | c :: a, r, h => by
    have hc : ¬ (c == 46) = true := by simpa using h c (by simp)
    show (if c == 46 then 0 else dotL (a ++ 46 :: r) + 1) = _
    rw [if_neg hc, dotL_ap r (fun c hc => h c (by simp [hc]))]; rfl
theorem cut_made {s : ByteArray} {a r : List UInt8} (h : toL s = a ++ 46 :: r) (ha : vldL a = true) (hr : ∀ c ∈ r, bitC c = true) (hl : r.length ≤ 320) : cutB s = true := by
  have hno := bits_no46 ((vldL_iff a).1 ha).2.2.2
  have e : atP s = a.length := by unfold atP; rw [h]; exact dotL_ap r hno
  have hs : s.size = a.length + (r.length + 1) := by rw [← toL_len, h, List.length_append, List.length_cons]
  have h3 : toL (hdS s) = a := by
    show toL (s.extract 0 (atP s)) = _
    rw [toL_extract, List.drop_zero, e, h, List.take_left]
  have h4 : toL (tlS s) = r := by
    show toL (s.extract (atP s + 1) s.size) = _
    rw [toL_extract, List.take_of_length_le (by rw [toL_len]; exact Nat.le_refl _), e, h, ← List.drop_drop, List.drop_left]
    rfl
  have ht : (tlS s).size = r.length := by rw [← toL_len, h4]
  unfold cutB dotB vldB
  rw [h3, ht, ha]
  have ho : onlyB (tlS s) = true := onlyB_good (by rw [h4]; exact hr)
  rw [ho]
  simp; omega
theorem txS_cut {d : ByteArray} (hv : vldB d = true) {k : Nat} (hk : k ≤ 30) : cutB (txS d k) = true := by
  have hd := vldB_len hv
  have hP := padS_size d k
  have hbits : ∀ c ∈ toL (padS d k), bitC c = true := by
    unfold padS
    rw [toL_ap, zz_toL']
    intro c hc
    rcases List.mem_append.1 hc with h | h
    · rw [(List.mem_replicate.1 h).2]; rfl
    · exact vldB_bits hv c h
  have e : toL (txS d k) = (toL (padS d k)).take ((padS d k).size - k) ++ 46 :: (toL (padS d k)).drop ((padS d k).size - k) := by
    unfold txS
    rw [toL_ap, toL_ap, toL_extract, toL_extract, List.drop_zero, List.take_of_length_le (l := toL (padS d k)) (i := (padS d k).size) (by rw [toL_len]; exact Nat.le_refl _), List.append_assoc]
    rfl
  refine cut_made e ?_ (fun c hc => hbits c (List.mem_of_mem_drop hc)) (by rw [List.length_drop, toL_len]; omega)
  by_cases h : d.size ≤ k
  · have e1 : (padS d k).size - k = 1 := by omega
    obtain ⟨m, hm⟩ : ∃ m, k + 1 - d.size = m + 1 := ⟨k - d.size, by omega⟩
    rw [e1]
    unfold padS
    rw [toL_ap, zz_toL', hm, List.replicate_succ]
    rfl
  · have e1 : padS d k = d := by unfold padS; rw [show k + 1 - d.size = 0 by omega, zz_none]
    rw [e1]
    exact vldL_take hv (by omega) (by rw [toL_len]; omega)
theorem sPlacesValidT_c (s : ByteArray) (w : World) (hsz : s.size ≤ 2000000) : Calls Tryd.prog 33 #[.string s] w fun e w' => e = .returned (.bool (cutB s)) ∧ Below w.heap.size w w' := by
  go_enter Tryd.func33, Tryd.ntmps33
  go_wp2_with (go_at_call 61; refine (l3Cut_c _ _ hsz).mono ?_; rintro e w1 ⟨rfl, hb⟩; obtain ⟨hc, hf⟩ := bcell hb; have hz := bsize hb; have hs := hb.size; try simp at hs)
  go_ret
  exact ⟨rfl, by (repeat' (first | assumption | exact Below.refl _ _ | apply Blw.alloc | apply Blw.drew | apply Blw.drewN | (refine Blw.after ?_ (by assumption)) | (refine Blw.set ?_ (by first | (dsimp only; omega) | (simp; done) | (simp; omega)) _)))⟩
def PadRel (d : ByteArray) (k : Nat) (w : World) (m : Nat) (v : Value) (wr : World) : Prop := ∃ j : Nat, j + m = k + 1 - d.size ∧ v = .string (zz j ++ d) ∧ Below w.heap.size w wr
set_option maxHeartbeats 2000000 in
theorem sPlacesText_y (x y : Int) (k : Nat) (d : ByteArray) (w : World) (hV : ofV x y = .tuple #[.string d, .bool true]) (hv : vldB d = true) (hk : k ≤ 30) :
    Calls Tryd.prog 10 #[pr x y, .int .i64 k] w fun e w' => e = .returned (.tuple #[.string (txS d k), .bool true]) ∧ Below w.heap.size w w' := by
  have hD : ∀ w, Calls Tryd.prog 31 #[pr x y] w fun e w' => e = .returned (.tuple #[.string d, .bool true]) ∧ Below w.heap.size w w' := fun w => by rw [← hV]; exact sDigitsOf_c x y w
  have hin : inR 0 30 (k : Int) = true := by simp [inR]; omega
  have hl := vldB_len hv
  have hl2 := hl.2
  have HP := Lib.hid (padS_size d k)
  have HC := Lib.hid (txS_cut hv hk)
  have HT := Lib.hid (show txS d k = (padS d k).extract 0 ((padS d k).size - k) ++ ⟨#[46]⟩ ++ (padS d k).extract ((padS d k).size - k) (padS d k).size from rfl)
  clear hV hv hl
  go_enter Tryd.func10, Tryd.ntmps10
  go_wp2_with fail
  generalize hW : World.alloc _ _ = W0
  have kW0_1 : W0.cell? ⟨w.heap.size, 0, none⟩ = some (.int .i64 (x)) := by rw [← hW]; clear hW; first | (go_simp; done) | ((repeat refine keepcell ((Below.refl _ _).alloc (Nat.le_refl _) _) ?_); go_simp; done) | (simp only [frozen?_alloc_cells]; go_simp; done)
  have kW0_2 : W0.cell? ⟨w.heap.size, 1, none⟩ = some (.int .i64 (y)) := by rw [← hW]; clear hW; first | (go_simp; done) | ((repeat refine keepcell ((Below.refl _ _).alloc (Nat.le_refl _) _) ?_); go_simp; done) | (simp only [frozen?_alloc_cells]; go_simp; done)
  have : w.heap.size < W0.heap.size := World.block_lt_of_cell? W0 ⟨w.heap.size, 0, none⟩ (by assumption)
  have hBW0 : Below w.heap.size w W0 := by rw [← hW]; (repeat' (first | assumption | exact Below.refl _ _ | apply Blw.alloc | apply Blw.drew | apply Blw.drewN | (refine Blw.after ?_ (by assumption)) | (refine Blw.set ?_ (by first | (dsimp only; omega) | (simp; done) | (simp; omega)) _)))
  have hsW0 := hBW0.size
  clear hW
  go_wp2_with (first | (go_at_call 31; refine (hD _).mono ?_; rintro e w1 ⟨rfl, hb⟩; have hk : Hld W0 w1 := heldM (by (repeat' (first | assumption | exact Below.refl _ _ | apply Blw.alloc | apply Blw.drew | apply Blw.drewN | (refine Blw.after ?_ (by assumption)) | (refine Blw.set ?_ (by first | (dsimp only; omega) | (simp; done) | (simp; omega)) _)))); have hk1 := hk.1) | (go_at_call 32; refine (l6In_c _ _ _ _).mono ?_; rintro e w1 ⟨rfl, rfl⟩))
  go_loopg [6] (k + 1 - d.size) (fun m v wr => PadRel d k w m v wr)
  case atStart => exact ⟨0, by omega, by rw [zz_none], by (repeat' (first | assumption | exact Below.refl _ _ | apply Blw.alloc | apply Blw.drew | apply Blw.drewN | (refine Blw.after ?_ (by assumption)) | (refine Blw.set ?_ (by first | (dsimp only; omega) | (simp; done) | (simp; omega)) _)))⟩
  case round =>
    obtain ⟨j, hj, rfl, hBw⟩ := hrel
    have z1 : (zz j ++ d).size = j + d.size := by rw [ByteArray.size_append, zz_size]
    by_cases hlt : j + d.size ≤ k
    · have e1 := zz_more j d
      go_wp2_with fail
      go_roundg (gk - 1)
      case measure => omega
      case rel => exact ⟨j + 1, by omega, by first | rfl | rw [e1], by (repeat' (first | assumption | exact Below.refl _ _ | apply Blw.alloc | apply Blw.drew | apply Blw.drewN | (refine Blw.after ?_ (by assumption)) | (refine Blw.set ?_ (by first | (dsimp only; omega) | (simp; done) | (simp; omega)) _)))⟩
    · obtain rfl : j = k + 1 - d.size := by omega
      have e2 : zz (k + 1 - d.size) ++ d = padS d k := rfl
      rw [e2] at z1 ⊢
      have hP := HP.out
      obtain ⟨A, hA⟩ : ∃ A, (padS d k).size = A + k := ⟨(padS d k).size - k, by omega⟩
      have hT := HT.out
      obtain ⟨N, hN⟩ : ∃ N, N = A + k := ⟨_, rfl⟩
      rw [hA, show A + k - k = A by omega, ← hN] at hT
      have e3 : ((k + 1 - d.size + d.size : Nat) : Int) - (k : Int) = (A : Nat) := by omega
      have e4 : k + 1 - d.size + d.size = N := by omega
      have s1 : ((padS d k).extract 0 A).size = A := by rw [ByteArray.size_extract]; omega
      have s2 : ((padS d k).extract 0 A ++ ⟨#[46]⟩).size = A + 1 := by rw [ByteArray.size_append, s1]; rfl
      have s3 : ((padS d k).extract A N).size = k := by rw [ByteArray.size_extract]; omega
      have hA2 : A ≤ 1000 := by omega
      have hN2 : N ≤ 2000 := by omega
      have hnle : ¬ N ≤ k := by omega
      have hs1 : ¬ (9223372036854775807 < A + 1) := by omega
      have hs2 : ¬ (9223372036854775807 < A + 1 + k) := by omega
      have hsz : (txS d k).size ≤ 2000000 := by rw [hT, ByteArray.size_append, s2, s3]; omega
      have hA3 : A ≤ N := by omega
      have H3 := Lib.hid hT
      have hcb := HC.out
      clear hT hP hA hlt hj hN
      generalize padS d k = P at *
      rw [e4] at z1 e3
      clear e2 e4
      go_upto_region 7 with fail
      have hNE : ∀ w, Nonempty (BelowW w) := BelowW.none
      refine wp_region_below (by kernel_rfl) (by kernel_rfl) ?_
      repeat
        (with_reducible refine wpQuiet_step ?_
         intro K hK
         go_simp
         first
           | (refine hK _ ?_; clear hK K)
           | (apply Exists.intro
              refine ⟨fun xW => ?_, hK _ ?_⟩
              (fail)
              clear hK K))
      with_reducible refine wpQuiet_nil ?_
      rintro _ ⟨⟨w2, hb2⟩, rfl⟩
      try dsimp only
      go_wp2_with fail
      rw [← H3.out]
      refine (sPlacesValidT_c _ _ hsz).mono ?_
      rintro e w3 ⟨rfl, hb3⟩
      rw [hcb]
      go_wp2_with fail
      go_ret2
      exact ⟨by rw [H3.out]; rfl, by (repeat' (first | assumption | exact Below.refl _ _ | apply Blw.alloc | apply Blw.drew | apply Blw.drewN | (refine Blw.after ?_ (by assumption)) | (refine Blw.set ?_ (by first | (dsimp only; omega) | (simp; done) | (simp; omega)) _)))⟩
set_option maxHeartbeats 2000000 in
theorem iPlacesText_y (x y : Int) (k : Nat) (d : ByteArray) (w : World) (hV : ofV x y = .tuple #[.string d, .bool true]) (hv : vldB d = true) (hk : k ≤ 30) :
    Calls Tryd.prog 9 #[pr x y, .int .i64 k] w fun e w' => e = .returned (.tuple #[.string (txS d k), .bool true]) ∧ Below w.heap.size w w' := by
  have hD : ∀ w, Calls Tryd.prog 29 #[pr x y] w fun e w' => e = .returned (.tuple #[.string d, .bool true]) ∧ Below w.heap.size w w' := fun w => by rw [← hV]; exact iDigitsOf_c x y w
  have hl := vldB_len hv
  have hl2 := hl.2
  have hP := padS_size d k
  have hT : txS d k = (padS d k).extract 0 ((padS d k).size - k) ++ ⟨#[46]⟩ ++ (padS d k).extract ((padS d k).size - k) (padS d k).size := rfl
  obtain ⟨A, hA⟩ : ∃ A, (padS d k).size = A + k := ⟨(padS d k).size - k, by omega⟩
  obtain ⟨N, hN⟩ : ∃ N, N = A + k := ⟨_, rfl⟩
  rw [hA, show A + k - k = A by omega, ← hN] at hT
  have e4 : (N : Int) - (k : Int) = (A : Nat) := by omega
  have s0 : (padS d k).size = N := by omega
  have hN2 : N ≤ 2000 := by omega
  have s1 : ((padS d k).extract 0 A).size = A := by rw [ByteArray.size_extract]; omega
  have s2 : ((padS d k).extract 0 A ++ ⟨#[46]⟩).size = A + 1 := by rw [ByteArray.size_append, s1]; rfl
  have s3 : ((padS d k).extract A N).size = k := by rw [ByteArray.size_extract]; omega
  have hA2 : A ≤ 1000 := by omega
  have hA3 : A ≤ N := by omega
  have hs1 : ¬ (9223372036854775807 < A + 1) := by omega
  have hs2 : ¬ (9223372036854775807 < A + 1 + k) := by omega
  have H3 := Lib.hid hT
  by_cases hm : d.size ≤ k
  · have hz : k + 1 - d.size = (k + 1 - d.size : Nat) := rfl
    obtain ⟨n, hn⟩ : ∃ n, k + 1 = d.size + n := ⟨k + 1 - d.size, by omega⟩
    have e1 : (k : Int) + 1 - (d.size : Int) = (n : Nat) := by omega
    have n0 : 0 < n := by omega
    have n1 : n ≤ 31 := by omega
    have e2 : zz n ++ d = padS d k := by unfold padS; rw [show k + 1 - d.size = n by omega]
    have s5 := zz_size n
    have HR := fun w => rep_c n w (by omega)
    clear hT hP hA hz hn hV hv hl hN
    generalize padS d k = P at *
    go_enter Tryd.func9, Tryd.ntmps9
    go_wp2_with fail
    generalize hW : World.alloc _ _ = W0
    have kW0_3 : W0.cell? ⟨w.heap.size, 0, none⟩ = some (.int .i64 (x)) := by rw [← hW]; clear hW; first | (go_simp; done) | ((repeat refine keepcell ((Below.refl _ _).alloc (Nat.le_refl _) _) ?_); go_simp; done) | (simp only [frozen?_alloc_cells]; go_simp; done)
    have kW0_4 : W0.cell? ⟨w.heap.size, 1, none⟩ = some (.int .i64 (y)) := by rw [← hW]; clear hW; first | (go_simp; done) | ((repeat refine keepcell ((Below.refl _ _).alloc (Nat.le_refl _) _) ?_); go_simp; done) | (simp only [frozen?_alloc_cells]; go_simp; done)
    have : w.heap.size < W0.heap.size := World.block_lt_of_cell? W0 ⟨w.heap.size, 0, none⟩ (by assumption)
    have hBW0 : Below w.heap.size w W0 := by rw [← hW]; (repeat' (first | assumption | exact Below.refl _ _ | apply Blw.alloc | apply Blw.drew | apply Blw.drewN | (refine Blw.after ?_ (by assumption)) | (refine Blw.set ?_ (by first | (dsimp only; omega) | (simp; done) | (simp; omega)) _)))
    have hsW0 := hBW0.size
    clear hW
    go_wp2_with (first | (go_at_call 29; refine (hD _).mono ?_; rintro e w1 ⟨rfl, hb⟩; have hk : Hld W0 w1 := heldM (by (repeat' (first | assumption | exact Below.refl _ _ | apply Blw.alloc | apply Blw.drew | apply Blw.drewN | (refine Blw.after ?_ (by assumption)) | (refine Blw.set ?_ (by first | (dsimp only; omega) | (simp; done) | (simp; omega)) _)))); have hk1 := hk.1) | (go_at_call 30; refine (HR _).mono ?_; rintro e w1 ⟨rfl, hb⟩; have hk : Hld W0 w1 := heldM (by (repeat' (first | assumption | exact Below.refl _ _ | apply Blw.alloc | apply Blw.drew | apply Blw.drewN | (refine Blw.after ?_ (by assumption)) | (refine Blw.set ?_ (by first | (dsimp only; omega) | (simp; done) | (simp; omega)) _)))); have hk1 := hk.1))
    have hNE : ∀ w, Nonempty (BelowW w) := BelowW.none
    refine wp_region_below (by kernel_rfl) (by kernel_rfl) ?_
    repeat
      (with_reducible refine wpQuiet_step ?_
       intro K hK
       go_simp
       first
         | (refine hK _ ?_; clear hK K)
         | (apply Exists.intro
            refine ⟨fun xW => ?_, hK _ ?_⟩
            (fail)
            clear hK K))
    with_reducible refine wpQuiet_nil ?_
    rintro _ ⟨⟨w2, hb2⟩, rfl⟩
    try dsimp only
    go_wp2_with fail
    go_ret2
    exact ⟨by rw [H3.out]; rfl, by (repeat' (first | assumption | exact Below.refl _ _ | apply Blw.alloc | apply Blw.drew | apply Blw.drewN | (refine Blw.after ?_ (by assumption)) | (refine Blw.set ?_ (by first | (dsimp only; omega) | (simp; done) | (simp; omega)) _)))⟩
  · have e2 : padS d k = d := by unfold padS; rw [show k + 1 - d.size = 0 by omega, zz_none]
    rw [e2] at s0 s1 s2 s3 H3
    clear hT hP hA hV hv hl hN
    go_enter Tryd.func9, Tryd.ntmps9
    go_wp2_with fail
    generalize hW : World.alloc _ _ = W0
    have kW0_5 : W0.cell? ⟨w.heap.size, 0, none⟩ = some (.int .i64 (x)) := by rw [← hW]; clear hW; first | (go_simp; done) | ((repeat refine keepcell ((Below.refl _ _).alloc (Nat.le_refl _) _) ?_); go_simp; done) | (simp only [frozen?_alloc_cells]; go_simp; done)
    have kW0_6 : W0.cell? ⟨w.heap.size, 1, none⟩ = some (.int .i64 (y)) := by rw [← hW]; clear hW; first | (go_simp; done) | ((repeat refine keepcell ((Below.refl _ _).alloc (Nat.le_refl _) _) ?_); go_simp; done) | (simp only [frozen?_alloc_cells]; go_simp; done)
    have : w.heap.size < W0.heap.size := World.block_lt_of_cell? W0 ⟨w.heap.size, 0, none⟩ (by assumption)
    have hBW0 : Below w.heap.size w W0 := by rw [← hW]; (repeat' (first | assumption | exact Below.refl _ _ | apply Blw.alloc | apply Blw.drew | apply Blw.drewN | (refine Blw.after ?_ (by assumption)) | (refine Blw.set ?_ (by first | (dsimp only; omega) | (simp; done) | (simp; omega)) _)))
    have hsW0 := hBW0.size
    clear hW
    go_wp2_with (first | (go_at_call 29; refine (hD _).mono ?_; rintro e w1 ⟨rfl, hb⟩; have hk : Hld W0 w1 := heldM (by (repeat' (first | assumption | exact Below.refl _ _ | apply Blw.alloc | apply Blw.drew | apply Blw.drewN | (refine Blw.after ?_ (by assumption)) | (refine Blw.set ?_ (by first | (dsimp only; omega) | (simp; done) | (simp; omega)) _)))); have hk1 := hk.1))
    have hNE : ∀ w, Nonempty (BelowW w) := BelowW.none
    refine wp_region_below (by kernel_rfl) (by kernel_rfl) ?_
    repeat
      (with_reducible refine wpQuiet_step ?_
       intro K hK
       go_simp
       first
         | (refine hK _ ?_; clear hK K)
         | (apply Exists.intro
            refine ⟨fun xW => ?_, hK _ ?_⟩
            (fail)
            clear hK K))
    with_reducible refine wpQuiet_nil ?_
    rintro _ ⟨⟨w2, hb2⟩, rfl⟩
    try dsimp only
    go_wp2_with fail
    go_ret2
    exact ⟨by rw [H3.out]; rfl, by (repeat' (first | assumption | exact Below.refl _ _ | apply Blw.alloc | apply Blw.drew | apply Blw.drewN | (refine Blw.after ?_ (by assumption)) | (refine Blw.set ?_ (by first | (dsimp only; omega) | (simp; done) | (simp; omega)) _)))⟩
theorem sPlacesText_n (x y k : Int) (w : World) (h : ofV x y = .tuple #[.string ⟨#[]⟩, .bool false] ∨ inR 0 30 k = false) :
    Calls Tryd.prog 10 #[pr x y, .int .i64 k] w fun e w' => e = .returned (.tuple #[.string ⟨#[]⟩, .bool false]) ∧ Below w.heap.size w w' := by
  obtain ⟨d, b, hV⟩ : ∃ d b, ofV x y = .tuple #[.string d, .bool b] := by
    rcases ofV_cases x y with ⟨d, h, _⟩ | h
    · exact ⟨_, _, h⟩
    · exact ⟨_, _, h⟩
  have hD : ∀ w, Calls Tryd.prog 31 #[pr x y] w fun e w' => e = .returned (.tuple #[.string d, .bool b]) ∧ Below w.heap.size w w' := fun w => by rw [← hV]; exact sDigitsOf_c x y w
  have hb : b = false ∨ inR 0 30 k = false := by
    rcases h with h | h
    · rw [h] at hV; injection hV with hV; simp at hV; exact .inl hV.2
    · exact .inr h
  clear h hV
  have hb' : b = false ∨ (b = true ∧ inR 0 30 k = false) := by cases b; exact .inl rfl; exact .inr ⟨rfl, hb.resolve_left (by simp)⟩
  clear hb
  rcases hb' with rfl | ⟨rfl, hin⟩
  all_goals
    go_enter Tryd.func10, Tryd.ntmps10
    go_wp2_with fail
    generalize hW : World.alloc _ _ = W0
    have kW0_7 : W0.cell? ⟨w.heap.size, 0, none⟩ = some (.int .i64 (x)) := by rw [← hW]; clear hW; first | (go_simp; done) | ((repeat refine keepcell ((Below.refl _ _).alloc (Nat.le_refl _) _) ?_); go_simp; done) | (simp only [frozen?_alloc_cells]; go_simp; done)
    have kW0_8 : W0.cell? ⟨w.heap.size, 1, none⟩ = some (.int .i64 (y)) := by rw [← hW]; clear hW; first | (go_simp; done) | ((repeat refine keepcell ((Below.refl _ _).alloc (Nat.le_refl _) _) ?_); go_simp; done) | (simp only [frozen?_alloc_cells]; go_simp; done)
    have : w.heap.size < W0.heap.size := World.block_lt_of_cell? W0 ⟨w.heap.size, 0, none⟩ (by assumption)
    have hBW0 : Below w.heap.size w W0 := by rw [← hW]; (repeat' (first | assumption | exact Below.refl _ _ | apply Blw.alloc | apply Blw.drew | apply Blw.drewN | (refine Blw.after ?_ (by assumption)) | (refine Blw.set ?_ (by first | (dsimp only; omega) | (simp; done) | (simp; omega)) _)))
    have hsW0 := hBW0.size
    clear hW
    go_wp2_with (first | (go_at_call 31; refine (hD _).mono ?_; rintro e w1 ⟨rfl, hb⟩; have hk : Hld W0 w1 := heldM (by (repeat' (first | assumption | exact Below.refl _ _ | apply Blw.alloc | apply Blw.drew | apply Blw.drewN | (refine Blw.after ?_ (by assumption)) | (refine Blw.set ?_ (by first | (dsimp only; omega) | (simp; done) | (simp; omega)) _)))); have hk1 := hk.1) | (go_at_call 32; refine (l6In_c _ _ _ _).mono ?_; rintro e w1 ⟨rfl, rfl⟩))
    go_ret2
    exact ⟨rfl, by (repeat' (first | assumption | exact Below.refl _ _ | apply Blw.alloc | apply Blw.drew | apply Blw.drewN | (refine Blw.after ?_ (by assumption)) | (refine Blw.set ?_ (by first | (dsimp only; omega) | (simp; done) | (simp; omega)) _)))⟩
theorem iPlacesText_n (x y k : Int) (w : World) (h : ofV x y = .tuple #[.string ⟨#[]⟩, .bool false] ∨ inR 0 30 k = false) :
    Calls Tryd.prog 9 #[pr x y, .int .i64 k] w fun e w' => e = .returned (.tuple #[.string ⟨#[]⟩, .bool false]) ∧ Below w.heap.size w w' := by
  obtain ⟨d, b, hV⟩ : ∃ d b, ofV x y = .tuple #[.string d, .bool b] := by
    rcases ofV_cases x y with ⟨d, h, _⟩ | h
    · exact ⟨_, _, h⟩
    · exact ⟨_, _, h⟩
  have hD : ∀ w, Calls Tryd.prog 29 #[pr x y] w fun e w' => e = .returned (.tuple #[.string d, .bool b]) ∧ Below w.heap.size w w' := fun w => by rw [← hV]; exact iDigitsOf_c x y w
  have hb : b = false ∨ (b = true ∧ (k < 0 ∨ 30 < k)) := by
    rcases h with h | h
    · rw [h] at hV; injection hV with hV; simp at hV; exact .inl hV.2
    · cases b
      · exact .inl rfl
      · right; refine ⟨rfl, ?_⟩; simp [inR] at h; omega
  clear h hV
  rcases hb with rfl | ⟨rfl, h | h⟩
  · go_enter Tryd.func9, Tryd.ntmps9
    go_wp2_with fail
    generalize hW : World.alloc _ _ = W0
    have kW0_9 : W0.cell? ⟨w.heap.size, 0, none⟩ = some (.int .i64 (x)) := by rw [← hW]; clear hW; first | (go_simp; done) | ((repeat refine keepcell ((Below.refl _ _).alloc (Nat.le_refl _) _) ?_); go_simp; done) | (simp only [frozen?_alloc_cells]; go_simp; done)
    have kW0_10 : W0.cell? ⟨w.heap.size, 1, none⟩ = some (.int .i64 (y)) := by rw [← hW]; clear hW; first | (go_simp; done) | ((repeat refine keepcell ((Below.refl _ _).alloc (Nat.le_refl _) _) ?_); go_simp; done) | (simp only [frozen?_alloc_cells]; go_simp; done)
    have : w.heap.size < W0.heap.size := World.block_lt_of_cell? W0 ⟨w.heap.size, 0, none⟩ (by assumption)
    have hBW0 : Below w.heap.size w W0 := by rw [← hW]; (repeat' (first | assumption | exact Below.refl _ _ | apply Blw.alloc | apply Blw.drew | apply Blw.drewN | (refine Blw.after ?_ (by assumption)) | (refine Blw.set ?_ (by first | (dsimp only; omega) | (simp; done) | (simp; omega)) _)))
    have hsW0 := hBW0.size
    clear hW
    go_wp2_with (first | (go_at_call 29; refine (hD _).mono ?_; rintro e w1 ⟨rfl, hb⟩; have hk : Hld W0 w1 := heldM (by (repeat' (first | assumption | exact Below.refl _ _ | apply Blw.alloc | apply Blw.drew | apply Blw.drewN | (refine Blw.after ?_ (by assumption)) | (refine Blw.set ?_ (by first | (dsimp only; omega) | (simp; done) | (simp; omega)) _)))); have hk1 := hk.1))
    go_ret2
    exact ⟨rfl, by (repeat' (first | assumption | exact Below.refl _ _ | apply Blw.alloc | apply Blw.drew | apply Blw.drewN | (refine Blw.after ?_ (by assumption)) | (refine Blw.set ?_ (by first | (dsimp only; omega) | (simp; done) | (simp; omega)) _)))⟩
  · go_enter Tryd.func9, Tryd.ntmps9
    go_wp2_with fail
    generalize hW : World.alloc _ _ = W0
    have kW0_11 : W0.cell? ⟨w.heap.size, 0, none⟩ = some (.int .i64 (x)) := by rw [← hW]; clear hW; first | (go_simp; done) | ((repeat refine keepcell ((Below.refl _ _).alloc (Nat.le_refl _) _) ?_); go_simp; done) | (simp only [frozen?_alloc_cells]; go_simp; done)
    have kW0_12 : W0.cell? ⟨w.heap.size, 1, none⟩ = some (.int .i64 (y)) := by rw [← hW]; clear hW; first | (go_simp; done) | ((repeat refine keepcell ((Below.refl _ _).alloc (Nat.le_refl _) _) ?_); go_simp; done) | (simp only [frozen?_alloc_cells]; go_simp; done)
    have : w.heap.size < W0.heap.size := World.block_lt_of_cell? W0 ⟨w.heap.size, 0, none⟩ (by assumption)
    have hBW0 : Below w.heap.size w W0 := by rw [← hW]; (repeat' (first | assumption | exact Below.refl _ _ | apply Blw.alloc | apply Blw.drew | apply Blw.drewN | (refine Blw.after ?_ (by assumption)) | (refine Blw.set ?_ (by first | (dsimp only; omega) | (simp; done) | (simp; omega)) _)))
    have hsW0 := hBW0.size
    clear hW
    go_wp2_with (first | (go_at_call 29; refine (hD _).mono ?_; rintro e w1 ⟨rfl, hb⟩; have hk : Hld W0 w1 := heldM (by (repeat' (first | assumption | exact Below.refl _ _ | apply Blw.alloc | apply Blw.drew | apply Blw.drewN | (refine Blw.after ?_ (by assumption)) | (refine Blw.set ?_ (by first | (dsimp only; omega) | (simp; done) | (simp; omega)) _)))); have hk1 := hk.1))
    go_ret2
    exact ⟨rfl, by (repeat' (first | assumption | exact Below.refl _ _ | apply Blw.alloc | apply Blw.drew | apply Blw.drewN | (refine Blw.after ?_ (by assumption)) | (refine Blw.set ?_ (by first | (dsimp only; omega) | (simp; done) | (simp; omega)) _)))⟩
  · have h0 : ¬ k < 0 := by omega
    go_enter Tryd.func9, Tryd.ntmps9
    go_wp2_with fail
    generalize hW : World.alloc _ _ = W0
    have kW0_13 : W0.cell? ⟨w.heap.size, 0, none⟩ = some (.int .i64 (x)) := by rw [← hW]; clear hW; first | (go_simp; done) | ((repeat refine keepcell ((Below.refl _ _).alloc (Nat.le_refl _) _) ?_); go_simp; done) | (simp only [frozen?_alloc_cells]; go_simp; done)
    have kW0_14 : W0.cell? ⟨w.heap.size, 1, none⟩ = some (.int .i64 (y)) := by rw [← hW]; clear hW; first | (go_simp; done) | ((repeat refine keepcell ((Below.refl _ _).alloc (Nat.le_refl _) _) ?_); go_simp; done) | (simp only [frozen?_alloc_cells]; go_simp; done)
    have : w.heap.size < W0.heap.size := World.block_lt_of_cell? W0 ⟨w.heap.size, 0, none⟩ (by assumption)
    have hBW0 : Below w.heap.size w W0 := by rw [← hW]; (repeat' (first | assumption | exact Below.refl _ _ | apply Blw.alloc | apply Blw.drew | apply Blw.drewN | (refine Blw.after ?_ (by assumption)) | (refine Blw.set ?_ (by first | (dsimp only; omega) | (simp; done) | (simp; omega)) _)))
    have hsW0 := hBW0.size
    clear hW
    go_wp2_with (first | (go_at_call 29; refine (hD _).mono ?_; rintro e w1 ⟨rfl, hb⟩; have hk : Hld W0 w1 := heldM (by (repeat' (first | assumption | exact Below.refl _ _ | apply Blw.alloc | apply Blw.drew | apply Blw.drewN | (refine Blw.after ?_ (by assumption)) | (refine Blw.set ?_ (by first | (dsimp only; omega) | (simp; done) | (simp; omega)) _)))); have hk1 := hk.1))
    go_ret2
    exact ⟨rfl, by (repeat' (first | assumption | exact Below.refl _ _ | apply Blw.alloc | apply Blw.drew | apply Blw.drewN | (refine Blw.after ?_ (by assumption)) | (refine Blw.set ?_ (by first | (dsimp only; omega) | (simp; done) | (simp; omega)) _)))⟩
end Go.Proofs.YtlcafjdinjdllabDoor
