/- Chapter 2, the program's side: the expansion of a row of digits; DigitsOf. -/
import Derived.Test.YtaleeoghifcadaaDoorDg
namespace Go.Proofs.YtaleeoghifcadaaDoor
set_option linter.unusedSimpArgs false
set_option linter.unusedVariables false
open Go.RowKit Go.Lib Go.Sort

def TrimRel (s : ByteArray) (w : World) (m : Nat) (v : Value) (wr : World) : Prop := ∃ t : ByteArray, v = .string t ∧ t.size ≤ m ∧ wr = w ∧ drop0 (toL t) = drop0 (toL s)
theorem drop0_cons48 {l : List UInt8} (h : l[0]? = some 48) : drop0 (l.drop 1) = drop0 l := by
  cases l with
  | nil => simp at h
  | cons c r => simp at h; subst h; simp [drop0]
theorem drop0_keep {l : List UInt8} (h : l[0]? ≠ some 48) : drop0 l = l := by
  cases l with
  | nil => rfl
  | cons c r => simp at h; simp [drop0, h]
set_option maxHeartbeats 1000000 in
theorem trimLeftByte_c (s : ByteArray) (w : World) : Calls Tryd.prog 84 #[.string s, .int .u8 48] w fun e w' => e = .returned (.string (bs (drop0 (toL s)))) ∧ w = w' := by
  go_enter Tryd.func84, Tryd.ntmps84
  go_wp2
  go_loopg [0] s.size (fun m v wr => TrimRel s w m v wr)
  case atStart => exact ⟨s, rfl, Nat.le_refl _, rfl, rfl⟩
  case round =>
    obtain ⟨t, rfl, ht, rfl, hst⟩ := hrel
    have HT := Lib.hid hst
    clear hst
    by_cases h0 : 0 < t.size
    · have hg := Lib.hid (toL_get t 0 h0)
      by_cases e8 : t[0].toNat = 48
      · have HS := Lib.hid (drop0_cons48 (l := toL t) (by rw [hg.out]; congr 1; exact UInt8.toNat_inj.1 (by rw [e8]; rfl)))
        have a1 : ((t[0].toNat : Int) == 48) = true := by simp [e8]
        have hsz : t.size - 1 < t.size := by omega
        clear e8
        go_wp2
        go_roundg (gk - 1)
        case measure => omega
        case rel => exact ⟨t.extract 1 t.size, rfl, by simp; omega, rfl, by rw [toL_from1, HS.out, HT.out]⟩
      · have HS := Lib.hid (drop0_keep (l := toL t) (by rw [hg.out]; intro e; apply e8; rw [Option.some.injEq] at e; rw [e]; rfl))
        have a1 : ((t[0].toNat : Int) == 48) = false := by simp; omega
        clear e8
        have HR := Lib.hid (show bs (drop0 (toL s)) = t by rw [← HT.out, HS.out, bs_toL])
        go_wp2
        go_ret
        exact ⟨by rw [HR.out]; rfl, rfl⟩
    · have HR := Lib.hid (show bs (drop0 (toL s)) = t by
        rw [← HT.out]
        have : toL t = [] := List.eq_nil_of_length_eq_zero (by rw [toL_len]; omega)
        rw [this]; exact toL_ext (by rw [this, toL_bs]; try rfl))
      go_wp2
      go_ret
      exact ⟨by rw [HR.out]; rfl, rfl⟩
set_option maxRecDepth 100000 in
theorem trimLeft_c (s : ByteArray) (w : World) : Calls Tryd.prog 73 #[.string s, .string ⟨#[48]⟩] w fun e w' => e = .returned (.string (bs (drop0 (toL s)))) ∧ w = w' := by
  by_cases h : toL s = []
  · obtain rfl : s = ⟨#[]⟩ := toL_ext (by rw [h])
    go_enter Tryd.func73, Tryd.ntmps73
    go_wp2
    go_ret
    exact ⟨rfl, rfl⟩
  · have e1 : ¬ s.toList = [] := by rw [toList_toL]; exact h
    have e2 : s.toList.isEmpty = false := by rw [toList_toL]; simpa using h
    clear h
    go_enter Tryd.func73, Tryd.ntmps73
    go_wp2_with (go_at_call 84; refine (trimLeftByte_c _ _).mono ?_; rintro e w' ⟨rfl, rfl⟩)
    go_ret
    exact ⟨rfl, rfl⟩

/-- the expansion of digits that stand from the last one on -/
def exV (l : List UInt8) : Value := resD (if l = [] then [48] else l.reverse)
theorem exV_shape (l : List UInt8) : ∃ a b, exV l = .tuple #[.string a, .bool b] := ⟨_, _, rfl⟩
theorem exV_none {l : List UInt8} (h : ∀ c ∈ l, bitC c = true) (h0 : drop0 l.reverse = []) : exV l = .tuple #[.string ⟨#[48]⟩, .bool true] := by
  unfold exV
  by_cases hl : l = []
  · subst hl; rfl
  · rw [if_neg hl]
    have hs : strip l.reverse = [48] := by rw [strip_drop0 (by simpa using hl), if_pos h0]
    unfold resD
    rw [hs]; rfl
theorem exV_some {l : List UInt8} (h : ∀ c ∈ l, bitC c = true) (h0 : drop0 l.reverse ≠ []) : exV l = .tuple #[.string (selS (decide ((drop0 l.reverse).length ≤ 50)) (drop0 l.reverse)), .bool (decide ((drop0 l.reverse).length ≤ 50))] := by
  unfold exV
  have hl : l ≠ [] := by rintro rfl; exact h0 rfl
  rw [if_neg hl]
  have hs : strip l.reverse = drop0 l.reverse := by rw [strip_drop0 (by simpa using hl), if_neg h0]
  unfold resD
  rw [vldL_strip (by intro c hc; exact h c (by simpa using hc)) (by simpa using hl), hs]

theorem own_holds {w : World} {B g cap : Nat} {l : List UInt8} (h : w.ownsRow B 5 1 (.slice (some ⟨g, 0, none⟩) l.length cap) l.length (l.map encB)) : Holds encB w g 0 l.toArray := by
  intro j hj
  have hj' : j < l.length := by simpa using hj
  rw [Nat.zero_add]
  refine ⟨?_, h.frozenAt j⟩
  rw [h.cellAt j (by omega)]
  simp [List.getElem?_map, List.getElem?_eq_getElem hj', getElem!_pos, hj']
theorem putRow_grown {w : World} {n g : Nat} {d : Array UInt8} : w.grownBy (putRow encB (Sort.ahead w n) g 0 d) (some g) :=
  ⟨rfl, rfl, rfl, by rw [size_putRow]; exact Nat.le_refl _, fun k _ hk => by
    show (w.heap.modify g _)[k]? = _
    rw [Array.getElem?_modify, if_neg (fun e => hk (by rw [e]))]⟩

/-- the world behind the exchange -/
def Turned (l : List UInt8) (v : Value) (w : World) (W : World) : Prop :=
  (convert 22 9 v).run Tryd.prog W = .ok (.string (bs l.reverse)) W ∧ w.grownBy W v.ownBlock
set_option maxRecDepth 100000 in
set_option maxHeartbeats 1000000 in
/-- the walk behind the exchange -/
theorem expansion_of (l : List UInt8) (v : Value) (w : World) (hb : ∀ c ∈ l, bitC c = true) (hrev : Calls Tryd.prog 72 #[v] w fun e W => e = .returned (.tuple #[]) ∧ Turned l v w W) :
    Calls Tryd.prog 53 #[v] w fun e w' => e = .returned (exV l) ∧ w.grownBy w' v.ownBlock := by
  by_cases h0 : drop0 l.reverse = []
  · have H := Lib.hid (exV_none hb h0)
    have HD := Lib.hid (show bs (drop0 (toL (bs l.reverse))) = ⟨#[]⟩ by rw [toL_bs, h0]; rfl)
    clear h0
    go_enter Tryd.func53, Tryd.ntmps53
    go_wp2_with fail
    refine hrev.mono ?_
    rintro e W ⟨rfl, hconv, hB⟩
    go_wp2_with fail
    refine (trimLeft_c _ _).mono ?_
    rintro e w1 ⟨rfl, rfl⟩
    rw [HD.out]
    go_wp2
    go_ret2
    exact ⟨by rw [H.out]; rfl, hB⟩
  · have H := Lib.hid (exV_some hb h0)
    generalize hT : bs (drop0 (toL (bs l.reverse))) = T
    have hTL : toL T = drop0 l.reverse := by rw [← hT, toL_bs, toL_bs]
    have HT := Lib.hid hT
    have e1 : ¬ T.toList = [] := by rw [toList_toL, hTL]; exact h0
    have e2 : T.toList.isEmpty = false := by rw [toList_toL, hTL]; simpa using h0
    have HB := Lib.hid (show bs (drop0 l.reverse) = T by rw [← hTL, bs_toL])
    have hlen : T.size = (drop0 l.reverse).length := by rw [← hTL, toL_len]
    have HL := Lib.hid hlen
    clear h0 hT hTL hlen
    by_cases h50 : T.size ≤ 50
    · have HF := Lib.hid (show exV l = .tuple #[.string T, .bool true] by rw [H.out, ← HL.out]; simp [selS, h50, HB.out])
      go_enter Tryd.func53, Tryd.ntmps53
      go_wp2_with fail
      refine hrev.mono ?_
      rintro e W ⟨rfl, hconv, hB⟩
      go_wp2_with fail
      refine (trimLeft_c _ _).mono ?_
      rintro e w1 ⟨rfl, rfl⟩
      rw [HT.out]
      go_wp2
      go_ret2
      exact ⟨by rw [HF.out]; rfl, hB⟩
    · have HF := Lib.hid (show exV l = .tuple #[.string ⟨#[]⟩, .bool false] by rw [H.out, ← HL.out]; simp [selS, h50, bs])
      go_enter Tryd.func53, Tryd.ntmps53
      go_wp2_with fail
      refine hrev.mono ?_
      rintro e W ⟨rfl, hconv, hB⟩
      go_wp2_with fail
      refine (trimLeft_c _ _).mono ?_
      rintro e w1 ⟨rfl, rfl⟩
      rw [HT.out]
      go_wp2
      go_ret2
      exact ⟨by rw [HF.out]; rfl, hB⟩
theorem reverse_none (w : World) : Calls Tryd.prog 72 #[.slice none 0 0] w fun e w' => e = .returned (.tuple #[]) ∧ w = w' := by
  go_enter Tryd.func72, Tryd.ntmps72
  go_wp2
  go_loopg [2, 3] 0 (fun _ s2 s3 wr => s2 = .int .i64 0 ∧ s3 = .int .i64 (-1) ∧ wr = w)
  case atStart => exact ⟨rfl, rfl, rfl⟩
  case round =>
    obtain ⟨rfl, rfl, rfl⟩ := hrel
    go_wp2
    go_end0
    exact ⟨rfl, rfl⟩
theorem conv_none (w : World) : (convert 22 9 (.slice none 0 0)).run Tryd.prog w = .ok (.string ⟨#[]⟩) w := by
  rw [run_convert_bytes_string w _ _ _ none 0 0 Tryd.underlying22 Tryd.underlying5 Tryd.underlying9]
  rfl
theorem expansion_c (l : List UInt8) (v : Value) (w : World) (B : Nat) (hb : ∀ c ∈ l, bitC c = true) (hown : w.ownsRow B 5 1 v l.length (l.map encB)) (hl : l.length ≤ 4000000000000) : Calls Tryd.prog 53 #[v] w fun e w' => e = .returned (exV l) ∧ w.grownBy w' v.ownBlock := by
  rcases hown.2 with ⟨rfl, h0⟩ | ⟨g, cap, cur, rfl, hg, hgg, -⟩
  · obtain rfl : l = [] := List.eq_nil_of_length_eq_zero h0
    refine expansion_of [] _ w hb ((reverse_none w).mono ?_)
    rintro e w' ⟨rfl, rfl⟩
    exact ⟨rfl, conv_none w, rfl, rfl, rfl, Nat.le_refl _, fun _ _ _ => rfl⟩
  · have hH := own_holds hown
    have hr := reverse_c g 0 cap l.toArray w hH (by simpa using hl)
    rw [List.size_toArray] at hr
    refine expansion_of l _ w hb (hr.mono ?_)
    rintro e W ⟨rfl, n, rfl⟩
    refine ⟨rfl, ?_, putRow_grown⟩
    have hh := holds_putRow encB (Sort.ahead w n) g 0 l.toArray l.toArray.reverse (holds_ahead encB w n g 0 _ hH) (by simp)
    have e := run_convert_bytes_back (P := Tryd.prog) (putRow encB (Sort.ahead w n) g 0 l.toArray.reverse) 22 9 5 ⟨g, 0, none⟩ cap l.reverse Tryd.underlying22 Tryd.underlying5 Tryd.underlying9 (fun j hj => by
      have := (hh j (by simpa using hj)).1
      rw [show (⟨g, 0, none⟩ : Addr).add j = ⟨g, 0 + j, none⟩ by simp [Addr.add]; exact fun h => h.symm, this]
      have h2 : l.toArray.reverse[j]! = l.reverse[j] := by
        rw [List.reverse_toArray, getElem!_pos l.reverse.toArray j (by simpa using hj)]; rfl
      rw [h2]; rfl)
    rw [List.length_reverse] at e
    exact e

set_option maxHeartbeats 1000000 in
theorem iDigitsOf_c (x y : Int) (w : World) : Calls Tryd.prog 17 #[pr x y] w fun e w' => e = .returned (ofV x y) ∧ Below w.heap.size w w' := by
  rcases Bool.eq_false_or_eq_true (inB 1000000 x y) with hi | hi
  · have H := Lib.hid (show ofV x y = exV (dgs x y) by
      unfold ofV exV dgs1
      rw [hi, if_pos rfl]
      by_cases hz : x = 0 ∧ y = 0
      · obtain ⟨rfl, rfl⟩ := hz; rfl
      · rw [if_neg hz, if_neg (by rw [dgs_step hz]; simp)])
    obtain ⟨x1, x2, y1, y2⟩ := inB_le hi
    have HL := Lib.hid (show (dgs x y).length ≤ 4000000000000 from by have := dgs_len_le x y; have := ms_le (x := x) (y := y) ⟨by omega, by omega⟩ ⟨by omega, by omega⟩; omega)
    go_enter Tryd.func17, Tryd.ntmps17
    go_wp2_with (first | (go_at_call 51; refine (gPair_c _ _ _).mono ?_; rintro e w1 ⟨rfl, hb⟩; obtain ⟨hc, hf⟩ := bcell hb; have hz := bsize hb; have hs := hb.size; try simp at hs) | (go_at_call 52; refine (small_c _ _ _).mono ?_; rintro e w1 ⟨rfl, hb⟩; obtain ⟨hc, hf⟩ := bcell hb; have hz := bsize hb; have hs := hb.size; try simp at hs) | (go_at_call 54; fail))
    have hB1 := Lib.hid (show Below w.heap.size w w1 by (repeat' (first | assumption | exact Below.refl _ _ | apply Blw.alloc | apply Blw.drew | apply Blw.drewN | (refine Blw.after ?_ (by assumption)) | (refine Blw.set ?_ (by first | (dsimp only; omega) | (simp; done) | (simp; omega)) _))))
    refine (iDigits_c x y _ ⟨by omega, by omega⟩ ⟨by omega, by omega⟩).mono ?_
    rintro e w2 ⟨v, rfl, hown, hb2⟩
    have HO := Lib.hid hown
    clear hown
    go_wp2_with fail
    refine (expansion_c (dgs x y) v w2 w1.heap.size (dgs_bits x y) HO.out HL.out).mono ?_
    rintro e w3 ⟨rfl, hg3⟩
    have hb3 : Below w1.heap.size w2 w3 := Below.grown (Below.refl _ _) hg3 hb2.size (fun k hk => (HO.out.lt k hk).1)
    obtain ⟨a, b, hab⟩ := exV_shape (dgs x y)
    have HA := Lib.hid hab
    rw [hab]
    clear hab
    go_wp2_with fail
    go_ret2
    exact ⟨by rw [H.out, HA.out]; rfl, (hB1.out.trans (hb2.mono hB1.out.size)).trans (hb3.mono hB1.out.size)⟩
  · have H := Lib.hid (show ofV x y = .tuple #[.string ⟨#[]⟩, .bool false] by unfold ofV; rw [hi]; rfl)
    go_enter Tryd.func17, Tryd.ntmps17
    go_wp2_with (first | (go_at_call 51; refine (gPair_c _ _ _).mono ?_; rintro e w1 ⟨rfl, hb⟩; obtain ⟨hc, hf⟩ := bcell hb; have hz := bsize hb; have hs := hb.size; try simp at hs) | (go_at_call 52; refine (small_c _ _ _).mono ?_; rintro e w1 ⟨rfl, hb⟩; obtain ⟨hc, hf⟩ := bcell hb; have hz := bsize hb; have hs := hb.size; try simp at hs))
    go_ret2
    exact ⟨by rw [H.out]; rfl, by (repeat' (first | assumption | exact Below.refl _ _ | apply Blw.alloc | apply Blw.drew | apply Blw.drewN | (refine Blw.after ?_ (by assumption)) | (refine Blw.set ?_ (by first | (dsimp only; omega) | (simp; done) | (simp; omega)) _)))⟩
end Go.Proofs.YtaleeoghifcadaaDoor
