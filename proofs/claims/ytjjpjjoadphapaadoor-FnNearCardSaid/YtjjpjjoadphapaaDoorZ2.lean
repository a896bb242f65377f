/- Merged texts: Dh Di2 Dl Dj Dm Dp0 DpG BaseD Dp Gs Dr Ds Dt Du Fl Fm Pv Vl Cw Wm Cm Tl Tq Po Cut Px0 CutL Tb Ex Pwd Go. No law is stated here. -/
import Derived.Deep.DeepCutAuto
import Derived.Test.YtjjpjjoadphapaaDoorTie
import Derived.Test.YtjjpjjoadphapaaDoorCards
import Derived.WalkKit
import Derived.ProofKit
import Derived.OpenShut
import Derived.ChangeSame
import Derived.JoinedOf
import Derived.JoinedAt
import Derived.RowKit3
import Derived.Lib.SmallJoins
import Derived.LaidMore
import Derived.Lay
import Derived.SevenTiedAt
import Derived.Stop.Joined
import Derived.Laws.BitsAllLaws
import Derived.Laws.ComplexArith
import GoSem.Op.Unary
import Derived.Lib.Bytealg
import Derived.Laws.FloatArith
import Derived.Test.YtjjpjjoadphapaaDoorZ1
namespace Go.Proofs.YtjjpjjoadphapaaDoor
set_option linter.unusedSimpArgs false
set_option linter.unusedVariables false
open Go.RowKit Go.Lib Go.Sort

def TrimRel (s : ByteArray) (w : World) (m : Nat) (v : Value) (wr : World) : Prop := ∃ t : ByteArray, v = .string t ∧ t.size ≤ m ∧ wr = w ∧ drop0 (toL t) = drop0 (toL s)
theorem drop0_cons48 {l : List UInt8} (h : l[0]? = some 48) : drop0 (l.drop 1) = drop0 l := by
  cases l with
  | nil => simp at h
  | cons c r => simp at h; subst h; simp [drop0]
theorem drop0_keep {l : List UInt8} (h : l[0]? ≠ some 48) : drop0 l = l := by
  cases l with
  | nil => rfl
  | cons c r => simp at h; simp [drop0, h]
set_option maxHeartbeats 1000000 in
theorem trimLeftByte_c (s : ByteArray) (w : World) : Calls Tryd.prog 76 #[.string s, .int .u8 48] w fun e w' => e = .returned (.string (bs (drop0 (toL s)))) ∧ w = w' := by
  go_enter Tryd.func76, Tryd.ntmps76
  go_wp2
  go_loopg [0] s.size (fun m v wr => TrimRel s w m v wr)
  case atStart => exact ⟨s, rfl, Nat.le_refl _, rfl, rfl⟩
  case round =>
    obtain ⟨t, rfl, ht, rfl, hst⟩ := hrel
    have HT := Lib.hid hst
    clear hst
    by_cases h0 : 0 < t.size
    · have hg := Lib.hid (toL_get t 0 h0)
      by_cases e8 : t[0].toNat = 48
      · have HS := Lib.hid (drop0_cons48 (l := toL t) (by rw [hg.out]; congr 1; exact UInt8.toNat_inj.1 (by rw [e8]; rfl)))
        have a1 : ((t[0].toNat : Int) == 48) = true := by simp [e8]
        have hsz : t.size - 1 < t.size := by omega
        clear e8
        go_wp2
        go_roundg (gk - 1)
        case measure => omega
        case rel => exact ⟨t.extract 1 t.size, rfl, by simp; omega, rfl, by rw [toL_from1, HS.out, HT.out]⟩
      · have HS := Lib.hid (drop0_keep (l := toL t) (by rw [hg.out]; intro e; apply e8; rw [Option.some.injEq] at e; rw [e]; rfl))
        have a1 : ((t[0].toNat : Int) == 48) = false := by simp; omega
        clear e8
        have HR := Lib.hid (show bs (drop0 (toL s)) = t by rw [← HT.out, HS.out, bs_toL])
        go_wp2
        go_ret
        exact ⟨by rw [HR.out]; rfl, rfl⟩
    · have HR := Lib.hid (show bs (drop0 (toL s)) = t by
        rw [← HT.out]
        have : toL t = [] := List.eq_nil_of_length_eq_zero (by rw [toL_len]; omega)
        rw [this]; exact toL_ext (by rw [this, toL_bs]; try rfl))
      go_wp2
      go_ret
      exact ⟨by rw [HR.out]; rfl, rfl⟩
set_option maxRecDepth 100000 in
theorem trimLeft_c (s : ByteArray) (w : World) : Calls Tryd.prog 59 #[.string s, .string ⟨#[48]⟩] w fun e w' => e = .returned (.string (bs (drop0 (toL s)))) ∧ w = w' := by
  by_cases h : toL s = []
  · obtain rfl : s = ⟨#[]⟩ := toL_ext (by rw [h])
    go_enter Tryd.func59, Tryd.ntmps59
    go_wp2
    go_ret
    exact ⟨rfl, rfl⟩
  · have e1 : ¬ s.toList = [] := by rw [toList_toL]; exact h
    have e2 : s.toList.isEmpty = false := by rw [toList_toL]; simpa using h
    clear h
    go_enter Tryd.func59, Tryd.ntmps59
    go_wp2_with (go_at_call 76; refine (trimLeftByte_c _ _).mono ?_; rintro e w' ⟨rfl, rfl⟩)
    go_ret
    exact ⟨rfl, rfl⟩

/-- the expansion of digits that stand from the last one on -/
def exV (l : List UInt8) : Value := resD (if l = [] then [48] else l.reverse)
theorem exV_shape (l : List UInt8) : ∃ a b, exV l = .tuple #[.string a, .bool b] := ⟨_, _, rfl⟩
theorem exV_none {l : List UInt8} (h : ∀ c ∈ l, bitC c = true) (h0 : drop0 l.reverse = []) : exV l = .tuple #[.string ⟨#[48]⟩, .bool true] := by
  unfold exV
  by_cases hl : l = []
  · subst hl; rfl
  · rw [if_neg hl]
    have hs : strip l.reverse = [48] := by rw [strip_drop0 (by simpa using hl), if_pos h0]
    unfold resD
    rw [hs]; rfl
theorem exV_some {l : List UInt8} (h : ∀ c ∈ l, bitC c = true) (h0 : drop0 l.reverse ≠ []) : exV l = .tuple #[.string (selS (decide ((drop0 l.reverse).length ≤ 50)) (drop0 l.reverse)), .bool (decide ((drop0 l.reverse).length ≤ 50))] := by
  unfold exV
  have hl : l ≠ [] := by rintro rfl; exact h0 rfl
  rw [if_neg hl]
  have hs : strip l.reverse = drop0 l.reverse := by rw [strip_drop0 (by simpa using hl), if_neg h0]
  unfold resD
  rw [vldL_strip (by intro c hc; exact h c (by simpa using hc)) (by simpa using hl), hs]

theorem own_holds {w : World} {B g cap : Nat} {l : List UInt8} (h : w.ownsRow B 5 1 (.slice (some ⟨g, 0, none⟩) l.length cap) l.length (l.map encB)) : Holds encB w g 0 l.toArray := by
  intro j hj
  have hj' : j < l.length := by simpa using hj
  rw [Nat.zero_add]
  refine ⟨?_, h.frozenAt j⟩
  rw [h.cellAt j (by omega)]
  simp [List.getElem?_map, List.getElem?_eq_getElem hj', getElem!_pos, hj']
theorem putRow_grown {w : World} {n g : Nat} {d : Array UInt8} : w.grownBy (putRow encB (Sort.ahead w n) g 0 d) (some g) :=
  ⟨rfl, rfl, rfl, by rw [size_putRow]; exact Nat.le_refl _, fun k _ hk => by
    show (w.heap.modify g _)[k]? = _
    rw [Array.getElem?_modify, if_neg (fun e => hk (by rw [e]))]⟩

/-- the world behind the exchange -/
def Turned (l : List UInt8) (v : Value) (w : World) (W : World) : Prop :=
  (convert 22 9 v).run Tryd.prog W = .ok (.string (bs l.reverse)) W ∧ w.grownBy W v.ownBlock
set_option maxRecDepth 100000 in
set_option maxHeartbeats 1000000 in
/-- the walk behind the exchange -/
theorem expansion_of (l : List UInt8) (v : Value) (w : World) (hb : ∀ c ∈ l, bitC c = true) (hrev : Calls Tryd.prog 58 #[v] w fun e W => e = .returned (.tuple #[]) ∧ Turned l v w W) :
    Calls Tryd.prog 47 #[v] w fun e w' => e = .returned (exV l) ∧ w.grownBy w' v.ownBlock := by
  by_cases h0 : drop0 l.reverse = []
  · have H := Lib.hid (exV_none hb h0)
    have HD := Lib.hid (show bs (drop0 (toL (bs l.reverse))) = ⟨#[]⟩ by rw [toL_bs, h0]; rfl)
    clear h0
    go_enter Tryd.func47, Tryd.ntmps47
    go_wp2_with fail
    refine hrev.mono ?_
    rintro e W ⟨rfl, hconv, hB⟩
    go_wp2_with fail
    refine (trimLeft_c _ _).mono ?_
    rintro e w1 ⟨rfl, rfl⟩
    rw [HD.out]
    go_wp2
    go_ret2
    exact ⟨by rw [H.out]; rfl, hB⟩
  · have H := Lib.hid (exV_some hb h0)
    generalize hT : bs (drop0 (toL (bs l.reverse))) = T
    have hTL : toL T = drop0 l.reverse := by rw [← hT, toL_bs, toL_bs]
    have HT := Lib.hid hT
    have e1 : ¬ T.toList = [] := by rw [toList_toL, hTL]; exact h0
    have e2 : T.toList.isEmpty = false := by rw [toList_toL, hTL]; simpa using h0
    have HB := Lib.hid (show bs (drop0 l.reverse) = T by rw [← hTL, bs_toL])
    have hlen : T.size = (drop0 l.reverse).length := by rw [← hTL, toL_len]
    have HL := Lib.hid hlen
    clear h0 hT hTL hlen
    by_cases h50 : T.size ≤ 50
    · have HF := Lib.hid (show exV l = .tuple #[.string T, .bool true] by rw [H.out, ← HL.out]; simp [selS, h50, HB.out])
      go_enter Tryd.func47, Tryd.ntmps47
      go_wp2_with fail
      refine hrev.mono ?_
      rintro e W ⟨rfl, hconv, hB⟩
      go_wp2_with fail
      refine (trimLeft_c _ _).mono ?_
      rintro e w1 ⟨rfl, rfl⟩
      rw [HT.out]
      go_wp2
      go_ret2
      exact ⟨by rw [HF.out]; rfl, hB⟩
    · have HF := Lib.hid (show exV l = .tuple #[.string ⟨#[]⟩, .bool false] by rw [H.out, ← HL.out]; simp [selS, h50, bs])
      go_enter Tryd.func47, Tryd.ntmps47
      go_wp2_with fail
      refine hrev.mono ?_
      rintro e W ⟨rfl, hconv, hB⟩
      go_wp2_with fail
      refine (trimLeft_c _ _).mono ?_
      rintro e w1 ⟨rfl, rfl⟩
      rw [HT.out]
      go_wp2
      go_ret2
      exact ⟨by rw [HF.out]; rfl, hB⟩
theorem reverse_none (w : World) : Calls Tryd.prog 58 #[.slice none 0 0] w fun e w' => e = .returned (.tuple #[]) ∧ w = w' := by
  go_enter Tryd.func58, Tryd.ntmps58
  go_wp2
  go_loopg [2, 3] 0 (fun _ s2 s3 wr => s2 = .int .i64 0 ∧ s3 = .int .i64 (-1) ∧ wr = w)
  case atStart => exact ⟨rfl, rfl, rfl⟩
  case round =>
    obtain ⟨rfl, rfl, rfl⟩ := hrel
    go_wp2
    go_end0
    exact ⟨rfl, rfl⟩
theorem conv_none (w : World) : (convert 22 9 (.slice none 0 0)).run Tryd.prog w = .ok (.string ⟨#[]⟩) w := by
  rw [run_convert_bytes_string w _ _ _ none 0 0 Tryd.underlying22 Tryd.underlying5 Tryd.underlying9]
  rfl
theorem expansion_c (l : List UInt8) (v : Value) (w : World) (B : Nat) (hb : ∀ c ∈ l, bitC c = true) (hown : w.ownsRow B 5 1 v l.length (l.map encB)) (hl : l.length ≤ 4000000000000) : Calls Tryd.prog 47 #[v] w fun e w' => e = .returned (exV l) ∧ w.grownBy w' v.ownBlock := by
  rcases hown.2 with ⟨rfl, h0⟩ | ⟨g, cap, cur, rfl, hg, hgg, -⟩
  · obtain rfl : l = [] := List.eq_nil_of_length_eq_zero h0
    refine expansion_of [] _ w hb ((reverse_none w).mono ?_)
    rintro e w' ⟨rfl, rfl⟩
    exact ⟨rfl, conv_none w, rfl, rfl, rfl, Nat.le_refl _, fun _ _ _ => rfl⟩
  · have hH := own_holds hown
    have hr := reverse_c g 0 cap l.toArray w hH (by simpa using hl)
    rw [List.size_toArray] at hr
    refine expansion_of l _ w hb (hr.mono ?_)
    rintro e W ⟨rfl, n, rfl⟩
    refine ⟨rfl, ?_, putRow_grown⟩
    have hh := holds_putRow encB (Sort.ahead w n) g 0 l.toArray l.toArray.reverse (holds_ahead encB w n g 0 _ hH) (by simp)
    have e := run_convert_bytes_back (P := Tryd.prog) (putRow encB (Sort.ahead w n) g 0 l.toArray.reverse) 22 9 5 ⟨g, 0, none⟩ cap l.reverse Tryd.underlying22 Tryd.underlying5 Tryd.underlying9 (fun j hj => by
      have := (hh j (by simpa using hj)).1
      rw [show (⟨g, 0, none⟩ : Addr).add j = ⟨g, 0 + j, none⟩ by simp [Addr.add]; exact fun h => h.symm, this]
      have h2 : l.toArray.reverse[j]! = l.reverse[j] := by
        rw [List.reverse_toArray, getElem!_pos l.reverse.toArray j (by simpa using hj)]; rfl
      rw [h2]; rfl)
    rw [List.length_reverse] at e
    exact e

set_option maxHeartbeats 1000000 in
theorem iDigitsOf_c (x y : Int) (w : World) : Calls Tryd.prog 27 #[pr x y] w fun e w' => e = .returned (ofV x y) ∧ Below w.heap.size w w' := by
  rcases Bool.eq_false_or_eq_true (inB 1000000 x y) with hi | hi
  · have H := Lib.hid (show ofV x y = exV (dgs x y) by
      unfold ofV exV dgs1
      rw [hi, if_pos rfl]
      by_cases hz : x = 0 ∧ y = 0
      · obtain ⟨rfl, rfl⟩ := hz; rfl
      · rw [if_neg hz, if_neg (by rw [dgs_step hz]; simp)])
    obtain ⟨x1, x2, y1, y2⟩ := inB_le hi
    have HL := Lib.hid (show (dgs x y).length ≤ 4000000000000 from by have := dgs_len_le x y; have := ms_le (x := x) (y := y) ⟨by omega, by omega⟩ ⟨by omega, by omega⟩; omega)
    go_enter Tryd.func27, Tryd.ntmps27
    go_wp2_with (first | (go_at_call 45; refine (gPair_c _ _ _).mono ?_; rintro e w1 ⟨rfl, hb⟩; obtain ⟨hc, hf⟩ := bcell hb; have hz := bsize hb; have hs := hb.size; try simp at hs) | (go_at_call 46; refine (small_c _ _ _).mono ?_; rintro e w1 ⟨rfl, hb⟩; obtain ⟨hc, hf⟩ := bcell hb; have hz := bsize hb; have hs := hb.size; try simp at hs) | (go_at_call 48; fail))
    have hB1 := Lib.hid (show Below w.heap.size w w1 by (first | ((repeat' with_reducible first | assumption | exact Below.refl _ _ | apply Blw.alloc | apply Blw.drew | apply Blw.drewN | (refine Blw.after ?_ (by assumption)) | (refine Blw.set ?_ (by first | (dsimp only; omega) | (simp; omega)) _)); done) | (repeat' (first | assumption | exact Below.refl _ _ | apply Blw.alloc | apply Blw.drew | apply Blw.drewN | (refine Blw.after ?_ (by assumption)) | (refine Blw.set ?_ (by first | (dsimp only; omega) | (simp; done) | (simp; omega)) _)))))
    refine (iDigits_c x y _ ⟨by omega, by omega⟩ ⟨by omega, by omega⟩).mono ?_
    rintro e w2 ⟨v, rfl, hown, hb2⟩
    have HO := Lib.hid hown
    clear hown
    go_wp2_with fail
    refine (expansion_c (dgs x y) v w2 w1.heap.size (dgs_bits x y) HO.out HL.out).mono ?_
    rintro e w3 ⟨rfl, hg3⟩
    have hb3 : Below w1.heap.size w2 w3 := Below.grown (Below.refl _ _) hg3 hb2.size (fun k hk => (HO.out.lt k hk).1)
    obtain ⟨a, b, hab⟩ := exV_shape (dgs x y)
    have HA := Lib.hid hab
    rw [hab]
    clear hab
    go_wp2_with fail
    go_ret2
    exact ⟨by rw [H.out, HA.out]; rfl, (hB1.out.trans (hb2.mono hB1.out.size)).trans (hb3.mono hB1.out.size)⟩
  · have H := Lib.hid (show ofV x y = .tuple #[.string ⟨#[]⟩, .bool false] by unfold ofV; rw [hi]; rfl)
    go_enter Tryd.func27, Tryd.ntmps27
    go_wp2_with (first | (go_at_call 45; refine (gPair_c _ _ _).mono ?_; rintro e w1 ⟨rfl, hb⟩; obtain ⟨hc, hf⟩ := bcell hb; have hz := bsize hb; have hs := hb.size; try simp at hs) | (go_at_call 46; refine (small_c _ _ _).mono ?_; rintro e w1 ⟨rfl, hb⟩; obtain ⟨hc, hf⟩ := bcell hb; have hz := bsize hb; have hs := hb.size; try simp at hs))
    go_ret2
    exact ⟨by rw [H.out]; rfl, by (first | ((repeat' with_reducible first | assumption | exact Below.refl _ _ | apply Blw.alloc | apply Blw.drew | apply Blw.drewN | (refine Blw.after ?_ (by assumption)) | (refine Blw.set ?_ (by first | (dsimp only; omega) | (simp; omega)) _)); done) | (repeat' (first | assumption | exact Below.refl _ _ | apply Blw.alloc | apply Blw.drew | apply Blw.drewN | (refine Blw.after ?_ (by assumption)) | (refine Blw.set ?_ (by first | (dsimp only; omega) | (simp; done) | (simp; omega)) _))))⟩
end Go.Proofs.YtjjpjjoadphapaaDoor

namespace Go.Proofs.YtjjpjjoadphapaaDoor
set_option linter.unusedSimpArgs false
set_option linter.unusedVariables false
open Go.RowKit

def gcells (l : List (Int × Int)) : List Value := l.flatMap fun z => [.int .i64 z.1, .int .i64 z.2]
theorem gcells_snoc (l : List (Int × Int)) (x y : Int) : gcells (l ++ [(x, y)]) = gcells l ++ [.int .i64 x, .int .i64 y] := by simp [gcells]
theorem infoG : (Tryd.prog.info? 29).map (fun i => (i.zero, i.size, i.bytes)) = some (some (.agg #[.int .i64 0, .int .i64 0]), 2, 16) := by kernel_rfl
theorem cells2 (w : World) (u v : Value) (t : TypeId) : ∀ (j : Nat) (u' : Value), [u, v][j]? = some u' → (w.alloc (.cells #[u, v] t)).cell? ((⟨w.heap.size, 0, none⟩ : Addr).add j) = some u' := by
  intro j u' hj
  match j, hj with
  | 0, hj => simp at hj; subst hj; simp [Addr.add]
  | 1, hj => simp at hj; subst hj; simp [Addr.add]
theorem cells2n (w : World) (u v : Value) (t : TypeId) (n : Nat) (hn : n = w.heap.size) : ∀ (j : Nat) (u' : Value), [u, v][j]? = some u' → (w.alloc (.cells #[u, v] t)).cell? ((⟨n, 0, none⟩ : Addr).add j) = some u' := by
  subst hn; exact cells2 w u v t
theorem two1 (u v : Value) (h : u.oneCell' = true) (h' : v.oneCell' = true) : ∀ u' ∈ [u, v], u'.oneCell' = true := by
  intro u' hu; simp at hu; rcases hu with rfl | rfl; exact h; exact h'
end Go.Proofs.YtjjpjjoadphapaaDoor

namespace Go.Proofs.YtjjpjjoadphapaaDoor
set_option linter.unusedSimpArgs false
set_option linter.unusedVariables false
open Go.RowKit

/-- the table in its block -/
def Tab (w : World) : Prop := 0 < w.heap.size ∧ ∀ r, r < 15 → w.cell? ⟨0, r * 6, none⟩ = some (.int .i64 (rowX r)) ∧ w.cell? ⟨0, r * 6 + 1, none⟩ = some (.int .i64 (rowY r)) ∧ w.cell? ⟨0, r * 6 + 2, none⟩ = some (.string (bs (rowS r))) ∧ ∀ b, b < 3 → w.cell? ⟨0, r * 6 + 3 + b, none⟩ = some (.int .i64 (rowN r b : Nat))
theorem Tab.keep {w w' : World} (h : Tab w) {B : Nat} (hB : 0 < B) (hb : Below B w w') : Tab w' := by
  have e : ∀ o, w'.cell? ⟨0, o, none⟩ = w.cell? ⟨0, o, none⟩ := fun o => hb.cell (p := ⟨0, o, none⟩) hB
  refine ⟨Nat.lt_of_lt_of_le h.1 hb.size, fun r hr => ?_⟩
  obtain ⟨h1, h2, h3, h4⟩ := h.2 r hr
  exact ⟨(e _).trans h1, (e _).trans h2, (e _).trans h3, fun b hb => (e _).trans (h4 b hb)⟩
/-- what is owned of one type stands while a row of another type grows -/
theorem own_other {w w1 : World} {B B' e e' sz sz' n n' : Nat} {v v' : Value} {xs xs' : List Value} (h : w.ownsRow B e sz v n xs) (k : w.ownsRow B' e' sz' v' n' xs') (hne : e ≠ e') (hg : w.grownBy w1 v.ownBlock) : w1.ownsRow B' e' sz' v' n' xs' := by
  refine ⟨k.1, k.2.imp id ?_⟩
  rintro ⟨g, cap, cur, h1, h2, h3, h4⟩
  refine ⟨g, cap, cur, h1, h2, (hg.block g (Array.getElem?_eq_some_iff.1 h3).1 ?_).trans h3, h4⟩
  rcases h.2 with ⟨rfl, _⟩ | ⟨g', cap', cur', rfl, _, h3', _⟩
  · simp [Value.ownBlock]
  · simp only [Value.ownBlock, ne_eq, Option.some.injEq]
    rintro rfl
    rw [h3] at h3'
    simp only [Option.some.injEq, Obj.cells.injEq] at h3'
    exact hne h3'.2.1.symm

def IAddRel (a b : ByteArray) (w w1 : World) (sums : Value) (m : Nat) (up ca i row : Value) (wr : World) : Prop :=
  ∃ k : Nat, k + m = stepsA a b ∧ i = .int .i64 k ∧ row = .int .i64 (stA a b k : Nat) ∧ wr.ownsRow w1.heap.size 5 1 up k ((outA a b k).map encB) ∧ wr.ownsRow w1.heap.size 29 2 ca k (gcells (carA a b k)) ∧ wr.ownsRow w1.heap.size 3 1 sums (wide a b) (rowL (wide a b) fun k => (sm a b k : Nat)) ∧ Below w.heap.size w wr ∧ w1.heap.size ≤ wr.heap.size
theorem exV_false {l : List UInt8} {s : ByteArray} (h : exV l = .tuple #[.string s, .bool false]) : s = ⟨#[]⟩ := by
  unfold exV at h
  generalize (if l = [] then [48] else l.reverse) = r at h
  unfold resD at h
  simp only [Value.tuple.injEq, Array.mk.injEq, List.cons.injEq, Value.string.injEq, Value.bool.injEq, and_true] at h
  rw [← h.1, h.2]; rfl
/-- what the adding leaves: the sum, its carries, and whether it is short enough -/
def IAddPost (a b : ByteArray) (w : World) (e : Ending) (w' : World) : Prop :=
  ∃ (s : ByteArray) (ok : Bool) (v : Value), exV (outA a b (stepsA a b)) = .tuple #[.string s, .bool ok] ∧ e = .returned (.tuple #[.string s, v, .bool ok]) ∧ (ok = true → w'.ownsRow w.heap.size 29 2 v (stepsA a b) (gcells (carA a b (stepsA a b)))) ∧ (ok = false → v = .slice none 0 0) ∧ Below w.heap.size w w'
theorem rowS_size (r : Nat) : (bs (rowS r)).size = 3 := rfl
theorem rowS_at (r b : Nat) (hb : b < 3) (h : b < (bs (rowS r)).size) : ((bs (rowS r))[b].toNat : Int) = ((rowD r b).toNat : Nat) := by
  match b, hb with
  | 0, _ => rfl
  | 1, _ => rfl
  | 2, _ => rfl
end Go.Proofs.YtjjpjjoadphapaaDoor

namespace Go.Proofs.YtjjpjjoadphapaaDoor
set_option linter.unusedSimpArgs false
set_option linter.unusedVariables false
open Go.RowKit

def SAddRel (a b : ByteArray) (w : World) (m : Nat) (out cs i : Value) (wr : World) : Prop :=
  ∃ (k : Nat) (t : ByteArray), k + m = stepsA a b ∧ i = .int .i64 k ∧ out = .string t ∧ toL t = (outA a b k).reverse ∧ wr.ownsRow (w.heap.size + 1) 29 2 cs k (gcells (carA a b k)) ∧ Below w.heap.size w wr ∧
    wr.cell? ⟨w.heap.size, 0, none⟩ = some (.int .i64 (rowX (stA a b k))) ∧ wr.cell? ⟨w.heap.size, 1, none⟩ = some (.int .i64 (rowY (stA a b k))) ∧ wr.frozen? ⟨w.heap.size, 0, none⟩ = false ∧ wr.frozen? ⟨w.heap.size, 1, none⟩ = false
def SAddPost (a b : ByteArray) (w : World) (e : Ending) (w' : World) : Prop :=
  ∃ (v : Value) (t : ByteArray), e = .returned (.tuple #[.string t, v]) ∧ toL t = (outA a b (stepsA a b)).reverse ∧ w'.ownsRow w.heap.size 29 2 v (stepsA a b) (gcells (carA a b (stepsA a b))) ∧ Below w.heap.size w w'

end Go.Proofs.YtjjpjjoadphapaaDoor

namespace Go.Proofs.YtjjpjjoadphapaaDoor
set_option linter.unusedSimpArgs false
set_option linter.unusedVariables false
open Go.RowKit

def addV (a b : ByteArray) : Value := if vldB a && vldB b then exV (outA a b (stepsA a b)) else .tuple #[.string ⟨#[]⟩, .bool false]
theorem addV_yes {a b : ByteArray} (ha : vldB a = true) (hb : vldB b = true) : addV a b = exV (outA a b (stepsA a b)) := by unfold addV; rw [ha, hb]; rfl
theorem addV_no {a b : ByteArray} (h : vldB a = false ∨ vldB b = false) : addV a b = .tuple #[.string ⟨#[]⟩, .bool false] := by
  unfold addV; rcases h with h | h <;> rw [h] <;> simp
theorem addV_shape (a b : ByteArray) : ∃ s ok, addV a b = .tuple #[.string s, .bool ok] := by
  unfold addV; split
  · exact exV_shape _
  · exact ⟨_, _, rfl⟩
/-- what addDigits leaves, whatever the texts -/
def AddAll (a b : ByteArray) (w : World) (e : Ending) (w' : World) : Prop :=
  ∃ (s : ByteArray) (ok : Bool) (v : Value), addV a b = .tuple #[.string s, .bool ok] ∧ e = .returned (.tuple #[.string s, v, .bool ok]) ∧ (ok = true → vldB a = true ∧ vldB b = true ∧ w'.ownsRow w.heap.size 29 2 v (stepsA a b) (gcells (carA a b (stepsA a b)))) ∧ (ok = false → v = .slice none 0 0) ∧ Below w.heap.size w w'
end Go.Proofs.YtjjpjjoadphapaaDoor

namespace Go.Proofs.YtjjpjjoadphapaaDoor
set_option linter.unusedSimpArgs false
set_option linter.unusedVariables false
open Go.RowKit

theorem set_same {w : World} {g o : Nat} {u v : Value} (h : w.cell? ⟨g, o, none⟩ = some u) : (w.setCell ⟨g, o, none⟩ v).cell? ⟨g, o, none⟩ = some v := by
  go_simp
theorem set_other {w : World} {g o o' : Nat} {v : Value} (hne : o' ≠ o) : (w.setCell ⟨g, o, none⟩ v).cell? ⟨g, o', none⟩ = w.cell? ⟨g, o', none⟩ := by
  simp only [World.setCell, World.cell?, Array.getElem?_modify, if_true]
  cases w.heap[g]? with
  | none => rfl
  | some x => cases x <;> simp [Array.getElem?_setIfInBounds, Ne.symm hne]
theorem set_froz {w : World} {g o o' : Nat} {v : Value} : (w.setCell ⟨g, o, none⟩ v).frozen? ⟨g, o', none⟩ = w.frozen? ⟨g, o', none⟩ := by
  simp only [World.setCell, World.frozen?, Array.getElem?_modify, if_true]
  cases w.heap[g]? with
  | none => rfl
  | some x => cases x <;> rfl
/-- the first marks are there -/
def Marked (g n : Nat) (w : World) : Prop := ∀ j, j < n → w.cell? ⟨g, j, none⟩ = some (.int .i64 (j + 1 : Nat))
def Open (g n : Nat) (w : World) : Prop := ∀ j, j < n → (∃ u, w.cell? ⟨g, j, none⟩ = some u) ∧ w.frozen? ⟨g, j, none⟩ = false
theorem Open.set {g n o : Nat} {w : World} {v : Value} (h : Open g n w) : Open g n (w.setCell ⟨g, o, none⟩ v) := fun j hj => by
  refine ⟨?_, set_froz.trans (h j hj).2⟩
  by_cases e : j = o
  · subst e; obtain ⟨u, hu⟩ := (h j hj).1; exact ⟨v, set_same hu⟩
  · rw [set_other e]; exact (h j hj).1
theorem Marked.set {g n m : Nat} {w : World} (h : Marked g n w) (ho : Open g m w) (hn : n < m) : Marked g (n + 1) (w.setCell ⟨g, n, none⟩ (.int .i64 (n + 1 : Nat))) := fun j hj => by
  by_cases e : j = n
  · subst e; obtain ⟨u, hu⟩ := (ho j hn).1; exact set_same hu
  · rw [set_other e]; exact h j (by omega)
theorem grown_set {w w' : World} {g o : Nat} {v : Value} (h : w.grownBy w' (some g)) : w.grownBy (w'.setCell ⟨g, o, none⟩ v) (some g) :=
  ⟨h.os, h.tape, h.output, by simpa [World.setCell] using h.size, fun k hk hne => (Below.heap_setCell _ _ _ _ (fun e => hne (by rw [e]))).trans (h.block k hk hne)⟩
end Go.Proofs.YtjjpjjoadphapaaDoor

namespace Go.Proofs.YtjjpjjoadphapaaDoor
set_option linter.unusedSimpArgs false
set_option linter.unusedVariables false
open Go.RowKit

/-- a slice that reads as the list -/
def GSl (a : Option Addr) (l : List (Int × Int)) (w : World) : Prop :=
  l = [] ∨ ∃ g, a = some ⟨g, 0, none⟩ ∧ ∀ (k : Nat) (x y : Int), l[k]? = some (x, y) → w.cell? ⟨g, k * 2, none⟩ = some (.int .i64 x) ∧ w.cell? ⟨g, k * 2 + 1, none⟩ = some (.int .i64 y)
theorem GSl.keep {a : Option Addr} {l : List (Int × Int)} {w w' : World} (h : GSl a l w) (hb : Below w.heap.size w w') : GSl a l w' := by
  refine h.imp id ?_
  rintro ⟨g, rfl, hc⟩
  exact ⟨g, rfl, fun k x y hk => ⟨keepcell hb (hc k x y hk).1, keepcell hb (hc k x y hk).2⟩⟩
theorem gcells_at (l : List (Int × Int)) : ∀ (k : Nat) (x y : Int), l[k]? = some (x, y) → (gcells l)[k * 2]? = some (.int .i64 x) ∧ (gcells l)[k * 2 + 1]? = some (.int .i64 y) := by
  induction l with
  | nil => intro k x y h; simp at h
  | cons z r ih =>
    intro k x y h
    have e : gcells (z :: r) = .int .i64 z.1 :: .int .i64 z.2 :: gcells r := by simp [gcells]
    rw [e]
    cases k with
    | zero => simp at h; subst h; simp
    | succ k =>
      simp at h
      have := ih k x y h
      rw [show (k + 1) * 2 = k * 2 + 1 + 1 by omega]
      simpa using this
theorem gcells_len (l : List (Int × Int)) : (gcells l).length = l.length * 2 := by
  induction l with
  | nil => rfl
  | cons z r ih => have e : gcells (z :: r) = .int .i64 z.1 :: .int .i64 z.2 :: gcells r := by simp [gcells]
                   rw [e]; simp [ih]; omega
theorem own_slice {w : World} {B n : Nat} {v : Value} {l : List (Int × Int)} (h : w.ownsRow B 29 2 v n (gcells l)) (hl : l.length = n) : ∃ a c, v = .slice a l.length c ∧ GSl a l w ∧ (l = [] ∨ ∃ g, a = some ⟨g, 0, none⟩ ∧ B ≤ g ∧ g < w.heap.size ∧ ∀ j, w.frozen? ⟨g, j, none⟩ = false) := by
  subst hl
  rcases h.2 with ⟨rfl, h0⟩ | ⟨g, cap, cur, rfl, hg, hgg, -⟩
  · have : l = [] := List.eq_nil_of_length_eq_zero h0
    subst this
    exact ⟨none, 0, rfl, Or.inl rfl, Or.inl rfl⟩
  · refine ⟨_, cap, rfl, Or.inr ⟨g, rfl, fun k x y hk => ?_⟩, Or.inr ⟨g, rfl, hg, (Array.getElem?_eq_some_iff.1 hgg).1, fun j => h.frozenAt j⟩⟩
    have hk' : k < l.length := (List.getElem?_eq_some_iff.1 hk).1
    have := gcells_at l k x y hk
    exact ⟨(h.cellAt _ (by omega)).trans this.1, (h.cellAt _ (by omega)).trans this.2⟩

end Go.Proofs.YtjjpjjoadphapaaDoor

namespace Go.Proofs.YtjjpjjoadphapaaDoor
set_option linter.unusedSimpArgs false
set_option linter.unusedVariables false
open Go.ChangeShapes Go.WideShapes Go.ChangeAt Go.RowKit Go.Joins

theorem own : ownKnob Tryd.prog.godebug = none := by kernel_rfl
theorem cellsI : Tryd.prog.cellsOf 3 = 1 := by kernel_rfl
end Go.Proofs.YtjjpjjoadphapaaDoor

namespace Go.Proofs.YtjjpjjoadphapaaDoor
set_option linter.unusedSimpArgs false
set_option linter.unusedVariables false
open Go.RowKit

def EqRel (l : List (Int × Int)) (w : World) (m : Nat) (i : Value) (wr : World) : Prop := ∃ k : Nat, k + m = l.length ∧ i = .int .i64 k ∧ Below w.heap.size w wr
/-! ### marks -/
def MkRel (g n : Nat) (w : World) (m : Nat) (kv i : Value) (wr : World) : Prop :=
  ∃ k : Nat, k + m = n ∧ i = .int .i64 k ∧ kv = .int .i64 (k * 2 + 1 : Nat) ∧ Marked g (k * 2) wr ∧ Open g (n * 2) wr ∧ w.grownBy wr (some g)
def MkPost (g n : Nat) (w : World) (e : Ending) (w' : World) : Prop := e = .returned (.int .i64 (n * 2 + 1 : Nat)) ∧ Marked g (n * 2) w' ∧ w.grownBy w' (some g)
def HdRel (n : Nat) (w : World) (m : Nat) (kv i : Value) (wr : World) : Prop := ∃ k : Nat, k + m = n ∧ i = .int .i64 k ∧ kv = .int .i64 (k * 2 + 1 : Nat) ∧ wr = w
end Go.Proofs.YtjjpjjoadphapaaDoor

namespace Go.Proofs.YtjjpjjoadphapaaDoor
set_option linter.unusedSimpArgs false
set_option linter.unusedVariables false
open Go.RowKit

theorem GSl.grown {a : Option Addr} {l : List (Int × Int)} {w w' : World} {g : Nat} (h : GSl a l w) (hg : w.grownBy w' (some g)) (hne : l = [] ∨ ∃ g0, a = some ⟨g0, 0, none⟩ ∧ g0 ≠ g) : GSl a l w' := by
  rcases hne with h0 | ⟨g0, rfl, hn⟩
  · exact Or.inl h0
  refine h.imp id ?_
  rintro ⟨g1, he, hc⟩
  simp only [Option.some.injEq, Addr.mk.injEq, and_true] at he
  subst he
  exact ⟨g0, rfl, fun k x y hk => ⟨hg.cell (hc k x y hk).1 (by simpa using hn), hg.cell (hc k x y hk).2 (by simpa using hn)⟩⟩
theorem Marked.keep {g n : Nat} {w w' : World} (h : Marked g n w) (hb : Below w.heap.size w w') : Marked g n w' := fun j hj => keepcell hb (h j hj)
theorem open_of {g n : Nat} {l : List (Int × Int)} {w : World} (h : GSl (some ⟨g, 0, none⟩) l w) (hf : ∀ j, w.frozen? ⟨g, j, none⟩ = false) (hn : l.length = n) (hl : l ≠ []) : Open g (n * 2) w := by
  intro j hj
  refine ⟨?_, hf j⟩
  rcases h with h0 | ⟨g', he, hc⟩
  · exact absurd h0 hl
  simp only [Option.some.injEq, Addr.mk.injEq, and_true] at he
  subst he
  have hk : j / 2 < l.length := by omega
  have := hc (j / 2) _ _ (List.getElem?_eq_getElem hk)
  rcases Nat.mod_two_eq_zero_or_one j with h2 | h2
  · exact ⟨_, by rw [show j = j / 2 * 2 by omega]; exact this.1⟩
  · exact ⟨_, by rw [show j = j / 2 * 2 + 1 by omega]; exact this.2⟩
theorem froz_keep {w w' : World} {g : Nat} (hg : g < w.heap.size) (hf : ∀ j, w.frozen? ⟨g, j, none⟩ = false) (hb : Below w.heap.size w w') : ∀ j, w'.frozen? ⟨g, j, none⟩ = false := fun j => ((bcell hb).2 _ _ hg).trans (hf j)
end Go.Proofs.YtjjpjjoadphapaaDoor

namespace Go.Proofs.YtjjpjjoadphapaaDoor
set_option linter.unusedSimpArgs false
set_option linter.unusedVariables false

/-- a list of digits without a leading zero that is the number -/
def Good (l : List UInt8) (n : Int) : Prop := (∀ c ∈ l, bitC c = true) ∧ idxF l = n ∧ l.head? = some 49
theorem idx_pos : ∀ (l : List UInt8), (∀ c ∈ l, bitC c = true) → l.head? = some 49 → 1 ≤ idxF l := by
  intro l
  induction l using rev_ind with
  | h0 => intro _ h; simp at h
  | h1 l c ih =>
    intro hb hh
    have hc := dg_bit (hb c (by simp))
    rw [idxF_snoc]
    cases l with
    | nil =>
      simp at hh
      subst hh
      decide
    | cons a r =>
      have := ih (fun c hc => hb c (by simp at hc ⊢; rcases hc with h | h; exact Or.inl h; exact Or.inr (Or.inl h))) (by simpa using hh)
      omega
theorem good_unique : ∀ (l m : List UInt8) (n : Int), Good l n → Good m n → l = m := by
  intro l
  induction l using rev_ind with
  | h0 => intro m n h; simp [Good] at h
  | h1 l c ih =>
    intro m n h1 h2
    have key : ∃ m' d, m = m' ++ [d] := by
      induction m using rev_ind with
      | h0 => simp [Good] at h2
      | h1 m' d _ => exact ⟨m', d, rfl⟩
    obtain ⟨m', d, rfl⟩ := key
    obtain ⟨b1, i1, g1⟩ := h1
    obtain ⟨b2, i2, g2⟩ := h2
    rw [idxF_snoc] at i1 i2
    have hc := dg_bit (b1 c (by simp))
    have hd := dg_bit (b2 d (by simp))
    have e1 : dg c = dg d := by omega
    have e2 : idxF l = idxF m' := by omega
    have hcd : c = d := by rw [← bitc_dg (b1 c (by simp)), ← bitc_dg (b2 d (by simp)), e1]
    subst hcd
    cases hl : l with
    | nil =>
      cases hm : m' with
      | nil => rfl
      | cons a r =>
        exfalso
        have : 1 ≤ idxF m' := idx_pos m' (fun c hc => b2 c (by simp [hc])) (by rw [hm] at g2 ⊢; simpa using g2)
        rw [← e2, hl] at this
        simp [idxF] at this
    | cons a r =>
      cases hm : m' with
      | nil =>
        exfalso
        have : 1 ≤ idxF l := idx_pos l (fun c hc => b1 c (by simp [hc])) (by rw [hl] at g1 ⊢; simpa using g1)
        rw [e2, hm] at this
        simp [idxF] at this
      | cons a' r' =>
        rw [← hl, ← hm]
        rw [ih m' (idxF l) ⟨fun c hc => b1 c (by simp [hc]), rfl, by rw [hl] at g1 ⊢; simpa using g1⟩ ⟨fun c hc => b2 c (by simp [hc]), e2.symm, by rw [hm] at g2 ⊢; simpa using g2⟩]

/-- the binary digits of a number, so many and one, the highest first -/
def bl : Nat → Nat → List UInt8
  | 0, n => [bitc ((n % 2 : Nat) : Int)]
  | K + 1, n => bl K (n / 2) ++ [bitc ((n % 2 : Nat) : Int)]
theorem bl_len (K : Nat) : ∀ n, (bl K n).length = K + 1 := by
  induction K with
  | zero => intro n; rfl
  | succ K ih => intro n; simp [bl, ih]
theorem bl_bits (K : Nat) : ∀ n, ∀ c ∈ bl K n, bitC c = true := by
  induction K with
  | zero => intro n c h; simp [bl] at h; rw [h]; exact bitc_bit _
  | succ K ih =>
    intro n c h
    simp only [bl, List.mem_append, List.mem_singleton] at h
    rcases h with h | h
    · exact ih _ c h
    · rw [h]; exact bitc_bit _
theorem dg_bitm (n : Nat) : dg (bitc ((n % 2 : Nat) : Int)) = ((n % 2 : Nat) : Int) := dg_bitc (by omega)
theorem bl_idx (K : Nat) : ∀ n, n / 2 ^ K < 2 → idxF (bl K n) = n := by
  induction K with
  | zero =>
    intro n h
    rw [Nat.pow_zero, Nat.div_one] at h
    have : idxF (bl 0 n) = 2 * 0 + dg (bitc ((n % 2 : Nat) : Int)) := by simp [bl, idxF]
    rw [this, dg_bitm]; omega
  | succ K ih =>
    intro n h
    rw [Nat.pow_succ', ← Nat.div_div_eq_div_mul] at h
    simp only [bl]
    rw [idxF_snoc, ih _ h, dg_bitm]; omega
theorem bl_head (K : Nat) : ∀ n, n / 2 ^ K = 1 → (bl K n).head? = some 49 := by
  induction K with
  | zero => intro n h; rw [Nat.pow_zero, Nat.div_one] at h; subst h; rfl
  | succ K ih =>
    intro n h
    rw [Nat.pow_succ', ← Nat.div_div_eq_div_mul] at h
    have := ih _ h
    simp only [bl]
    rw [List.head?_append, this]; rfl
theorem bl_good {K n : Nat} (h : n / 2 ^ K = 1) : Good (bl K n) n := ⟨bl_bits K n, bl_idx K n (by omega), bl_head K n h⟩
theorem bl_at (K : Nat) : ∀ n t, t ≤ K → (bl K n)[t]? = some (bitc ((n / 2 ^ (K - t) % 2 : Nat) : Int)) := by
  induction K with
  | zero => intro n t h; obtain rfl : t = 0 := by omega
            simp [bl]
  | succ K ih =>
    intro n t h
    simp only [bl]
    by_cases ht : t ≤ K
    · rw [List.getElem?_append_left (by rw [bl_len]; omega), ih _ t ht, Nat.div_div_eq_div_mul, ← Nat.pow_succ', show (K - t).succ = K + 1 - t by omega]
    · obtain rfl : t = K + 1 := by omega
      rw [List.getElem?_append_right (by rw [bl_len]; omega), bl_len]
      simp

theorem idx_zeros (l : List UInt8) (m : Nat) : idxF (l ++ List.replicate m 48) = idxF l * (2 ^ m : Nat) := by
  induction m with
  | zero => simp
  | succ m ih =>
    rw [List.replicate_succ', ← List.append_assoc, idxF_snoc, ih, Nat.pow_succ]
    have : dg 48 = 0 := rfl
    rw [this]
    push_cast
    grind
theorem idx_ones (l : List UInt8) (m : Nat) : idxF (l ++ List.replicate m 49) + 1 = (idxF l + 1) * (2 ^ m : Nat) := by
  induction m with
  | zero => simp
  | succ m ih =>
    rw [List.replicate_succ', ← List.append_assoc, idxF_snoc, Nat.pow_succ]
    have : dg 49 = 1 := rfl
    rw [this]
    push_cast at ih ⊢
    grind
/-- what follows a text: the digits ahead of the last 0 (if there is one), 1, and zeros -/
def nextR (s : List UInt8) (k : Nat) : List UInt8 := s.take (k - 1) ++ [49] ++ List.replicate (s.length - k) 48
theorem next_good {s : List UInt8} {k : Nat} (hv : vldL s = true) (hk : k ≤ s.length) (h1 : ∀ j, k ≤ j → j < s.length → s[j]? = some 49) (h0 : 1 ≤ k → s[k - 1]? = some 48) : Good (nextR s k) (idxF s + 1) := by
  obtain ⟨l1, l2, l3, l4⟩ := (vldL_iff s).1 hv
  refine ⟨?_, ?_, ?_⟩
  · intro c hc
    simp only [nextR, List.mem_append, List.mem_singleton, List.mem_replicate] at hc
    rcases hc with (hc | hc) | hc
    · exact l4 c (List.mem_of_mem_take hc)
    · rw [hc]; rfl
    · rw [hc.2]; rfl
  · have hones : s = s.take k ++ List.replicate (s.length - k) 49 := by
      apply List.ext_getElem?
      intro j
      by_cases hj : j < k
      · rw [List.getElem?_append_left (by rw [List.length_take]; omega), List.getElem?_take, if_pos hj]
      · rw [List.getElem?_append_right (by rw [List.length_take]; omega), List.length_take]
        by_cases hjl : j < s.length
        · rw [h1 j (by omega) hjl, List.getElem?_replicate, if_pos (by omega)]
        · rw [List.getElem?_eq_none (by omega), List.getElem?_eq_none (by rw [List.length_replicate]; omega)]
    have e : idxF s + 1 = (idxF (s.take k) + 1) * (2 ^ (s.length - k) : Nat) := by
      conv => lhs; rw [hones]
      rw [idx_ones]
    rw [e]
    unfold nextR
    rw [idx_zeros, idxF_snoc]
    have d1 : dg 49 = 1 := rfl
    rw [d1]
    by_cases hk0 : 1 ≤ k
    · have : s.take k = s.take (k - 1) ++ [48] := by
        conv => lhs; rw [show k = k - 1 + 1 by omega]
        rw [List.take_add_one, h0 hk0]; rfl
      rw [this, idxF_snoc]
      have d0 : dg 48 = 0 := rfl
      rw [d0]; congr 1; omega
    · obtain rfl : k = 0 := by omega
      simp [idxF]
  · unfold nextR
    by_cases hk2 : 2 ≤ k
    · rcases l3 with h | h
      · rw [h] at hk; simp at hk; omega
      · cases s with
        | nil => simp at l1
        | cons c r =>
          have hc := l4 c (by simp)
          rw [bitC_iff] at hc
          have hc9 : c = 49 := by
            rcases hc with hc | hc
            · exfalso; apply h; simp; exact UInt8.toNat_inj.1 (by rw [hc]; rfl)
            · exact UInt8.toNat_inj.1 (by rw [hc]; rfl)
          obtain ⟨q, rfl⟩ : ∃ q, k = q + 2 := ⟨k - 2, by omega⟩
          simp [hc9]
    · have : s.take (k - 1) = [] := by rw [show k - 1 = 0 by omega]; rfl
      rw [this]; rfl
end Go.Proofs.YtjjpjjoadphapaaDoor

namespace Go.Proofs.YtjjpjjoadphapaaDoor
set_option linter.unusedSimpArgs false
set_option linter.unusedVariables false
open Go.RowKit

theorem bs_sz (l : List UInt8) : (bs l).size = l.length := by rw [← toL_len, toL_bs]
theorem bs_cat (l m : List UInt8) : bs l ++ bs m = bs (l ++ m) := toL_ext (by rw [toL_bs]; simp [toL, bs, ByteArray.data_append])
/-- the one cell of the library's table that is read -/
def Two (w : World) : Prop := w.cell? ⟨2, 1, none⟩ = some (.int .u8 1)
theorem Two.keep {w w' : World} (h : Two w) {B : Nat} (hB : 2 < B) (hb : Below B w w') : Two w' := (hb.cell (p := ⟨2, 1, none⟩) hB).trans h
theorem isPow_c (w : World) : Calls Tryd.prog 74 #[.int .i64 2] w fun e w' => e = .returned (.bool true) ∧ w = w' := by
  have h : bits .and .i64 2 1 = 0 := by decide
  go_enter Tryd.func74, Tryd.ntmps74
  go_wp2
  go_ret
  exact ⟨rfl, rfl⟩
theorem tz64_c (w : World) (h : Two w) : Calls Tryd.prog 86 #[.int .u64 2] w fun e w' => e = .returned (.int .i64 1) ∧ w = w' := by
  unfold Two at h
  have h1 : IntKind.u64.wrap (bits BinOp.and IntKind.u64 2 (IntKind.u64.wrap (-2)) * 285870213051353865) / 288230376151711744 = 1 := by decide
  go_enter Tryd.func86, Tryd.ntmps86
  go_wp2_with (simp only [h1, show (1 : Int).toNat = 1 from rfl])
  go_ret
  exact ⟨rfl, rfl⟩
theorem tz_c (w : World) (h : Two w) : Calls Tryd.prog 75 #[.int .u64 2] w fun e w' => e = .returned (.int .i64 1) ∧ w = w' := by
  have H := Lib.hid h
  clear h
  go_enter Tryd.func75, Tryd.ntmps75
  go_wp2_with (go_at_call 86; refine (tz64_c _ H.out).mono ?_; rintro e w' ⟨rfl, rfl⟩)
  go_ret
  exact ⟨rfl, rfl⟩
theorem open_alloc (w : World) (C : Array Value) (t : TypeId) (n : Nat) (h : C.size = n) : Open w.heap.size n (w.alloc (.cells C t)) := by
  intro j hj
  refine ⟨⟨C[j]'(by omega), ?_⟩, ?_⟩
  · rw [World.cell?_alloc_new]; simp [h, hj]
  · rw [frozen?_alloc_cells]; simp [World.frozen?]
theorem zero65 (w : World) : Sem.run Tryd.prog (zeroValue 117) w = .ok (.agg (Array.replicate 65 (.int .u8 0))) w := by kernel_rfl
def FbRel (n : Nat) (w : World) (m : Nat) (u i : Value) (wr : World) : Prop :=
  ∃ k : Nat, k + m = 60 ∧ k ≤ 51 ∧ u = .int .u64 (n / 2 ^ k : Nat) ∧ i = .int .i64 (65 - k : Nat) ∧ 1 ≤ n / 2 ^ k ∧ (∀ j, j < k → wr.cell? ⟨w.heap.size, 64 - j, none⟩ = some (encB (bitc ((n / 2 ^ j % 2 : Nat) : Int)))) ∧ Open w.heap.size 65 wr ∧ Below w.heap.size w wr
def FbPost (n : Nat) (w : World) (e : Ending) (w' : World) : Prop := ∃ l, e = .returned (.tuple #[.slice none 0 0, .string (bs l)]) ∧ Good l n ∧ Below w.heap.size w w'
theorem and_one (q : Nat) (hq : q < 18446744073709551616) : bits .and .u64 (q : Int) 1 = ((q % 2 : Nat) : Int) := by
  have := u64_and_nat q 1 hq (by omega)
  rw [Nat.and_one_is_mod] at this
  exact this
theorem FbRel.cells {n k : Nat} {w wr : World} {d : Nat} (h : ∀ j, j < k → wr.cell? ⟨w.heap.size, 64 - j, none⟩ = some (encB (bitc ((n / 2 ^ j % 2 : Nat) : Int)))) (ho : Open w.heap.size 65 wr) (hk : k ≤ 64) (hd : n / 2 ^ k % 2 = d) {x : Int} (hx : .int .u8 x = encB (bitc (d : Int))) :
    ∀ j, j < k + 1 → (wr.setCell ⟨w.heap.size, 64 - k, none⟩ (.int .u8 x)).cell? ⟨w.heap.size, 64 - j, none⟩ = some (encB (bitc ((n / 2 ^ j % 2 : Nat) : Int))) := by
  intro j hj
  by_cases e : j = k
  · subst e
    obtain ⟨u, hu⟩ := (ho (64 - j) (by omega)).1
    rw [set_same hu, hx, hd]
  · rw [set_other (by omega)]; exact h j (by omega)
theorem slice_c (b k : Nat) (W : World) (hk : k ≤ 64) : (Instr.sliceAt 117 (.pointer (some ⟨b, 0, none⟩)) (some (.int .i64 ((64 - k : Nat) : Int))) none none).run Tryd.prog W = .ok (.slice (some ⟨b, 64 - k, none⟩) (k + 1) (k + 1)) W := by
  have hA : Tryd.prog.arrayLen 117 = 65 := by kernel_rfl
  rw [run_sliceAt_array_l W _ _ (by kernel_rfl) .i64 _ (by omega) (by rw [hA]; omega), hA, Int.toNat_natCast]
  have hE : Tryd.prog.elem 117 = 5 := by kernel_rfl
  rw [hE]
  have hS : (sizeOf 5).run Tryd.prog W = .ok 1 W := by kernel_rfl
  rw [hS]
  show Result.ok (slicedAt _ _ _ _ _) W = _
  unfold slicedAt
  rw [if_neg (by omega)]
  simp [Addr.add]
  omega
theorem conv_c (b k n : Nat) (W : World) (hk : k ≤ 64) (hW : ∀ j, j < k + 1 → W.cell? ⟨b, 64 - j, none⟩ = some (encB (bitc ((n / 2 ^ j % 2 : Nat) : Int)))) : (convert 22 9 (.slice (some ⟨b, 64 - k, none⟩) (k + 1) (k + 1))).run Tryd.prog W = .ok (.string (bs (bl k n))) W := by
  have e := run_convert_bytes_back (P := Tryd.prog) W 22 9 5 ⟨b, 64 - k, none⟩ (k + 1) (bl k n) Tryd.underlying22 Tryd.underlying5 Tryd.underlying9 (fun j hj => by
    have hj2 : j < k + 1 := by have := bl_len k n; omega
    rw [show (⟨b, 64 - k, none⟩ : Addr).add j = ⟨b, 64 - (k - j), none⟩ by rw [Addr.add_lit, show 64 - k + j = 64 - (k - j) by omega]]
    rw [hW (k - j) (by omega)]
    have h2 := bl_at k n j (by omega)
    rw [List.getElem?_eq_getElem (by rw [bl_len]; omega)] at h2
    rw [Option.some.inj h2]; rfl)
  rw [bl_len] at e
  exact e

set_option maxRecDepth 100000 in
set_option maxHeartbeats 8000000 in
theorem formatBits_c (n : Nat) (w : World) (hn : 1 ≤ n) (hn2 : n ≤ 2251799813685247) (hT : Two w) (h6 : 2 < w.heap.size) : Calls Tryd.prog 56 #[.slice none 0 0, .int .u64 n, .int .i64 2, .bool false, .bool false] w (FbPost n w) := by
  have HT := Lib.hid hT
  clear hT
  go_enter Tryd.func56, Tryd.ntmps56
  go_wp2_with (rw [zero65])
  generalize hW : World.alloc _ _ = W0
  have hO := Lib.hid (show Open w.heap.size 65 W0 by rw [← hW]; exact open_alloc w _ _ 65 rfl)
  have hB0 := Lib.hid (show Below w.heap.size w W0 by rw [← hW]; (first | ((repeat' with_reducible first | assumption | exact Below.refl _ _ | apply Blw.alloc | apply Blw.drew | apply Blw.drewN | (refine Blw.after ?_ (by assumption)) | (refine Blw.set ?_ (by first | (dsimp only; omega) | (simp; omega)) _)); done) | (repeat' (first | assumption | exact Below.refl _ _ | apply Blw.alloc | apply Blw.drew | apply Blw.drewN | (refine Blw.after ?_ (by assumption)) | (refine Blw.set ?_ (by first | (dsimp only; omega) | (simp; done) | (simp; omega)) _)))))
  have HT0 := Lib.hid (HT.out.keep h6 hB0.out)
  clear hW
  go_wp2_with (first | (go_at_call 74; refine (isPow_c _).mono ?_; rintro e w' ⟨rfl, rfl⟩) | (go_at_call 75; refine (tz_c _ HT0.out).mono ?_; rintro e w' ⟨rfl, rfl⟩))
  have S0 := Lib.hid (show FbRel n w 60 (.int .u64 n) (.int .i64 65) W0 from ⟨0, by omega, by omega, by rw [Nat.pow_zero, Nat.div_one], rfl, by rw [Nat.pow_zero, Nat.div_one]; exact hn, fun j hj => by omega, hO.out, hB0.out⟩)
  go_loopg [1, 13] 60 (fun m u i wr => FbRel n w m u i wr)
  case atStart => exact S0.out
  case round =>
    clear S0
    obtain ⟨k, hk, hk51, rfl, rfl, hq1, hc, ho, hB⟩ := hrel
    have HC := Lib.hid hc
    have HO := Lib.hid ho
    have hqn : n / 2 ^ k ≤ n := Nat.div_le_self _ _
    obtain ⟨⟨u0, c0⟩, f0⟩ := ho (64 - k) (by omega)
    have e1 : (((65 - k : Nat) : Int) - 1) = ((64 - k : Nat) : Int) := by omega
    clear hc ho
    by_cases h2 : 2 ≤ n / 2 ^ k
    · have hk50 : k + 1 ≤ 51 := by
        apply Nat.le_of_not_lt
        intro hlt
        have h51 : k = 51 := by omega
        rw [h51] at h2
        have := (Nat.le_div_iff_mul_le (by decide)).1 h2
        have e : (2 : Nat) ^ 51 = 2251799813685248 := by decide
        rw [e] at this
        omega
      have HD := Lib.hid (show n / 2 ^ (k + 1) = n / 2 ^ k / 2 by rw [Nat.pow_succ, ← Nat.div_div_eq_div_mul])
      have ha := and_one (n / 2 ^ k) (by omega)
      rcases Nat.mod_two_eq_zero_or_one (n / 2 ^ k) with hm | hm
      all_goals
        rw [hm] at ha
        have HCE := Lib.hid (fun x hx => FbRel.cells (d := _) (x := x) HC.out HO.out (by omega) hm hx)
        clear hm
        generalize hq : n / 2 ^ k = q at *
        have HQ := Lib.hid hq
        clear hq
        go_wp2
        go_roundg (gk - 1)
        case measure => omega
        case rel => exact ⟨k + 1, by omega, hk50, by rw [HD.out]; rfl, by congr 1; omega, by rw [HD.out]; omega, HCE.out _ rfl, HO.out.set, by (first | ((repeat' with_reducible first | assumption | exact Below.refl _ _ | apply Blw.alloc | apply Blw.drew | apply Blw.drewN | (refine Blw.after ?_ (by assumption)) | (refine Blw.set ?_ (by first | (dsimp only; omega) | (simp; omega)) _)); done) | (repeat' (first | assumption | exact Below.refl _ _ | apply Blw.alloc | apply Blw.drew | apply Blw.drewN | (refine Blw.after ?_ (by assumption)) | (refine Blw.set ?_ (by first | (dsimp only; omega) | (simp; done) | (simp; omega)) _))))⟩
    · have hq : n / 2 ^ k = 1 := by omega
      have HQ := Lib.hid hq
      have HCE := Lib.hid (fun x hx => FbRel.cells (d := 1) (x := x) HC.out HO.out (by omega) (by rw [hq]) hx)
      rw [hq]
      clear hq
      have hsl := fun W => slice_c w.heap.size k W (by omega)
      have hcv := fun W hW => conv_c w.heap.size k n W (by omega) hW
      go_wp2_with (rw [hcv]; rotate_left; exact HCE.out _ rfl)
      go_ret2
      exact ⟨bl k n, rfl, bl_good HQ.out, by (first | ((repeat' with_reducible first | assumption | exact Below.refl _ _ | apply Blw.alloc | apply Blw.drew | apply Blw.drewN | (refine Blw.after ?_ (by assumption)) | (refine Blw.set ?_ (by first | (dsimp only; omega) | (simp; omega)) _)); done) | (repeat' (first | assumption | exact Below.refl _ _ | apply Blw.alloc | apply Blw.drew | apply Blw.drewN | (refine Blw.after ?_ (by assumption)) | (refine Blw.set ?_ (by first | (dsimp only; omega) | (simp; done) | (simp; omega)) _))))⟩
end Go.Proofs.YtjjpjjoadphapaaDoor

namespace Go.Proofs.YtjjpjjoadphapaaDoor
set_option linter.unusedSimpArgs false
set_option linter.unusedVariables false
open Go.RowKit

def NextPost (s : ByteArray) (w : World) (e : Ending) (w' : World) : Prop := ∃ l, e = .returned (resD l) ∧ (vldB s = true → Good l (idxF (toL s) + 1)) ∧ (vldB s = false → l = []) ∧ Below w.heap.size w w'
theorem resD_nil : resD [] = .tuple #[.string ⟨#[]⟩, .bool false] := rfl
def NKRel (s : ByteArray) (w : World) (m : Nat) (kv : Value) (wr : World) : Prop :=
  ∃ k : Nat, k = m ∧ k ≤ s.size ∧ kv = .int .i64 k ∧ wr = w ∧ ∀ j, k ≤ j → j < s.size → (toL s)[j]? = some 49
def NZRel (s : ByteArray) (w : World) (k : Nat) (m : Nat) (zv iv : Value) (wr : World) : Prop :=
  ∃ i : Nat, i + m = s.size ∧ k ≤ i ∧ iv = .int .i64 i ∧ wr = w ∧ zv = .string (bs (List.replicate (i - k) 48))


theorem toL_take (s : ByteArray) (k : Nat) : s.extract 0 k = bs ((toL s).take k) := by
  apply toL_ext
  rw [toL_bs, ← bs_toL s]
  show toL ((ByteArray.mk (toL s).toArray).extract 0 k) = _
  rw [ByteArray.extract_mk]
  simp [toL, bs]
end Go.Proofs.YtjjpjjoadphapaaDoor

namespace Go.Proofs.YtjjpjjoadphapaaDoor
set_option linter.unusedSimpArgs false
set_option linter.unusedVariables false
open Go.RowKit

def FmPost (v : Int) (w : World) (e : Ending) (w' : World) : Prop := ∃ l, e = .returned (.string (bs l)) ∧ Good l v ∧ Below w.heap.size w w'
set_option maxRecDepth 100000 in
theorem fmtIn_c (n : Nat) (w : World) (hn : 1 ≤ n) (hn2 : n ≤ 2251799813685247) (hT : Two w) (h6 : 2 < w.heap.size) : Calls Tryd.prog 40 #[.int .i64 n, .int .i64 2] w (FmPost n w) := by
  have HT := Lib.hid hT
  clear hT
  go_enter Tryd.func40, Tryd.ntmps40
  go_wp2_with (go_at_call 56; rw [show decide ((n : Int) < 0) = false from decide_eq_false (by omega)]; refine (formatBits_c n _ hn hn2 HT.out h6).mono ?_; rintro e w' ⟨l, rfl, hg, hb⟩; have HG := Lib.hid hg; clear hg)
  go_ret
  exact ⟨l, rfl, HG.out, hb⟩
theorem fmt_c (v : Int) (w : World) (hn : 1 ≤ v) (hn2 : v ≤ 2251799813685247) (hT : Two w) (h6 : 2 < w.heap.size) : Calls Tryd.prog 23 #[.int .i64 v, .int .i64 2] w (FmPost v w) := by
  obtain ⟨n, rfl⟩ : ∃ n : Nat, v = (n : Int) := ⟨v.toNat, by omega⟩
  have HT := Lib.hid hT
  clear hT
  have h1 : 1 ≤ n := by omega
  have h2 : n ≤ 2251799813685247 := by omega
  go_enter Tryd.func23, Tryd.ntmps23
  go_wp2_with (go_at_call 40; refine (fmtIn_c n _ h1 h2 HT.out h6).mono ?_; rintro e w' ⟨l, rfl, hg, hb⟩; have HG := Lib.hid hg; clear hg)
  go_ret
  exact ⟨l, rfl, HG.out, hb⟩

theorem resD_yes {l : List UInt8} {v : Int} (h : Good l v) (hl : l.length ≤ 50) : resD l = .tuple #[.string (bs l), .bool true] := by
  obtain ⟨b, _, g⟩ := h
  have hs : strip l = toL (bs l) := by rw [toL_bs]; exact strip_keep (by cases l with | nil => simp at g | cons a r => simp at g ⊢; rw [g]; decide)
  refine resD_t hs ?_
  show vldL (toL (bs l)) = true
  rw [toL_bs, vldL_iff]
  cases l with
  | nil => simp at g
  | cons a r => refine ⟨by simp, hl, Or.inr ?_, b⟩; simp at g ⊢; rw [g]; decide
theorem resD_over {l : List UInt8} {v : Int} (h : Good l v) (hl : 50 < l.length) : resD l = .tuple #[.string ⟨#[]⟩, .bool false] := by
  obtain ⟨b, _, g⟩ := h
  have hs : strip l = toL (bs l) := by rw [toL_bs]; exact strip_keep (by cases l with | nil => simp at g | cons a r => simp at g ⊢; rw [g]; decide)
  refine resD_f hs ?_
  show vldL (toL (bs l)) = false
  rw [toL_bs, ← Bool.not_eq_true, vldL_iff]
  rintro ⟨_, h2, _⟩
  omega

theorem Next_same {s : ByteArray} {l m : List UInt8} (h1 : vldB s = true → Good l (idxF (toL s) + 1)) (h2 : vldB s = false → l = []) (k1 : vldB s = true → Good m (idxF (toL s) + 1)) (k2 : vldB s = false → m = []) : l = m := by
  rcases Bool.eq_false_or_eq_true (vldB s) with hv | hv
  · exact good_unique _ _ _ (h1 hv) (k1 hv)
  · rw [h2 hv, k2 hv]
end Go.Proofs.YtjjpjjoadphapaaDoor

namespace Go.Proofs.YtjjpjjoadphapaaDoor
set_option linter.unusedSimpArgs false
set_option linter.unusedVariables false
open Ieee
/-- n over 2 to the power of p, rounded to the nearest, between two the even one -/
def rnd (n p : Nat) : Nat := n / 2 ^ p + (decide (2 ^ p < 2 * (n % 2 ^ p)) || (2 ^ p == 2 * (n % 2 ^ p) && n / 2 ^ p % 2 == 1)).toNat
theorem cut_rnd (s : Bool) (n p : Nat) : Toward.even.cut s n p = rnd n p := by
  unfold Toward.cut rnd
  simp only [Nat.one_shiftLeft]
  rcases Nat.le_total p (n.log2 + 2) with h | h
  · rw [Nat.min_eq_left h]
  · rw [Nat.min_eq_right h]
    have h1 : n < 2 ^ (n.log2 + 1) := Nat.lt_log2_self
    have h2 : 2 ^ (n.log2 + 2) = 2 * 2 ^ (n.log2 + 1) := by rw [Nat.pow_succ]; omega
    have h3 : 2 ^ (n.log2 + 2) ≤ 2 ^ p := Nat.pow_le_pow_right (by omega) h
    rw [Nat.div_eq_of_lt (by omega), Nat.mod_eq_of_lt (by omega), Nat.div_eq_of_lt (a := n) (b := 2 ^ p) (by omega), Nat.mod_eq_of_lt (a := n) (b := 2 ^ p) (by omega)]
    have e1 : decide (2 ^ (n.log2 + 2) < 2 * n) = false := by simp; omega
    have e2 : decide (2 ^ p < 2 * n) = false := by simp; omega
    simp [e1, e2]
theorem rnd_none (n : Nat) : rnd n 0 = n := by
  simp [rnd, Nat.mod_one]
theorem rnd_scale (n p t : Nat) : rnd (n * 2 ^ t) (p + t) = rnd n p := by
  unfold rnd
  have hp := Nat.two_pow_pos t
  rw [Nat.pow_add, Nat.mul_div_mul_right _ _ hp, Nat.mul_mod_mul_right]
  generalize n % 2 ^ p = r
  generalize 2 ^ p = g
  have e : 2 * (r * 2 ^ t) = (2 * r) * 2 ^ t := by rw [Nat.mul_assoc]
  have e1 : decide (g * 2 ^ t < 2 * (r * 2 ^ t)) = decide (g < 2 * r) := by
    rw [e]; exact decide_eq_decide.2 (Nat.mul_lt_mul_right hp)
  have e2 : (g * 2 ^ t == 2 * (r * 2 ^ t)) = (g == 2 * r) := by
    rw [e]
    rw [Bool.eq_iff_iff]
    simp only [beq_iff_eq]
    exact ⟨fun h => Nat.eq_of_mul_eq_mul_right hp h, fun h => by rw [h]⟩
  rw [e1, e2]
theorem rnd_exact (k p : Nat) : rnd (k * 2 ^ p) p = k := by
  have := rnd_scale k 0 p
  rw [Nat.zero_add, rnd_none] at this
  exact this
theorem rnd_le {n p M : Nat} (h : n ≤ M * 2 ^ p) : rnd n p ≤ M := by
  have hp := Nat.two_pow_pos p
  have h1 : n / 2 ^ p ≤ M := Nat.div_le_of_le_mul (by rw [Nat.mul_comm]; exact h)
  unfold rnd
  rcases Nat.lt_or_eq_of_le h1 with h2 | h2
  · have := Bool.toNat_le (decide (2 ^ p < 2 * (n % 2 ^ p)) || (2 ^ p == 2 * (n % 2 ^ p) && n / 2 ^ p % 2 == 1))
    omega
  · have h3 := Nat.div_add_mod n (2 ^ p)
    rw [h2, Nat.mul_comm] at h3
    have h4 : n % 2 ^ p = 0 := by omega
    rw [h4, h2]
    have e : (2 ^ p == 2 * 0) = false := by simp
    simp [e]
theorem rnd_ge {n p M : Nat} (h : M * 2 ^ p ≤ n) : M ≤ rnd n p := by
  have h1 : M ≤ n / 2 ^ p := (Nat.le_div_iff_mul_le (Nat.two_pow_pos p)).2 h
  unfold rnd
  omega
theorem log2_scale {n : Nat} (h : n ≠ 0) (t : Nat) : (n * 2 ^ t).log2 = n.log2 + t := by
  rw [Nat.log2_eq_iff (Nat.mul_ne_zero h (Nat.ne_of_gt (Nat.two_pow_pos t)))]
  refine ⟨?_, ?_⟩
  · rw [Nat.pow_add]; exact Nat.mul_le_mul_right _ (Nat.log2_self_le h)
  · rw [show n.log2 + t + 1 = (n.log2 + 1) + t by omega, Nat.pow_add]
    exact (Nat.mul_lt_mul_right (Nat.two_pow_pos t)).2 Nat.lt_log2_self
theorem nearest_zero (f : Format) (s : Bool) (p : Int) : f.nearest s 0 p = f.word s 0 := by simp [Format.nearest]
theorem nearest_shift (f : Format) (s : Bool) (m t : Nat) (p : Int) : f.nearest s (m * 2 ^ t) (p - t) = f.nearest s m p := by
  rcases Nat.eq_zero_or_pos m with rfl | hm
  · rw [Nat.zero_mul, nearest_zero, nearest_zero]
  have hm0 : m ≠ 0 := by omega
  have hmt : m * 2 ^ t ≠ 0 := Nat.mul_ne_zero hm0 (Nat.ne_of_gt (Nat.two_pow_pos t))
  unfold Format.nearest
  rw [if_neg hm0, if_neg hmt]
  simp only [log2_scale hm0, cut_rnd, Nat.shiftLeft_eq]
  have e : max (p - (t : Int) + ((m.log2 + t : Nat) : Int) - (f.fractionBits : Int)) f.leastPlace = max (p + (m.log2 : Int) - (f.fractionBits : Int)) f.leastPlace := by omega
  rw [e]
  generalize max (p + (m.log2 : Int) - (f.fractionBits : Int)) f.leastPlace = last
  have k : rnd (m * 2 ^ t * 2 ^ (p - (t : Int) - last).toNat) (last - (p - (t : Int))).toNat = rnd (m * 2 ^ (p - last).toNat) (last - p).toNat := by
    by_cases c1 : last ≤ p - t
    · rw [show (last - (p - (t : Int))).toNat = 0 by omega, show (last - p).toNat = 0 by omega, rnd_none, rnd_none, Nat.mul_assoc, ← Nat.pow_add, show t + (p - (t : Int) - last).toNat = (p - last).toNat by omega]
    · by_cases c2 : last ≤ p
      · rw [show (p - (t : Int) - last).toNat = 0 by omega, show (last - p).toNat = 0 by omega, rnd_none, Nat.pow_zero, Nat.mul_one]
        have e3 : t = (p - last).toNat + (last - (p - (t : Int))).toNat := by omega
        generalize (last - (p - (t : Int))).toNat = a at e3
        rw [e3, Nat.pow_add, ← Nat.mul_assoc, rnd_exact]
      · rw [show (p - (t : Int) - last).toNat = 0 by omega, show (p - last).toNat = 0 by omega, Nat.pow_zero, Nat.mul_one, Nat.mul_one, show (last - (p - (t : Int))).toNat = (last - p).toNat + t by omega, rnd_scale]
  rw [k]
/-- the number of units that a number of 2 to the power of -u units is rounded to -/
def dropU (f : Format) (u V : Nat) : Nat := max (V.log2 - f.fractionBits) u
def rndU (f : Format) (u V : Nat) : Nat := rnd V (dropU f u V) * 2 ^ (dropU f u V - u)
theorem nearest_eq (f : Format) (s : Bool) {V : Nat} (hV : V ≠ 0) (u : Nat) {p : Int} (hp : p + u = f.leastPlace) :
    f.nearest s V p = f.word s (min ((dropU f u V - u) * f.binade + rnd V (dropU f u V)) f.infRung) := by
  unfold Format.nearest dropU
  rw [if_neg hV]
  have e : max (p + (V.log2 : Int) - (f.fractionBits : Int)) f.leastPlace = p + ((max (V.log2 - f.fractionBits) u : Nat) : Int) := by omega
  simp only [e, cut_rnd, Nat.shiftLeft_eq]
  generalize max (V.log2 - f.fractionBits) u = d
  rw [show (p - (p + (d : Int))).toNat = 0 by omega, show (p + (d : Int) - p).toNat = d by omega, show (p + (d : Int) - f.leastPlace).toNat = d - u by omega, Nat.pow_zero, Nat.mul_one]
theorem infRung_le (f : Format) : f.infRung ≤ f.signWeight := Nat.le_of_lt (Format.infRung_lt f)
theorem read_word (f : Format) (s : Bool) {r : Nat} (h : r < f.infRung) :
    f.read (f.word s r) = if r < f.binade then .number s r f.leastPlace else .number s (f.binade + r % f.binade) (f.leastPlace + (r / f.binade - 1 : Nat)) := by
  have hw := infRung_le f
  have hpos : 0 < f.signWeight := by omega
  have e1 : (f.word s r / f.signWeight % 2 == 1) = s := by
    cases s
    · show (r / f.signWeight % 2 == 1) = false
      rw [Nat.div_eq_of_lt (by omega)]; rfl
    · show ((f.signWeight + r) / f.signWeight % 2 == 1) = true
      rw [Nat.add_div_left _ hpos, Nat.div_eq_of_lt (by omega)]; rfl
  have e2 : f.word s r % f.signWeight = r := by
    cases s
    · show r % f.signWeight = r
      exact Nat.mod_eq_of_lt (by omega)
    · show (f.signWeight + r) % f.signWeight = r
      rw [Nat.add_mod_left]; exact Nat.mod_eq_of_lt (by omega)
  unfold Format.read
  simp only [e1, e2, if_pos h]
/-- a word that stands for V units, of a sign -/
def Fl (f : Format) (x : Nat) (s : Bool) (V : Nat) : Prop := ∃ m k : Nat, f.read x = .number s m (f.leastPlace + (k : Int)) ∧ m * 2 ^ k = V ∧ m < 2 ^ (f.fractionBits + 1)
theorem binade_pos (f : Format) : 0 < f.binade := Nat.two_pow_pos _
theorem fl_word (f : Format) (s : Bool) {e k : Nat} (hk : k ≤ 2 * f.binade) (he : e = 0 ∨ f.binade ≤ k) (hr : e + 2 < 2 ^ f.exponentBits - 1) :
    e * f.binade + k < f.infRung ∧ Fl f (f.word s (e * f.binade + k)) s (k * 2 ^ e) := by
  have hb := binade_pos f
  have h2 : 2 ^ (f.fractionBits + 1) = 2 * f.binade := by rw [Nat.pow_succ, Nat.mul_comm]; rfl
  have hi : e * f.binade + k < f.infRung := by
    have h1 : (e + 2) * f.binade < f.infRung := (Nat.mul_lt_mul_right hb).2 hr
    rw [Nat.add_mul] at h1
    omega
  refine ⟨hi, ?_⟩
  unfold Fl
  rw [read_word f s hi, h2]
  generalize f.binade = B at *
  by_cases c : e * B + k < B
  · have e0 : e = 0 := by
      rcases he with h | h
      · exact h
      · have := Nat.zero_le (e * B); omega
    subst e0
    rw [if_pos c]
    exact ⟨0 * B + k, 0, by simp, by simp, by omega⟩
  · rw [if_neg c]
    by_cases c2 : k = 2 * B
    · subst c2
      have q : (e * B + 2 * B) / B = e + 2 := by rw [← Nat.add_mul]; exact Nat.mul_div_cancel _ hb
      have q2 : (e * B + 2 * B) % B = 0 := by rw [← Nat.add_mul]; exact Nat.mul_mod_left _ _
      refine ⟨B, e + 1, ?_, ?_, by omega⟩
      · rw [q, q2]; congr 1
      · rw [Nat.pow_succ]; ac_rfl
    · have kB : B ≤ k := by
        rcases he with h | h
        · subst h; omega
        · exact h
      obtain ⟨j, rfl⟩ : ∃ j, k = B + j := ⟨k - B, by omega⟩
      have e3 : e * B + (B + j) = j + B * (e + 1) := by rw [Nat.mul_add, Nat.mul_comm e B]; omega
      have q : (e * B + (B + j)) / B = e + 1 := by rw [e3, Nat.add_mul_div_left _ _ hb, Nat.div_eq_of_lt (by omega)]; omega
      have q2 : (e * B + (B + j)) % B = j := by rw [e3, Nat.add_mul_mod_self_left, Nat.mod_eq_of_lt (by omega)]
      refine ⟨B + j, e, ?_, rfl, by omega⟩
      rw [q, q2]; congr 1
theorem fl_zero (f : Format) (s : Bool) (hb : f.binade ≤ f.infRung) : Fl f (f.word s 0) s 0 := by
  have := binade_pos f
  refine ⟨0, 0, ?_, by simp, Nat.two_pow_pos _⟩
  rw [read_word f s (by omega), if_pos (by omega)]
  simp
theorem rnd_top (f : Format) (u V : Nat) : rnd V (dropU f u V) ≤ 2 * f.binade := by
  apply rnd_le
  have h1 : V < 2 ^ (V.log2 + 1) := Nat.lt_log2_self
  have h2 : 2 ^ (V.log2 + 1) ≤ 2 ^ (f.fractionBits + 1 + dropU f u V) := Nat.pow_le_pow_right (by omega) (by unfold dropU; omega)
  have h3 : 2 ^ (f.fractionBits + 1 + dropU f u V) = 2 * f.binade * 2 ^ dropU f u V := by
    rw [Nat.pow_add, Nat.pow_succ, Nat.mul_comm (2 ^ f.fractionBits) 2]; rfl
  omega
theorem rnd_bottom (f : Format) {u V : Nat} (hV : V ≠ 0) (h : u < dropU f u V) : f.binade ≤ rnd V (dropU f u V) := by
  apply rnd_ge
  have h1 : 2 ^ V.log2 ≤ V := Nat.log2_self_le hV
  have h2 : 2 ^ (f.fractionBits + dropU f u V) ≤ 2 ^ V.log2 := Nat.pow_le_pow_right (by omega) (by unfold dropU at *; omega)
  rw [Nat.pow_add] at h2
  exact Nat.le_trans h2 h1
theorem fl_nearest (f : Format) (s : Bool) (V u : Nat) {p : Int} (hp : p + u = f.leastPlace) (hl : dropU f u V - u + 2 < 2 ^ f.exponentBits - 1) :
    Fl f (f.nearest s V p) s (rndU f u V) := by
  by_cases hV : V = 0
  · subst hV
    rw [nearest_zero]
    have e : rndU f u 0 = 0 := by
      unfold rndU
      have : rnd 0 (dropU f u 0) ≤ 0 := rnd_le (by omega)
      rw [Nat.le_zero.1 this, Nat.zero_mul]
    rw [e]
    refine fl_zero f s ?_
    show f.binade ≤ (2 ^ f.exponentBits - 1) * f.binade
    exact Nat.le_mul_of_pos_left _ (by omega)
  · rw [nearest_eq f s hV u hp]
    have h := fl_word f s (e := dropU f u V - u) (rnd_top f u V) (by
      by_cases c : u < dropU f u V
      · exact .inr (rnd_bottom f hV c)
      · exact .inl (by omega)) hl
    rw [Nat.min_eq_left (Nat.le_of_lt h.1)]
    exact h.2
/-- representable -/
def Rep (f : Format) (c : Nat) : Prop := ∃ d, 2 ^ d ∣ c ∧ c < 2 ^ (f.fractionBits + 1 + d)
theorem rep_small {f : Format} {c : Nat} (h : c < 2 ^ (f.fractionBits + 1)) : Rep f c := ⟨0, by simp, by simpa using h⟩
theorem rep_scale {f : Format} {c : Nat} (h : Rep f c) (t : Nat) : Rep f (c * 2 ^ t) := by
  obtain ⟨d, h1, h2⟩ := h
  refine ⟨d + t, ?_, ?_⟩
  · rw [Nat.pow_add]; exact Nat.mul_dvd_mul_right h1 _
  · rw [← Nat.add_assoc, Nat.pow_add]; exact (Nat.mul_lt_mul_right (Nat.two_pow_pos t)).2 h2
theorem fl_rep {f : Format} {x : Nat} {s : Bool} {V : Nat} (h : Fl f x s V) : Rep f V := by
  obtain ⟨m, k, _, rfl, h⟩ := h
  exact rep_scale (rep_small h) k
theorem drop_le {f : Format} {u V d : Nat} (hV : V ≠ 0) (hu : u ≤ d) (h : V < 2 ^ (f.fractionBits + 1 + d)) : dropU f u V ≤ d := by
  have := (Nat.log2_lt hV).2 h
  unfold dropU
  omega
theorem rndU_exact {f : Format} {u c : Nat} (h : Rep f c) : rndU f u (c * 2 ^ u) = c := by
  by_cases hc : c = 0
  · subst hc
    rw [Nat.zero_mul]
    unfold rndU
    have : rnd 0 (dropU f u 0) ≤ 0 := rnd_le (by omega)
    rw [Nat.le_zero.1 this, Nat.zero_mul]
  obtain ⟨d, ⟨b, rfl⟩, h2⟩ := h
  have hn : 2 ^ d * b * 2 ^ u ≠ 0 := Nat.mul_ne_zero hc (Nat.ne_of_gt (Nat.two_pow_pos u))
  have hd : dropU f u (2 ^ d * b * 2 ^ u) ≤ d + u := drop_le hn (by omega) (by
    rw [← Nat.add_assoc, Nat.pow_add]; exact (Nat.mul_lt_mul_right (Nat.two_pow_pos u)).2 h2)
  have hd2 : u ≤ dropU f u (2 ^ d * b * 2 ^ u) := by unfold dropU; omega
  unfold rndU
  generalize dropU f u (2 ^ d * b * 2 ^ u) = D at hd hd2
  obtain ⟨a, rfl⟩ : ∃ a, D = u + a := ⟨D - u, by omega⟩
  obtain ⟨c, rfl⟩ : ∃ c, d = a + c := ⟨d - a, by omega⟩
  have e : 2 ^ (a + c) * b * 2 ^ u = 2 ^ c * b * 2 ^ (u + a) := by
    rw [Nat.pow_add, Nat.pow_add]; ac_rfl
  rw [e, rnd_exact, show u + a - u = a by omega, Nat.pow_add]
  ac_rfl
theorem rndU_zero (f : Format) (u : Nat) : rndU f u 0 = 0 := by
  have := rndU_exact (f := f) (u := u) (c := 0) ⟨0, by simp, Nat.two_pow_pos _⟩
  rwa [Nat.zero_mul] at this
theorem rndU_le {f : Format} {u V M : Nat} (hM : Rep f M) (h : V ≤ M * 2 ^ u) : rndU f u V ≤ M := by
  by_cases hV : V = 0
  · subst hV
    rw [rndU_zero]; omega
  obtain ⟨d, ⟨b, rfl⟩, h2⟩ := hM
  have hd : dropU f u V ≤ d + u := drop_le hV (by omega) (by
    rw [← Nat.add_assoc, Nat.pow_add]
    exact Nat.lt_of_le_of_lt h ((Nat.mul_lt_mul_right (Nat.two_pow_pos u)).2 h2))
  have hd2 : u ≤ dropU f u V := by unfold dropU; omega
  unfold rndU
  generalize dropU f u V = D at hd hd2
  obtain ⟨a, rfl⟩ : ∃ a, D = u + a := ⟨D - u, by omega⟩
  obtain ⟨c, rfl⟩ : ∃ c, d = a + c := ⟨d - a, by omega⟩
  have e : 2 ^ (a + c) * b * 2 ^ u = 2 ^ c * b * 2 ^ (u + a) := by
    rw [Nat.pow_add, Nat.pow_add]; ac_rfl
  rw [e] at h
  have := rnd_le h
  rw [show u + a - u = a by omega, Nat.pow_add]
  calc rnd V (u + a) * 2 ^ a ≤ 2 ^ c * b * 2 ^ a := Nat.mul_le_mul_right _ this
    _ = 2 ^ a * 2 ^ c * b := by ac_rfl
theorem drop_lim {f : Format} {u V M : Nat} (h : V < 2 ^ (f.fractionBits + 1 + u + M)) : dropU f u V - u ≤ M := by
  by_cases hV : V = 0
  · subst hV
    unfold dropU
    rw [Nat.log2_zero]
    omega
  · have := drop_le (f := f) (u := u) (V := V) (d := u + M) hV (by omega) (by rwa [← Nat.add_assoc])
    omega
/-- the whole number that a sign and a size stand for -/
def sg (s : Bool) (V : Nat) : Int := if s then -(V : Int) else V
theorem sg_abs (s : Bool) (V : Nat) : (sg s V).natAbs = V := by cases s <;> simp [sg]
theorem signed_sg (s : Bool) (m k : Nat) : signed s m k = sg s (m * 2 ^ k) := by
  unfold signed sg; rw [Nat.shiftLeft_eq]
theorem sg_scale (s : Bool) (m k : Nat) : sg s (m * 2 ^ k) = sg s m * 2 ^ k := by
  cases s <;> simp [sg, Int.neg_mul]
/-- the word of a sum -/
def sumW (f : Format) (s : Bool) (V : Nat) (t : Bool) (W : Nat) : Nat :=
  f.nearest (if sg s V + sg t W = 0 then s && t else decide (sg s V + sg t W < 0)) (sg s V + sg t W).natAbs f.leastPlace
theorem sum_write {f : Format} {s t : Bool} {m n i j : Nat} :
    ((Datum.number s m (f.leastPlace + (i : Int))).sum (.number t n (f.leastPlace + (j : Int)))).map f.write = some (sumW f s (m * 2 ^ i) t (n * 2 ^ j)) := by
  unfold Datum.sum
  have hb : min (f.leastPlace + (i : Int)) (f.leastPlace + (j : Int)) = f.leastPlace + ((min i j : Nat) : Int) := by omega
  simp only [hb, Option.map_some, Format.write, signed_sg]
  rw [show (f.leastPlace + (i : Int) - (f.leastPlace + ((min i j : Nat) : Int))).toNat = i - min i j by omega, show (f.leastPlace + (j : Int) - (f.leastPlace + ((min i j : Nat) : Int))).toNat = j - min i j by omega]
  have e1 : sg s (m * 2 ^ i) = sg s (m * 2 ^ (i - min i j)) * 2 ^ min i j := by
    rw [← sg_scale, Nat.mul_assoc, ← Nat.pow_add, show i - min i j + min i j = i by omega]
  have e2 : sg t (n * 2 ^ j) = sg t (n * 2 ^ (j - min i j)) * 2 ^ min i j := by
    rw [← sg_scale, Nat.mul_assoc, ← Nat.pow_add, show j - min i j + min i j = j by omega]
  unfold sumW
  rw [e1, e2, ← Int.add_mul]
  generalize sg s (m * 2 ^ (i - min i j)) + sg t (n * 2 ^ (j - min i j)) = T
  generalize min i j = b
  have hp : (0 : Int) < 2 ^ b := by exact_mod_cast Nat.two_pow_pos b
  have c1 : (T * 2 ^ b = 0) = (T = 0) := by
    apply propext
    refine ⟨fun h => ?_, fun h => by rw [h, Int.zero_mul]⟩
    rcases Int.mul_eq_zero.1 h with h | h
    · exact h
    · omega
  have c2 : (T * 2 ^ b < 0) = (T < 0) := by
    apply propext
    refine ⟨fun h => ?_, fun h => Int.mul_neg_of_neg_of_pos h hp⟩
    rcases Int.lt_or_le T 0 with h2 | h2
    · exact h2
    · have := Int.mul_nonneg h2 (Int.le_of_lt hp); omega
  have c3 : (T * 2 ^ b).natAbs = T.natAbs * 2 ^ b := by rw [Int.natAbs_mul, Int.natAbs_pow]; rfl
  have c4 : f.leastPlace = (f.leastPlace + (b : Int)) - (b : Int) := by omega
  simp only [c1, c2, c3]
  conv => rhs; rw [c4]
  rw [nearest_shift]
theorem fl_add {f : Format} {x y : Nat} {s t : Bool} {V W : Nat} (hx : Fl f x s V) (hy : Fl f y t W) : f.add x y = some (sumW f s V t W) := by
  obtain ⟨m, i, h1, rfl, _⟩ := hx
  obtain ⟨n, j, h2, rfl, _⟩ := hy
  unfold Format.add
  rw [h1, h2, sum_write]
theorem fl_sub {f : Format} {x y : Nat} {s t : Bool} {V W : Nat} (hx : Fl f x s V) (hy : Fl f y t W) : f.sub x y = some (sumW f s V (!t) W) := by
  obtain ⟨m, i, h1, rfl, _⟩ := hx
  obtain ⟨n, j, h2, rfl, _⟩ := hy
  unfold Format.sub
  rw [h1, h2]
  exact sum_write
end Go.Proofs.YtjjpjjoadphapaaDoor

namespace Go.Proofs.YtjjpjjoadphapaaDoor
set_option linter.unusedSimpArgs false
set_option linter.unusedVariables false
open Ieee
/-- the sign and the size of a sum -/
def sumS (s : Bool) (V : Nat) (t : Bool) (W : Nat) : Bool := if sg s V + sg t W = 0 then s && t else decide (sg s V + sg t W < 0)
def sumA (s : Bool) (V : Nat) (t : Bool) (W : Nat) : Nat := (sg s V + sg t W).natAbs
theorem sumA_le (s : Bool) (V : Nat) (t : Bool) (W : Nat) : sumA s V t W ≤ V + W := by
  unfold sumA
  have := Int.natAbs_add_le (sg s V) (sg t W)
  rw [sg_abs, sg_abs] at this
  exact this
theorem fl_sum {f : Format} (s : Bool) (V : Nat) (t : Bool) (W : Nat) (hl : dropU f 0 (sumA s V t W) - 0 + 2 < 2 ^ f.exponentBits - 1) :
    Fl f (sumW f s V t W) (sumS s V t W) (rndU f 0 (sumA s V t W)) := fl_nearest f _ _ 0 (by omega) hl
/-- the half -/
theorem quot_two {f : Format} {s : Bool} {m i : Nat} (hm : m < 2 ^ (f.fractionBits + 1)) :
    ((Datum.number s m (f.leastPlace + (i : Int))).quotient (f.fractionBits + 2) (.number false (2 ^ f.fractionBits) (1 - (f.fractionBits : Int)))).map f.write = some (f.nearest s (m * 2 ^ i) (f.leastPlace - 1)) := by
  have hp := Nat.two_pow_pos f.fractionBits
  have hne : 2 ^ f.fractionBits ≠ 0 := by omega
  unfold Datum.quotient
  simp only [if_neg hne, Option.map_some, Nat.log2_two_pow, Nat.shiftLeft_eq, Bool.xor_false, Format.write]
  have hlog : m.log2 ≤ f.fractionBits := by
    rcases Nat.eq_zero_or_pos m with rfl | h
    · rw [Nat.log2_zero]; omega
    · have := (Nat.log2_lt (by omega)).2 hm; omega
  obtain ⟨a, ha⟩ : ∃ a, f.fractionBits + 2 + f.fractionBits - m.log2 = f.fractionBits + a := ⟨f.fractionBits + 2 - m.log2, by omega⟩
  rw [ha]
  have e1 : m * 2 ^ (f.fractionBits + a) = m * 2 ^ a * 2 ^ f.fractionBits := by rw [Nat.add_comm, Nat.pow_add, Nat.mul_assoc]
  rw [e1, Nat.mul_div_cancel _ hp, Nat.mul_mod_left]
  have e2 : 2 * (m * 2 ^ a) + (0 != 0).toNat = m * 2 ^ (a + 1) := by
    rw [show (0 != 0) = false by rfl, Nat.pow_succ]
    simp only [Bool.toNat_false, Nat.add_zero, Nat.mul_comm, Nat.mul_left_comm]
  rw [e2]
  have e3 : f.leastPlace + (i : Int) - (1 - (f.fractionBits : Int)) - ((f.fractionBits + a : Nat) : Int) - 1 = (f.leastPlace + (i : Int) - 1) - ((a + 1 : Nat) : Int) - 0 := by omega
  rw [e3, Int.sub_zero, nearest_shift]
  have e4 : f.leastPlace - 1 = (f.leastPlace + (i : Int) - 1) - (i : Int) := by omega
  rw [e4, nearest_shift]
theorem fl_div2 {f : Format} {x two : Nat} {s : Bool} {V : Nat} (hx : Fl f x s V) (h2 : f.read two = .number false (2 ^ f.fractionBits) (1 - (f.fractionBits : Int))) :
    f.div x two = some (f.nearest s V (f.leastPlace - 1)) := by
  obtain ⟨m, i, h1, rfl, h3⟩ := hx
  unfold Format.div
  rw [h1, h2]
  exact quot_two h3
theorem fl_half {f : Format} (s : Bool) (V : Nat) (hl : dropU f 1 V - 1 + 2 < 2 ^ f.exponentBits - 1) : Fl f (f.nearest s V (f.leastPlace - 1)) s (rndU f 1 V) :=
  fl_nearest f s V 1 (by omega) hl
/-- both widths -/
theorem least_s : single.leastPlace = -149 := by decide
theorem least_d : double.leastPlace = -1074 := by decide
/-- the unit of a width, as an exponent -/
def un : FloatKind → Nat
  | .f32 => 149
  | .f64 => 1074
theorem lim_gen {f : Format} {U u V M : Nat} (hM : 21 + U ≤ f.fractionBits + 1 + M) (hE : M + 2 < 2 ^ f.exponentBits - 1) (h : V ≤ 2000000 * 2 ^ U * 2 ^ u) : dropU f u V - u + 2 < 2 ^ f.exponentBits - 1 := by
  have : dropU f u V - u ≤ M := drop_lim (by
    have h1 : 2000000 * 2 ^ U * 2 ^ u < 2 ^ 21 * 2 ^ U * 2 ^ u := (Nat.mul_lt_mul_right (Nat.two_pow_pos u)).2 ((Nat.mul_lt_mul_right (Nat.two_pow_pos U)).2 (by decide))
    rw [← Nat.pow_add, ← Nat.pow_add] at h1
    have h2 : 2 ^ (21 + U + u) ≤ 2 ^ (f.fractionBits + 1 + u + M) := Nat.pow_le_pow_right (by omega) (by omega)
    omega)
  omega
theorem lim_s {u V : Nat} (h : V ≤ 2000000 * 2 ^ un .f32 * 2 ^ u) : dropU single u V - u + 2 < 2 ^ single.exponentBits - 1 :=
  lim_gen (f := single) (U := un .f32) (M := 147) (by decide) (by decide) h
theorem lim_d {u V : Nat} (h : V ≤ 2000000 * 2 ^ un .f64 * 2 ^ u) : dropU double u V - u + 2 < 2 ^ double.exponentBits - 1 :=
  lim_gen (f := double) (U := un .f64) (M := 1043) (by decide) (by decide) h
theorem lim_d2 {u V : Nat} (h : V ≤ 2000000 * 2 ^ (un .f32 + 925) * 2 ^ u) : dropU double u V - u + 2 < 2 ^ double.exponentBits - 1 :=
  lim_gen (f := double) (U := un .f32 + 925) (M := 1043) (by decide) (by decide) h
/-- how both widths' units lie -/
structure Wd (US T : Nat) : Prop where
  place : single.leastPlace = double.leastPlace + (T : Int)
  one : 1 ≤ T
  limS : ∀ {u V : Nat}, V ≤ 2000000 * 2 ^ US * 2 ^ u → dropU single u V - u + 2 < 2 ^ single.exponentBits - 1
  limD : ∀ {u V : Nat}, V ≤ 2000000 * 2 ^ (US + T) * 2 ^ u → dropU double u V - u + 2 < 2 ^ double.exponentBits - 1
theorem wd : Wd (un .f32) 925 := ⟨by decide, by omega, lim_s, lim_d2⟩
theorem fl_place {f : Format} {x : Nat} {s : Bool} {V : Nat} (h : Fl f x s V) : ∃ m k : Nat, f.read x = .number s m (f.leastPlace + (k : Int)) ∧ m * 2 ^ k = V := by
  obtain ⟨m, k, h1, h2, _⟩ := h; exact ⟨m, k, h1, h2⟩
theorem notInf {f : Format} {x : Nat} {s : Bool} {V : Nat} (h : Fl f x s V) : (f.read x).isInfinity = false := by
  obtain ⟨m, k, h1, _⟩ := h
  rw [h1]; rfl
theorem rep_wide {V : Nat} (h : Rep single V) : Rep double V := by
  obtain ⟨d, h1, h2⟩ := h
  exact ⟨d, h1, Nat.lt_of_lt_of_le h2 (Nat.pow_le_pow_right (by omega) (by show 23 + 1 + d ≤ 52 + 1 + d; omega))⟩
theorem up_mul {V US T : Nat} (h : V ≤ 2000000 * 2 ^ US) : V * 2 ^ T ≤ 2000000 * 2 ^ (US + T) := by
  have := Nat.mul_le_mul_right (2 ^ T) h
  rw [Nat.mul_assoc, ← Nat.pow_add] at this
  exact this
theorem conv_up {US T x : Nat} (hw : Wd US T) {s : Bool} {V : Nat} (hx : Fl single x s V) (hV : V ≤ 2000000 * 2 ^ US) :
    floatToFloatBits .f32 x .f64 = some (double.nearest s (V * 2 ^ T) double.leastPlace) ∧ Fl double (double.nearest s (V * 2 ^ T) double.leastPlace) s (V * 2 ^ T) := by
  have hl : V * 2 ^ T ≤ 2000000 * 2 ^ (US + T) * 2 ^ 0 := by simpa using up_mul (T := T) hV
  have hF := fl_nearest double s (V * 2 ^ T) 0 (p := double.leastPlace) (by omega) (hw.limD hl)
  have he : rndU double 0 (V * 2 ^ T) = V * 2 ^ T := by
    have := rndU_exact (f := double) (u := 0) (rep_scale (rep_wide (fl_rep hx)) T)
    rw [Nat.pow_zero, Nat.mul_one] at this
    exact this
  rw [he] at hF
  refine ⟨?_, hF⟩
  obtain ⟨m, k, h1, rfl⟩ := fl_place hx
  have ew : double.nearest s m (single.leastPlace + (k : Int)) = double.nearest s (m * 2 ^ k * 2 ^ T) double.leastPlace := by
    have h := nearest_shift double s m (k + T) (single.leastPlace + (k : Int))
    have e : single.leastPlace + (k : Int) - ((k + T : Nat) : Int) = double.leastPlace := by rw [hw.place]; omega
    rw [e, Nat.pow_add, ← Nat.mul_assoc] at h
    exact h.symm
  unfold floatToFloatBits
  rw [if_neg (by decide)]
  have hd : FloatKind.f32.decode x = .number s m (single.leastPlace + (k : Int)) := h1
  rw [hd]
  show (if (double.read (double.nearest s m (single.leastPlace + (k : Int)))).isInfinity = true then none else some (double.nearest s m (single.leastPlace + (k : Int)))) = _
  rw [ew, notInf hF, if_neg (by decide)]
theorem conv_down {US T x : Nat} (hw : Wd US T) {s : Bool} {V : Nat} (hx : Fl double x s V) (hV : V ≤ 2000000 * 2 ^ (US + T)) :
    floatToFloatBits .f64 x .f32 = some (single.nearest s V (single.leastPlace - (T : Int))) ∧ Fl single (single.nearest s V (single.leastPlace - (T : Int))) s (rndU single T V) := by
  have hl : V ≤ 2000000 * 2 ^ US * 2 ^ T := by rw [Nat.mul_assoc, ← Nat.pow_add]; exact hV
  have hF := fl_nearest single s V T (p := single.leastPlace - (T : Int)) (by omega) (hw.limS hl)
  refine ⟨?_, hF⟩
  obtain ⟨m, k, h1, rfl⟩ := fl_place hx
  have ew : single.nearest s m (double.leastPlace + (k : Int)) = single.nearest s (m * 2 ^ k) (single.leastPlace - (T : Int)) := by
    have h := nearest_shift single s m k (double.leastPlace + (k : Int))
    have e : double.leastPlace + (k : Int) - ((k : Nat) : Int) = single.leastPlace - (T : Int) := by rw [hw.place]; omega
    rw [e] at h
    exact h.symm
  unfold floatToFloatBits
  rw [if_neg (by decide)]
  have hd : FloatKind.f64.decode x = .number s m (double.leastPlace + (k : Int)) := h1
  rw [hd]
  show (if (single.read (single.nearest s m (double.leastPlace + (k : Int)))).isInfinity = true then none else some (single.nearest s m (double.leastPlace + (k : Int)))) = _
  rw [ew, notInf hF, if_neg (by decide)]
theorem sg_neg (s : Bool) (V : Nat) : sg (!s) V = -sg s V := by cases s <;> simp [sg]
theorem sg0 (s : Bool) : sg s 0 = 0 := by cases s <;> rfl
theorem sumA_neg0 (s : Bool) (V : Nat) : sumA false 0 (!s) V = V := by
  unfold sumA; cases s <;> simp [sg]
theorem sumS_neg0 (s : Bool) (V t : Nat) : sumS false 0 (!s) (V * 2 ^ t) = sumS false 0 (!s) V := by
  have hp : (0 : Int) < 2 ^ t := by exact_mod_cast Nat.two_pow_pos t
  unfold sumS
  rw [sg0, Int.zero_add, Int.zero_add, sg_scale]
  generalize sg (!s) V = a
  have c1 : (a * 2 ^ t = 0) = (a = 0) := by
    apply propext
    refine ⟨fun h => ?_, fun h => by rw [h, Int.zero_mul]⟩
    rcases Int.mul_eq_zero.1 h with h | h
    · exact h
    · omega
  have c2 : (a * 2 ^ t < 0) = (a < 0) := by
    apply propext
    refine ⟨fun h => ?_, fun h => Int.mul_neg_of_neg_of_pos h hp⟩
    rcases Int.lt_or_le a 0 with h2 | h2
    · exact h2
    · have := Int.mul_nonneg h2 (Int.le_of_lt hp); omega
  simp only [c1, c2]
theorem two_s : single.read 1073741824 = .number false (2 ^ single.fractionBits) (1 - (single.fractionBits : Int)) := by decide +kernel
theorem two_d : double.read 4611686018427387904 = .number false (2 ^ double.fractionBits) (1 - (double.fractionBits : Int)) := by decide +kernel
theorem fl0 {f : Format} (hb : f.binade ≤ f.infRung) : Fl f 0 false 0 := fl_zero f false hb
theorem fl0_s : Fl single 0 false 0 := fl0 (by decide)
theorem fl0_d : Fl double 0 false 0 := fl0 (by decide +kernel)
/-- sizes of at most B whole units -/
theorem rnd_whole {f : Format} {u V B U : Nat} (hF : 23 ≤ f.fractionBits) (hB : B ≤ 2000000) (h : V ≤ B * 2 ^ U * 2 ^ u) : rndU f u V ≤ B * 2 ^ U :=
  rndU_le (rep_scale (rep_small (by
    have : 2 ^ 24 ≤ 2 ^ (f.fractionBits + 1) := Nat.pow_le_pow_right (by omega) (by omega)
    have e : (2 : Nat) ^ 24 = 16777216 := by decide
    omega)) U) h
theorem rnd_same {f : Format} {V : Nat} (h : Rep f V) : rndU f 0 V = V := by
  have := rndU_exact (f := f) (u := 0) h
  simpa using this
/-- a sum of sizes of whole units -/
theorem fl_sumB {f : Format} {U : Nat} (hF : 23 ≤ f.fractionBits) (hlim : ∀ {u V : Nat}, V ≤ 2000000 * 2 ^ U * 2 ^ u → dropU f u V - u + 2 < 2 ^ f.exponentBits - 1)
    {s t : Bool} {V W B C : Nat} (hV : V ≤ B * 2 ^ U) (hW : W ≤ C * 2 ^ U) (hB : B + C ≤ 2000000) :
    Fl f (sumW f s V t W) (sumS s V t W) (rndU f 0 (sumA s V t W)) ∧ rndU f 0 (sumA s V t W) ≤ (B + C) * 2 ^ U := by
  have h1 := sumA_le s V t W
  have h2 : sumA s V t W ≤ (B + C) * 2 ^ U * 2 ^ 0 := by rw [Nat.add_mul]; simp only [Nat.pow_zero, Nat.mul_one]; omega
  exact ⟨fl_sum s V t W (hlim (Nat.le_trans h2 (Nat.mul_le_mul_right _ (Nat.mul_le_mul_right _ hB)))), rnd_whole hF hB h2⟩
theorem fl_halfB {f : Format} {U : Nat} (hF : 23 ≤ f.fractionBits) (hlim : ∀ {u V : Nat}, V ≤ 2000000 * 2 ^ U * 2 ^ u → dropU f u V - u + 2 < 2 ^ f.exponentBits - 1)
    {s : Bool} {V B C : Nat} (hV : V ≤ C * 2 ^ U) (hC : C ≤ 2 * B) (hB : B ≤ 2000000) :
    Fl f (f.nearest s V (f.leastPlace - 1)) s (rndU f 1 V) ∧ rndU f 1 V ≤ B * 2 ^ U := by
  have h2 : V ≤ B * 2 ^ U * 2 ^ 1 := by
    refine Nat.le_trans hV (Nat.le_trans (Nat.mul_le_mul_right _ hC) ?_)
    rw [Nat.pow_one, Nat.mul_comm _ 2, ← Nat.mul_assoc]
    exact Nat.le_refl _
  exact ⟨fl_half s V (hlim (Nat.le_trans h2 (Nat.mul_le_mul_right _ (Nat.mul_le_mul_right _ hB)))), rnd_whole hF hB h2⟩
/-- '(y - x) / 2' and '(0 - x - y) / 2', each operation by itself -/
def DivOps (k : FloatKind) (two x y d n e r i : Nat) : Prop :=
  floatBits .sub k y x = some d ∧ floatBits .quo k d two = some r ∧ floatBits .sub k 0 x = some n ∧ floatBits .sub k n y = some e ∧ floatBits .quo k e two = some i
/-- a point: both parts are finite, of a size of at most B -/
def Pt (f : Format) (U B x y : Nat) : Prop := ∃ s V t W, Fl f x s V ∧ Fl f y t W ∧ V ≤ B * 2 ^ U ∧ W ≤ B * 2 ^ U
theorem divide_d {x y : Nat} {s t : Bool} {V W B C D : Nat} (hx : Fl double x s V) (hy : Fl double y t W) (hV : V ≤ B * 2 ^ un .f64) (hW : W ≤ C * 2 ^ un .f64) (hB : B + C ≤ 2 * D) (hD : D ≤ 1000000) :
    ∃ d n e r i, DivOps .f64 4611686018427387904 x y d n e r i ∧ Pt double (un .f64) D r i := by
  obtain ⟨d1, d2⟩ := fl_sumB (f := double) (s := t) (t := !s) (by decide) lim_d hW hV (by omega)
  obtain ⟨r1, r2⟩ := fl_halfB (f := double) (s := sumS t W (!s) V) (B := D) (by decide) lim_d d2 (by omega) (by omega)
  obtain ⟨n1, n2⟩ := fl_sumB (f := double) (s := false) (V := 0) (t := !s) (B := 0) (by decide) lim_d (by omega) hV (by omega)
  obtain ⟨e1, e2⟩ := fl_sumB (f := double) (s := sumS false 0 (!s) V) (t := !t) (by decide) lim_d n2 hW (by omega)
  obtain ⟨i1, i2⟩ := fl_halfB (f := double) (s := sumS (sumS false 0 (!s) V) (rndU double 0 (sumA false 0 (!s) V)) (!t) W) (B := D) (by decide) lim_d e2 (by omega) (by omega)
  exact ⟨_, _, _, _, _, ⟨fl_sub hy hx, fl_div2 d1 two_d, fl_sub fl0_d hx, fl_sub n1 hy, fl_div2 e1 two_d⟩, _, _, _, _, r1, i1, r2, i2⟩
/-- the same by way of the wider width -/
def WideOps (x y d e r i X Y N y' n' D E R I : Nat) : Prop :=
  floatToFloatBits .f32 x .f64 = some X ∧ floatToFloatBits .f32 y .f64 = some Y ∧ floatBits .sub .f64 0 X = some N ∧ floatToFloatBits .f64 Y .f32 = some y' ∧ floatToFloatBits .f64 N .f32 = some n' ∧
  floatBits .sub .f32 y' x = some d ∧ floatBits .sub .f32 n' y = some e ∧ floatToFloatBits .f32 d .f64 = some D ∧ floatToFloatBits .f32 e .f64 = some E ∧
  floatBits .quo .f64 D 4611686018427387904 = some R ∧ floatBits .quo .f64 E 4611686018427387904 = some I ∧ floatToFloatBits .f64 R .f32 = some r ∧ floatToFloatBits .f64 I .f32 = some i
theorem up_le {V B US : Nat} (h : V ≤ B * 2 ^ US) (hB : B ≤ 2000000) : V ≤ 2000000 * 2 ^ US := Nat.le_trans h (Nat.mul_le_mul_right _ hB)
/-- there and back -/
theorem updown {US T x : Nat} (hw : Wd US T) {s : Bool} {V : Nat} (h : Fl double x s (V * 2 ^ T)) (hr : Rep single V) (hV : V ≤ 2000000 * 2 ^ US) :
    ∃ x', floatToFloatBits .f64 x .f32 = some x' ∧ Fl single x' s V := by
  obtain ⟨c1, c2⟩ := conv_down hw h (up_mul hV)
  rw [rndU_exact hr] at c2
  exact ⟨_, c1, c2⟩
theorem half_route {US T x : Nat} (hw : Wd US T) {s : Bool} {V : Nat} (h : Fl single x s V) (hV : V ≤ 2000000 * 2 ^ US) :
    ∃ X R, floatToFloatBits .f32 x .f64 = some X ∧ floatBits .quo .f64 X 4611686018427387904 = some R ∧ floatToFloatBits .f64 R .f32 = some (single.nearest s V (single.leastPlace - 1)) := by
  obtain ⟨c1, c2⟩ := conv_up hw h hV
  have hm := up_mul (T := T) hV
  have hl : V * 2 ^ T ≤ 2000000 * 2 ^ (US + T) * 2 ^ 1 := by omega
  have hR := fl_half (f := double) s (V * 2 ^ T) (hw.limD hl)
  obtain ⟨T', hT⟩ : ∃ T', T = T' + 1 := ⟨T - 1, by have := hw.one; omega⟩
  have he : rndU double 1 (V * 2 ^ T) = V * 2 ^ T' := by
    have := rndU_exact (f := double) (u := 1) (rep_scale (rep_wide (fl_rep h)) T')
    rw [Nat.mul_assoc, ← Nat.pow_add] at this
    rw [hT]
    exact this
  rw [he] at hR
  have hm2 : V * 2 ^ T' ≤ V * 2 ^ T := Nat.mul_le_mul_left _ (Nat.pow_le_pow_right (by omega) (by omega))
  obtain ⟨g1, g2⟩ := conv_down hw hR (Nat.le_trans hm2 hm)
  refine ⟨_, _, c1, fl_div2 c2 two_d, ?_⟩
  refine g1.trans ?_
  have h := nearest_shift single s V T' (single.leastPlace - 1)
  have e : single.leastPlace - 1 - (T' : Int) = single.leastPlace - (T : Int) := by omega
  rw [e] at h
  rw [h]
theorem divide_s {US T x y : Nat} (hw : Wd US T) {s t : Bool} {V W B C D : Nat} (hx : Fl single x s V) (hy : Fl single y t W) (hV : V ≤ B * 2 ^ US) (hW : W ≤ C * 2 ^ US) (hB : B + C ≤ 2 * D) (hD : D ≤ 1000000) :
    ∃ d n e r i, DivOps .f32 1073741824 x y d n e r i ∧ Pt single US D r i ∧ ∃ X Y N y' n' D E R I, WideOps x y d e r i X Y N y' n' D E R I := by
  obtain ⟨d1, d2⟩ := fl_sumB (f := single) (s := t) (t := !s) (by decide) hw.limS hW hV (by omega)
  obtain ⟨r1, r2⟩ := fl_halfB (f := single) (s := sumS t W (!s) V) (B := D) (by decide) hw.limS d2 (by omega) (by omega)
  obtain ⟨n1, n2⟩ := fl_sumB (f := single) (s := false) (V := 0) (t := !s) (B := 0) (by decide) hw.limS (by omega) hV (by omega)
  rw [sumA_neg0, rnd_same (fl_rep hx)] at n1 n2
  obtain ⟨e1, e2⟩ := fl_sumB (f := single) (s := sumS false 0 (!s) V) (V := V) (t := !t) (B := B) (by decide) hw.limS hV hW (by omega)
  obtain ⟨i1, i2⟩ := fl_halfB (f := single) (s := sumS (sumS false 0 (!s) V) V (!t) W) (B := D) (by decide) hw.limS e2 (by omega) (by omega)
  obtain ⟨X, x1, x2⟩ : ∃ X, floatToFloatBits .f32 x .f64 = some X ∧ Fl double X s (V * 2 ^ T) := ⟨_, conv_up hw hx (up_le hV (by omega))⟩
  obtain ⟨Y, y1, y2⟩ : ∃ Y, floatToFloatBits .f32 y .f64 = some Y ∧ Fl double Y t (W * 2 ^ T) := ⟨_, conv_up hw hy (up_le hW (by omega))⟩
  have hX2 := up_mul (T := T) (up_le hV (by omega))
  have n3 := fl_sum (f := double) false 0 (!s) (V * 2 ^ T) (hw.limD (by rw [sumA_neg0, Nat.pow_zero, Nat.mul_one]; exact hX2))
  rw [sumA_neg0, rnd_same (fl_rep x2), sumS_neg0] at n3
  obtain ⟨y', p1, p2⟩ := updown hw y2 (fl_rep hy) (up_le hW (by omega))
  obtain ⟨n', q1, q2⟩ := updown hw n3 (fl_rep hx) (up_le hV (by omega))
  obtain ⟨D1, R, g1, g2, g3⟩ := half_route hw d1 (up_le d2 (by omega))
  obtain ⟨E1, I, k1, k2, k3⟩ := half_route hw e1 (up_le e2 (by omega))
  exact ⟨_, _, _, _, _, ⟨fl_sub hy hx, fl_div2 d1 two_s, fl_sub fl0_s hx, fl_sub n1 hy, fl_div2 e1 two_s⟩, ⟨_, _, _, _, r1, i1, r2, i2⟩,
    X, Y, _, y', n', D1, E1, R, I, x1, y1, fl_sub fl0_d x2, p1, q1, fl_sub p2 hx, fl_sub q2 hy, g1, k1, g2, k2, g3, k3⟩
/-- whole numbers -/
theorem fl_whole {f : Format} {U : Nat} (hF : 23 ≤ f.fractionBits) (hU : f.leastPlace = -(U : Int)) (hlim : ∀ {u V : Nat}, V ≤ 2000000 * 2 ^ U * 2 ^ u → dropU f u V - u + 2 < 2 ^ f.exponentBits - 1)
    (s : Bool) {m : Nat} (hm : m ≤ 2000000) : Fl f (f.nearest s m 0) s (m * 2 ^ U) := by
  have h := nearest_shift f s m U 0
  have e : (0 : Int) - (U : Int) = f.leastPlace := by omega
  rw [e] at h
  rw [← h]
  have hr : Rep f m := rep_small (by
    have : 2 ^ 24 ≤ 2 ^ (f.fractionBits + 1) := Nat.pow_le_pow_right (by omega) (by omega)
    have e : (2 : Nat) ^ 24 = 16777216 := by decide
    omega)
  have h2 := fl_nearest f s (m * 2 ^ U) 0 (p := f.leastPlace) (by omega) (hlim (by rw [Nat.pow_zero, Nat.mul_one]; exact Nat.mul_le_mul_right _ hm))
  rw [rnd_same (rep_scale hr U)] at h2
  exact h2
theorem whole_down {US T : Nat} (hw : Wd US T) (hU : double.leastPlace = -((US + T : Nat) : Int)) (s : Bool) {m : Nat} (hm : m ≤ 2000000) :
    floatToFloatBits .f64 (double.nearest s m 0) .f32 = some (single.nearest s m 0) := by
  obtain ⟨c1, _⟩ := conv_down hw (fl_whole (f := double) (by decide) hU hw.limD s hm) (Nat.mul_le_mul_right _ hm)
  refine c1.trans ?_
  have h := nearest_shift single s m (US + T) 0
  have e : (0 : Int) - ((US + T : Nat) : Int) = single.leastPlace - (T : Int) := by rw [hw.place, hU]; omega
  rw [e] at h
  rw [h]
end Go.Proofs.YtjjpjjoadphapaaDoor

namespace Go.Proofs.YtjjpjjoadphapaaDoor
set_option linter.unusedSimpArgs false
set_option linter.unusedVariables false
open Ieee
def two : FloatKind → Nat
  | .f32 => 1073741824
  | .f64 => 4611686018427387904
def one : FloatKind → Nat
  | .f32 => 1065353216
  | .f64 => 4607182418800017408
def gd (o : Option Nat) : Nat := o.getD 0
def divR (k : FloatKind) (x y : Nat) : Nat := gd (floatBits .quo k (gd (floatBits .sub k y x)) (two k))
def divI (k : FloatKind) (x y : Nat) : Nat := gd (floatBits .quo k (gd (floatBits .sub k (gd (floatBits .sub k 0 x)) y)) (two k))
theorem div_of {k : FloatKind} {x y d n e r i : Nat} (h : DivOps k (two k) x y d n e r i) : divR k x y = r ∧ divI k x y = i := by
  obtain ⟨h1, h2, h3, h4, h5⟩ := h
  constructor
  · simp [divR, gd, h1, h2]
  · simp [divI, gd, h3, h4, h5]
/-- 1 divided by the base so many times -/
def pw (k : FloatKind) : Nat → Nat × Nat
  | 0 => (one k, 0)
  | n + 1 => (divR k (pw k n).1 (pw k n).2, divI k (pw k n).1 (pw k n).2)
theorem fl_wholeK (k : FloatKind) (s : Bool) {m : Nat} (hm : m ≤ 2000000) : Fl k.format (k.format.nearest s m 0) s (m * 2 ^ un k) := by
  cases k
  · exact fl_whole (f := single) (U := un .f32) (by decide) (by decide) lim_s s hm
  · exact fl_whole (f := double) (U := un .f64) (by decide) (by decide) lim_d s hm
theorem one_word (k : FloatKind) : k.format.nearest false 1 0 = one k := by cases k <;> decide +kernel
theorem zero_word (k : FloatKind) : k.format.nearest false 0 0 = 0 := by cases k <;> decide +kernel
theorem fl_one (k : FloatKind) : Fl k.format (one k) false (1 * 2 ^ un k) := by rw [← one_word]; exact fl_wholeK k false (by omega)
theorem fl_nought (k : FloatKind) : Fl k.format 0 false (0 * 2 ^ un k) := by
  have := fl_wholeK k false (m := 0) (by omega)
  rw [zero_word] at this
  exact this
theorem sumB {k : FloatKind} {x y : Nat} {s t : Bool} {V W B C : Nat} (hx : Fl k.format x s V) (hy : Fl k.format y t W) (hV : V ≤ B * 2 ^ un k) (hW : W ≤ C * 2 ^ un k) (hB : B + C ≤ 2000000) :
    ∃ r S A, floatBits .add k x y = some r ∧ Fl k.format r S A ∧ A ≤ (B + C) * 2 ^ un k := by
  cases k
  · obtain ⟨h1, h2⟩ := fl_sumB (f := single) (s := s) (t := t) (by decide) lim_s hV hW hB
    exact ⟨_, _, _, fl_add hx hy, h1, h2⟩
  · obtain ⟨h1, h2⟩ := fl_sumB (f := double) (s := s) (t := t) (by decide) lim_d hV hW hB
    exact ⟨_, _, _, fl_add hx hy, h1, h2⟩
/-- the division of a point, with all that stands on the program's way -/
def Div (k : FloatKind) (x y r i : Nat) : Prop :=
  ∃ d n e, DivOps k (two k) x y d n e r i ∧ (k = .f32 → ∃ X Y N y' n' D E R I, WideOps x y d e r i X Y N y' n' D E R I)
theorem divK {k : FloatKind} {x y : Nat} {s t : Bool} {V W B C D : Nat} (hx : Fl k.format x s V) (hy : Fl k.format y t W) (hV : V ≤ B * 2 ^ un k) (hW : W ≤ C * 2 ^ un k) (hB : B + C ≤ 2 * D) (hD : D ≤ 1000000) :
    Div k x y (divR k x y) (divI k x y) ∧ Pt k.format (un k) D (divR k x y) (divI k x y) := by
  cases k
  · obtain ⟨d, n, e, r, i, h1, h2, h3⟩ := divide_s wd hx hy hV hW hB hD
    obtain ⟨e1, e2⟩ := div_of (k := .f32) h1
    rw [e1, e2]
    exact ⟨⟨d, n, e, h1, fun _ => h3⟩, h2⟩
  · obtain ⟨d, n, e, r, i, h1, h2⟩ := divide_d hx hy hV hW hB hD
    obtain ⟨e1, e2⟩ := div_of (k := .f64) h1
    rw [e1, e2]
    exact ⟨⟨d, n, e, h1, fun h => by cases h⟩, h2⟩
theorem pw_pt (k : FloatKind) : ∀ n, Pt k.format (un k) 1 (pw k n).1 (pw k n).2
  | 0 => ⟨_, _, _, _, fl_one k, fl_nought k, Nat.le_refl _, by omega⟩
  | n + 1 => by
    obtain ⟨s, V, t, W, h1, h2, h3, h4⟩ := pw_pt k n
    exact (divK h1 h2 h3 h4 (by omega) (by omega)).2
theorem pw_div (k : FloatKind) (n : Nat) : Div k (pw k n).1 (pw k n).2 (pw k (n + 1)).1 (pw k (n + 1)).2 := by
  obtain ⟨s, V, t, W, h1, h2, h3, h4⟩ := pw_pt k n
  exact (divK h1 h2 h3 h4 (D := 1) (by omega) (by omega)).1
/-- the word of a place -/
def bitW (k : FloatKind) (c : UInt8) : Nat := if c == 49 then one k else 0
theorem fl_bit (k : FloatKind) (c : UInt8) : ∃ V, Fl k.format (bitW k c) false V ∧ V ≤ 1 * 2 ^ un k := by
  unfold bitW
  split
  · exact ⟨_, fl_one k, Nat.le_refl _⟩
  · exact ⟨_, fl_nought k, by omega⟩
/-- with a place added -/
def plR (k : FloatKind) (z : Nat × Nat) (c : UInt8) : Nat := gd (floatBits .add k z.1 (bitW k c))
def plI (k : FloatKind) (z : Nat × Nat) : Nat := gd (floatBits .add k z.2 0)
/-- the point of places, from the last one on -/
def pv (k : FloatKind) : List UInt8 → Nat × Nat
  | [] => (0, 0)
  | c :: l => (divR k (plR k (pv k l) c) (plI k (pv k l)), divI k (plR k (pv k l) c) (plI k (pv k l)))
theorem pv_step {k : FloatKind} {l : List UInt8} {c : UInt8} {B : Nat} (hB : B ≤ 999999) (h : Pt k.format (un k) B (pv k l).1 (pv k l).2) :
    floatBits .add k (pv k l).1 (bitW k c) = some (plR k (pv k l) c) ∧ floatBits .add k (pv k l).2 0 = some (plI k (pv k l)) ∧
    Div k (plR k (pv k l) c) (plI k (pv k l)) (pv k (c :: l)).1 (pv k (c :: l)).2 ∧ Pt k.format (un k) (B + 1) (pv k (c :: l)).1 (pv k (c :: l)).2 := by
  obtain ⟨s, V, t, W, h1, h2, h3, h4⟩ := h
  obtain ⟨b, b1, b2⟩ := fl_bit k c
  obtain ⟨r, S, A, r1, r2, r3⟩ := sumB h1 b1 h3 b2 (by omega)
  obtain ⟨i, S', A', i1, i2, i3⟩ := sumB h2 (fl_nought k) h4 (Nat.le_refl _) (by omega)
  have er : plR k (pv k l) c = r := by simp [plR, gd, r1]
  have ei : plI k (pv k l) = i := by simp [plI, gd, i1]
  have h := divK (D := B + 1) r2 i2 r3 i3 (by omega) (by omega)
  have ep : pv k (c :: l) = (divR k (plR k (pv k l) c) (plI k (pv k l)), divI k (plR k (pv k l) c) (plI k (pv k l))) := rfl
  rw [ep, er, ei]
  exact ⟨r1, i1, h.1, h.2⟩
theorem pv_pt (k : FloatKind) : ∀ l : List UInt8, l.length ≤ 999999 → Pt k.format (un k) l.length (pv k l).1 (pv k l).2
  | [], _ => ⟨_, _, _, _, fl_nought k, fl_nought k, by simp, by simp⟩
  | c :: l, h => by
    simp only [List.length_cons] at h
    exact (pv_step (by omega) (pv_pt k l (by omega))).2.2.2
/-- with the whole number added -/
def whR (k : FloatKind) (z : Nat × Nat) (x : Int) : Nat := gd (floatBits .add k z.1 (floatOfInt k x))
def whI (k : FloatKind) (z : Nat × Nat) (y : Int) : Nat := gd (floatBits .add k z.2 (floatOfInt k y))
theorem fl_int (k : FloatKind) {x : Int} (h : -1000000 ≤ x ∧ x ≤ 1000000) : ∃ s V, Fl k.format (floatOfInt k x) s V ∧ V ≤ 1000000 * 2 ^ un k := by
  refine ⟨_, _, fl_wholeK k (decide (x < 0)) (m := x.natAbs) (by omega), Nat.mul_le_mul_right _ (by omega)⟩
theorem wh_ops {k : FloatKind} {z : Nat × Nat} {x y : Int} (hz : Pt k.format (un k) 1000 z.1 z.2) (hx : -1000000 ≤ x ∧ x ≤ 1000000) (hy : -1000000 ≤ y ∧ y ≤ 1000000) :
    floatBits .add k z.1 (floatOfInt k x) = some (whR k z x) ∧ floatBits .add k z.2 (floatOfInt k y) = some (whI k z y) ∧ Pt k.format (un k) 1001000 (whR k z x) (whI k z y) := by
  obtain ⟨s, V, t, W, h1, h2, h3, h4⟩ := hz
  obtain ⟨_, _, x1, x2⟩ := fl_int k hx
  obtain ⟨_, _, y1, y2⟩ := fl_int k hy
  obtain ⟨r, S, A, r1, r2, r3⟩ := sumB h1 x1 h3 x2 (by omega)
  obtain ⟨i, S', A', i1, i2, i3⟩ := sumB h2 y1 h4 y2 (by omega)
  have er : whR k z x = r := by simp [whR, gd, r1]
  have ei : whI k z y = i := by simp [whI, gd, i1]
  rw [er, ei]
  exact ⟨r1, i1, _, _, _, _, r2, i2, r3, i3⟩
theorem Pt.mono {f : Format} {U B C x y : Nat} (h : Pt f U B x y) (hB : B ≤ C) : Pt f U C x y := by
  obtain ⟨s, V, t, W, h1, h2, h3, h4⟩ := h
  exact ⟨s, V, t, W, h1, h2, Nat.le_trans h3 (Nat.mul_le_mul_right _ hB), Nat.le_trans h4 (Nat.mul_le_mul_right _ hB)⟩
/-- a whole number's word in the narrower width comes of its word in the wider one -/
theorem int_down {x : Int} (h : -1000000 ≤ x ∧ x ≤ 1000000) : floatToFloatBits .f64 (floatOfInt .f64 x) .f32 = some (floatOfInt .f32 x) :=
  whole_down wd (by decide) (decide (x < 0)) (m := x.natAbs) (by omega)
/-- a single point in the wider width -/
theorem pt_up {B x y : Nat} (h : Pt single (un .f32) B x y) (hB : B ≤ 2000000) : ∃ X Y, floatToFloatBits .f32 x .f64 = some X ∧ floatToFloatBits .f32 y .f64 = some Y := by
  obtain ⟨s, V, t, W, h1, h2, h3, h4⟩ := h
  exact ⟨_, _, (conv_up wd h1 (up_le h3 hB)).1, (conv_up wd h2 (up_le h4 hB)).1⟩
end Go.Proofs.YtjjpjjoadphapaaDoor

namespace Go.Proofs.YtjjpjjoadphapaaDoor
set_option linter.unusedSimpArgs false
set_option linter.unusedVariables false
open Ieee
/-- a word that stands for v units -/
def Vl (k : FloatKind) (x : Nat) (v : Int) : Prop := ∃ s V, Fl k.format x s V ∧ sg s V = v
/-- exact, and not too great -/
def Okv (k : FloatKind) (v : Int) : Prop := Rep k.format v.natAbs ∧ v.natAbs ≤ 2000000 * 2 ^ un k
theorem limK (k : FloatKind) {u V : Nat} (h : V ≤ 2000000 * 2 ^ un k * 2 ^ u) : dropU k.format u V - u + 2 < 2 ^ k.format.exponentBits - 1 := by
  cases k
  · exact lim_s h
  · exact lim_d h
theorem vl_sum {k : FloatKind} {s t : Bool} {V W : Nat} (h : Okv k (sg s V + sg t W)) : Vl k (sumW k.format s V t W) (sg s V + sg t W) := by
  have hr : Rep k.format (sumA s V t W) := h.1
  have hl : sumA s V t W ≤ 2000000 * 2 ^ un k := h.2
  have h1 := fl_sum (f := k.format) s V t W (limK k (by rw [Nat.pow_zero, Nat.mul_one]; exact hl))
  rw [rnd_same hr] at h1
  refine ⟨_, _, h1, ?_⟩
  unfold sumS sumA
  generalize sg s V + sg t W = T
  split
  · rename_i h; rw [h]; unfold sg; split <;> rfl
  · unfold sg
    by_cases c : T < 0
    · simp [c]; omega
    · simp [c]; omega
theorem vl_add {k : FloatKind} {x y : Nat} {a b : Int} (hx : Vl k x a) (hy : Vl k y b) (h : Okv k (a + b)) : ∃ r, floatBits .add k x y = some r ∧ Vl k r (a + b) := by
  obtain ⟨s, V, h1, rfl⟩ := hx
  obtain ⟨t, W, h2, rfl⟩ := hy
  exact ⟨_, fl_add h1 h2, vl_sum h⟩
theorem vl_sub {k : FloatKind} {x y : Nat} {a b : Int} (hx : Vl k x a) (hy : Vl k y b) (h : Okv k (a - b)) : ∃ r, floatBits .sub k x y = some r ∧ Vl k r (a - b) := by
  obtain ⟨s, V, h1, rfl⟩ := hx
  obtain ⟨t, W, h2, rfl⟩ := hy
  have e : sg s V - sg t W = sg s V + sg (!t) W := by rw [sg_neg]; omega
  rw [e] at h ⊢
  exact ⟨_, fl_sub h1 h2, vl_sum h⟩
theorem scale_cmp (a b : Int) (t : Nat) : compare (a * 2 ^ t) (b * 2 ^ t) = compare a b := by
  have hp : (0 : Int) < 2 ^ t := by exact_mod_cast Nat.two_pow_pos t
  rcases Int.lt_trichotomy a b with h | h | h
  · rw [Int.compare_eq_lt.2 h, Int.compare_eq_lt.2 ((Int.mul_lt_mul_right hp).2 h)]
  · rw [h]; rw [Int.compare_eq_eq.2 rfl, Int.compare_eq_eq.2 rfl]
  · rw [Int.compare_eq_gt.2 h, Int.compare_eq_gt.2 ((Int.mul_lt_mul_right hp).2 h)]
theorem vl_order {k : FloatKind} {x y : Nat} {a b : Int} (hx : Vl k x a) (hy : Vl k y b) : k.format.order x y = some (compare a b) := by
  obtain ⟨s, V, ⟨m, i, h1, rfl, _⟩, rfl⟩ := hx
  obtain ⟨t, W, ⟨n, j, h2, rfl, _⟩, rfl⟩ := hy
  unfold Format.order
  rw [h1, h2]
  unfold Datum.order
  have hb : min (k.format.leastPlace + (i : Int)) (k.format.leastPlace + (j : Int)) = k.format.leastPlace + ((min i j : Nat) : Int) := by omega
  simp only [hb, signed_sg]
  rw [show (k.format.leastPlace + (i : Int) - (k.format.leastPlace + ((min i j : Nat) : Int))).toNat = i - min i j by omega, show (k.format.leastPlace + (j : Int) - (k.format.leastPlace + ((min i j : Nat) : Int))).toNat = j - min i j by omega]
  have e1 : sg s (m * 2 ^ i) = sg s (m * 2 ^ (i - min i j)) * 2 ^ min i j := by
    rw [← sg_scale, Nat.mul_assoc, ← Nat.pow_add, show i - min i j + min i j = i by omega]
  have e2 : sg t (n * 2 ^ j) = sg t (n * 2 ^ (j - min i j)) * 2 ^ min i j := by
    rw [← sg_scale, Nat.mul_assoc, ← Nat.pow_add, show j - min i j + min i j = j by omega]
  rw [e1, e2, scale_cmp]
theorem vl_same {k : FloatKind} {x y : Nat} {a : Int} (hx : Vl k x a) (hy : Vl k y a) : k.format.order x y = some .eq := by
  rw [vl_order hx hy, Int.compare_eq_eq.2 rfl]
/-- the sign bit turned -/
theorem xor_top {x w : Nat} (h : x < 2 ^ (w + 1)) : x ^^^ 2 ^ w = if x < 2 ^ w then 2 ^ w + x else x - 2 ^ w := by
  have hp := Nat.two_pow_pos w
  by_cases c : x < 2 ^ w
  · rw [if_pos c, Nat.xor_comm, Nat.add_comm]
    have := Nat.two_pow_add_eq_or_of_lt (i := w) c 1
    apply Nat.eq_of_testBit_eq
    intro i
    rw [Nat.testBit_xor, Nat.testBit_two_pow]
    rcases Nat.lt_trichotomy i w with h1 | h1 | h1
    · rw [Nat.add_comm, Nat.testBit_two_pow_add_gt h1]
      simp [show w ≠ i by omega]
    · subst h1
      rw [Nat.add_comm, Nat.testBit_two_pow_add_eq]
      simp
    · have e1 : x.testBit i = false := Nat.testBit_lt_two_pow (Nat.lt_of_lt_of_le c (Nat.pow_le_pow_right (by omega) (by omega)))
      have e2 : (x + 2 ^ w).testBit i = false := Nat.testBit_lt_two_pow (Nat.lt_of_lt_of_le (show x + 2 ^ w < 2 ^ (w + 1) by rw [Nat.pow_succ]; omega) (Nat.pow_le_pow_right (by omega) (by omega)))
      rw [e1, e2]
      simp [show w ≠ i by omega]
  · rw [if_neg c]
    obtain ⟨y, rfl⟩ : ∃ y, x = 2 ^ w + y := ⟨x - 2 ^ w, by omega⟩
    rw [Nat.pow_succ] at h
    have hy : y < 2 ^ w := by omega
    rw [Nat.add_sub_cancel_left]
    apply Nat.eq_of_testBit_eq
    intro i
    rw [Nat.testBit_xor, Nat.testBit_two_pow]
    rcases Nat.lt_trichotomy i w with h1 | h1 | h1
    · rw [Nat.testBit_two_pow_add_gt h1]
      simp [show w ≠ i by omega]
    · subst h1
      rw [Nat.testBit_two_pow_add_eq]
      have : y.testBit i = false := Nat.testBit_lt_two_pow hy
      simp [this]
    · have e1 : y.testBit i = false := Nat.testBit_lt_two_pow (Nat.lt_of_lt_of_le hy (Nat.pow_le_pow_right (by omega) (by omega)))
      have e2 : (2 ^ w + y).testBit i = false := Nat.testBit_lt_two_pow (Nat.lt_of_lt_of_le (show 2 ^ w + y < 2 ^ (w + 1) by rw [Nat.pow_succ]; omega) (Nat.pow_le_pow_right (by omega) (by omega)))
      rw [e1, e2]
      simp [show w ≠ i by omega]
theorem vl_neg {k : FloatKind} {x : Nat} {a : Int} (hx : Vl k x a) (hl : x < 2 ^ k.format.width) : Vl k (Op.negFloat k x) (-a) := by
  obtain ⟨s, V, ⟨m, i, h1, h2, h3⟩, rfl⟩ := hx
  refine ⟨!s, V, ⟨m, i, ?_, h2, h3⟩, sg_neg s V⟩
  have hw : k.format.width = (k.format.exponentBits + k.format.fractionBits) + 1 := by unfold Format.width; omega
  rw [hw] at hl
  unfold Op.negFloat
  rw [xor_top hl]
  have hp := Nat.two_pow_pos (k.format.exponentBits + k.format.fractionBits)
  have hsw : k.format.signWeight = 2 ^ (k.format.exponentBits + k.format.fractionBits) := rfl
  unfold Format.read at h1 ⊢
  rw [hsw] at h1 ⊢
  rw [Nat.pow_succ] at hl
  generalize 2 ^ (k.format.exponentBits + k.format.fractionBits) = S at *
  by_cases c : x < S
  · rw [if_pos c]
    have e1 : (S + x) % S = x % S := Nat.add_mod_left _ _
    have e2 : x / S = 0 := Nat.div_eq_of_lt c
    have e3 : (S + x) / S = 1 := by rw [Nat.add_div_left _ hp, e2]
    simp only [e1, e2, e3] at h1 ⊢
    revert h1
    repeat' split
    all_goals first | (intro h1; cases h1; done) | (intro h1; injection h1 with a1 a2 a3; subst a1 a2; first | (rw [a3]; simp; done) | (simp; exact a3))
  · rw [if_neg c]
    obtain ⟨y, rfl⟩ : ∃ y, x = S + y := ⟨x - S, by omega⟩
    rw [Nat.add_sub_cancel_left]
    have hy : y < S := by omega
    have e1 : (S + y) % S = y % S := Nat.add_mod_left _ _
    have e2 : y / S = 0 := Nat.div_eq_of_lt hy
    have e3 : (S + y) / S = 1 := by rw [Nat.add_div_left _ hp, e2]
    simp only [e1, e2, e3] at h1 ⊢
    revert h1
    repeat' split
    all_goals first | (intro h1; cases h1; done) | (intro h1; injection h1 with a1 a2 a3; subst a1 a2; first | (rw [a3]; simp; done) | (simp; exact a3))
end Go.Proofs.YtjjpjjoadphapaaDoor

namespace Go.Proofs.YtjjpjjoadphapaaDoor
set_option linter.unusedSimpArgs false
set_option linter.unusedVariables false
open Ieee

def sw (k : FloatKind) (s : Bool) (m : Nat) : Nat := k.format.nearest s m 0
theorem fw_sw (k : FloatKind) (n : Int) : floatOfInt k n = sw k (decide (n < 0)) n.natAbs := rfl
theorem least_un (k : FloatKind) : k.format.leastPlace = -(un k : Int) := by cases k <;> decide
theorem sw_units (k : FloatKind) (s : Bool) (m : Nat) : sw k s m = k.format.nearest s (m * 2 ^ un k) k.format.leastPlace := by
  have h := nearest_shift k.format s m (un k) 0
  rw [show (0 : Int) - (un k : Int) = k.format.leastPlace by rw [least_un]; omega] at h
  exact h.symm
theorem sw_zero (k : FloatKind) (s : Bool) : sw k s 0 = k.format.word s 0 := nearest_zero _ _ _
def sgS (s : Bool) (m : Nat) (t : Bool) (n : Nat) : Bool := if sg s m + sg t n = 0 then s && t else decide (sg s m + sg t n < 0)
def sgN (s : Bool) (m : Nat) (t : Bool) (n : Nat) : Nat := (sg s m + sg t n).natAbs
theorem sgN_le (s : Bool) (m : Nat) (t : Bool) (n : Nat) : sgN s m t n ≤ m + n := by
  unfold sgN sg
  cases s <;> cases t <;> simp <;> omega
theorem pow_scale (T : Int) (b : Nat) : ((T * 2 ^ b = 0) = (T = 0)) ∧ ((T * 2 ^ b < 0) = (T < 0)) ∧ (T * 2 ^ b).natAbs = T.natAbs * 2 ^ b := by
  have hp : (0 : Int) < 2 ^ b := by exact_mod_cast Nat.two_pow_pos b
  refine ⟨propext ⟨fun h => ?_, fun h => by rw [h, Int.zero_mul]⟩, propext ⟨fun h => ?_, fun h => Int.mul_neg_of_neg_of_pos h hp⟩, by rw [Int.natAbs_mul, Int.natAbs_pow]; rfl⟩
  · rcases Int.mul_eq_zero.1 h with h | h
    · exact h
    · omega
  · rcases Int.lt_or_le T 0 with h2 | h2
    · exact h2
    · have := Int.mul_nonneg h2 (Int.le_of_lt hp); omega
theorem sumW_sw (k : FloatKind) (s : Bool) (m : Nat) (t : Bool) (n : Nat) : sumW k.format s (m * 2 ^ un k) t (n * 2 ^ un k) = sw k (sgS s m t n) (sgN s m t n) := by
  rw [sw_units]
  unfold sumW sgS sgN
  rw [sg_scale, sg_scale, ← Int.add_mul]
  generalize sg s m + sg t n = T
  obtain ⟨c1, c2, c3⟩ := pow_scale T (un k)
  simp only [c1, c2, c3]
theorem fl_sw (k : FloatKind) (s : Bool) {m : Nat} (h : m ≤ 2000000) : Fl k.format (sw k s m) s (m * 2 ^ un k) := by
  cases k
  · exact fl_whole (f := single) (by decide) (by decide) lim_s s h
  · exact fl_whole (f := double) (by decide) (by decide) lim_d s h
theorem sw_add {k : FloatKind} (s t : Bool) {m n : Nat} (hm : m ≤ 2000000) (hn : n ≤ 2000000) : floatBits .add k (sw k s m) (sw k t n) = some (sw k (sgS s m t n) (sgN s m t n)) := by
  have h := fl_add (fl_sw k s hm) (fl_sw k t hn)
  rw [sumW_sw] at h
  exact h
theorem sw_sub {k : FloatKind} (s t : Bool) {m n : Nat} (hm : m ≤ 2000000) (hn : n ≤ 2000000) : floatBits .sub k (sw k s m) (sw k t n) = some (sw k (sgS s m (!t) n) (sgN s m (!t) n)) := by
  have h := fl_sub (fl_sw k s hm) (fl_sw k t hn)
  rw [sumW_sw] at h
  exact h
theorem sw_mul {k : FloatKind} (s t : Bool) {m n : Nat} (hm : m ≤ 2000000) (hn : n ≤ 2000000) : floatBits .mul k (sw k s m) (sw k t n) = some (sw k (s ^^ t) (m * n)) := by
  obtain ⟨m', i, h1, e1, _⟩ := fl_sw k s hm
  obtain ⟨n', j, h2, e2, _⟩ := fl_sw k t hn
  have hw : floatBits .mul k (sw k s m) (sw k t n) = some (k.format.nearest (s ^^ t) (m' * n') (k.format.leastPlace + (i : Int) + (k.format.leastPlace + (j : Int)))) := by
    show ((k.format.read (sw k s m)).product (k.format.read (sw k t n))).map k.format.write = _
    rw [h1, h2]; rfl
  rw [hw]
  have hsh := nearest_shift k.format (s ^^ t) (m' * n') (i + j) (k.format.leastPlace + (i : Int) + (k.format.leastPlace + (j : Int)))
  have hs2 := nearest_shift k.format (s ^^ t) (m * n) (un k + un k) 0
  have em : m' * n' * 2 ^ (i + j) = m * n * 2 ^ (un k + un k) := by
    have : m' * n' * 2 ^ (i + j) = (m' * 2 ^ i) * (n' * 2 ^ j) := by rw [Nat.pow_add]; ac_rfl
    rw [this, e1, e2, Nat.pow_add]
    generalize 2 ^ un k = P
    ac_rfl
  have ep : k.format.leastPlace + (i : Int) + (k.format.leastPlace + (j : Int)) - ((i + j : Nat) : Int) = 0 - ((un k + un k : Nat) : Int) := by rw [least_un]; omega
  rw [← hsh, em, ep, hs2]
  rfl
theorem sw_conv (k l : FloatKind) (s : Bool) {m : Nat} (hm : m ≤ 2000000) : floatToFloatBits k (sw k s m) l = some (sw l s m) := by
  by_cases c : k = l
  · subst c; simp [floatToFloatBits]
  · obtain ⟨m', i, h1, e1, _⟩ := fl_sw k s hm
    have h1' : k.decode (sw k s m) = .number s m' (k.format.leastPlace + (i : Int)) := h1
    have hr : l.encode (.number s m' (k.format.leastPlace + (i : Int))) = sw l s m := by
      show l.format.nearest s m' (k.format.leastPlace + (i : Int)) = _
      have hsh := nearest_shift l.format s m' i (k.format.leastPlace + (i : Int))
      have hs2 := nearest_shift l.format s m (un k) 0
      rw [← hsh, e1, show k.format.leastPlace + (i : Int) - (i : Int) = 0 - (un k : Int) by rw [least_un]; omega, hs2]
      rfl
    have hi : (l.decode (sw l s m)).isInfinity = false := notInf (fl_sw l s hm)
    simp [floatToFloatBits, c, h1', hr, hi]
theorem sw_order (k : FloatKind) (s t : Bool) {m n : Nat} (hm : m ≤ 2000000) (hn : n ≤ 2000000) : k.format.order (sw k s m) (sw k t n) = some (compare (sg s m) (sg t n)) := by
  have h := vl_order (k := k) ⟨_, _, fl_sw k s hm, rfl⟩ ⟨_, _, fl_sw k t hn, rfl⟩
  rw [sg_scale, sg_scale, scale_cmp] at h
  exact h
/-- a number's own sign -/
theorem own_sg (a : Int) : sg (decide (a < 0)) a.natAbs = a := by
  by_cases c : a < 0
  · rw [decide_eq_true c]; show -((a.natAbs : Nat) : Int) = a; omega
  · rw [decide_eq_false c]; show ((a.natAbs : Nat) : Int) = a; omega
theorem own_sum {a : Int} {t : Bool} {n : Nat} : sgS (decide (a < 0)) a.natAbs t n = decide (a + sg t n < 0) ∧ sgN (decide (a < 0)) a.natAbs t n = (a + sg t n).natAbs := by
  unfold sgS sgN
  rw [own_sg]
  refine ⟨?_, rfl⟩
  by_cases c : a + sg t n = 0
  · rw [if_pos c, c]
    unfold sg at c
    cases t
    · simp
    · simp at c ⊢; omega
  · rw [if_neg c]
theorem fw_add {k : FloatKind} {a : Int} (t : Bool) {n : Nat} (ha : a.natAbs ≤ 2000000) (hn : n ≤ 2000000) : floatBits .add k (floatOfInt k a) (sw k t n) = some (floatOfInt k (a + sg t n)) := by
  rw [fw_sw, sw_add _ _ ha hn, own_sum.1, own_sum.2]; rfl
theorem fw_sub {k : FloatKind} {a : Int} (t : Bool) {n : Nat} (ha : a.natAbs ≤ 2000000) (hn : n ≤ 2000000) : floatBits .sub k (floatOfInt k a) (sw k t n) = some (floatOfInt k (a - sg t n)) := by
  rw [fw_sw, sw_sub _ _ ha hn, own_sum.1, own_sum.2, sg_neg]; rfl
theorem ff_add {k : FloatKind} {a b : Int} (ha : a.natAbs ≤ 2000000) (hb : b.natAbs ≤ 2000000) : floatBits .add k (floatOfInt k a) (floatOfInt k b) = some (floatOfInt k (a + b)) := by
  rw [fw_sw k b, fw_add _ ha hb, own_sg]
theorem ff_sub {k : FloatKind} {a b : Int} (ha : a.natAbs ≤ 2000000) (hb : b.natAbs ≤ 2000000) : floatBits .sub k (floatOfInt k a) (floatOfInt k b) = some (floatOfInt k (a - b)) := by
  rw [fw_sw k b, fw_sub _ ha hb, own_sg]
theorem sqw_nonneg (a : Int) : ¬ a * a < 0 := by
  have : 0 ≤ a * a := by
    rcases Int.le_total 0 a with h | h
    · exact Int.mul_nonneg h h
    · exact Int.mul_nonneg_of_nonpos_of_nonpos h h
  omega
theorem ff_sq {k : FloatKind} {a : Int} (ha : a.natAbs ≤ 2000000) : floatBits .mul k (floatOfInt k a) (floatOfInt k a) = some (floatOfInt k (a * a)) := by
  rw [fw_sw k a, sw_mul _ _ ha ha, fw_sw, Bool.xor_self, Int.natAbs_mul, decide_eq_false (sqw_nonneg a)]
theorem ff_order {k : FloatKind} {a b : Int} (ha : a.natAbs ≤ 2000000) (hb : b.natAbs ≤ 2000000) : k.format.order (floatOfInt k a) (floatOfInt k b) = some (compare a b) := by
  rw [fw_sw, fw_sw, sw_order _ _ _ ha hb, own_sg, own_sg]
theorem ff_conv (k l : FloatKind) {a : Int} (ha : a.natAbs ≤ 2000000) : floatToFloatBits k (floatOfInt k a) l = some (floatOfInt l a) := sw_conv k l _ ha
theorem ff_inj {k : FloatKind} {a b : Int} (ha : a.natAbs ≤ 2000000) (hb : b.natAbs ≤ 2000000) (h : floatOfInt k a = floatOfInt k b) : a = b := by
  have h1 := ff_order (k := k) ha hb
  rw [h, ff_order hb hb, Int.compare_eq_eq.2 rfl] at h1
  exact Int.compare_eq_eq.1 (Option.some.inj h1).symm
section
variable {P : Program} (w : World)
/-- products of complex64 with whole parts, whatever the signs of their zeros -/
theorem run_cmul32 (t : TypeId) (s1 s2 s3 s4 : Bool) {a b c d : Nat} (ha : a ≤ 1000) (hb : b ≤ 1000) (hc : c ≤ 1000) (hd : d ≤ 1000) :
    (binOp .mul t (.complex .f32 (sw .f32 s1 a) (sw .f32 s2 b)) (.complex .f32 (sw .f32 s3 c) (sw .f32 s4 d))).run P w =
      .ok (.complex .f32 (sw .f32 (sgS (s1 ^^ s3) (a * c) (!(s2 ^^ s4)) (b * d)) (sgN (s1 ^^ s3) (a * c) (!(s2 ^^ s4)) (b * d))) (sw .f32 (sgS (s1 ^^ s4) (a * d) (s2 ^^ s3) (b * c)) (sgN (s1 ^^ s4) (a * d) (s2 ^^ s3) (b * c)))) w := by
  have m1 : a * c ≤ 1000000 := Nat.mul_le_mul ha hc
  have m2 : b * d ≤ 1000000 := Nat.mul_le_mul hb hd
  have m3 : a * d ≤ 1000000 := Nat.mul_le_mul ha hd
  have m4 : b * c ≤ 1000000 := Nat.mul_le_mul hb hc
  have u1 := run_floatToFloat w (P := P) (sw_conv .f32 .f64 s1 (m := a) (by omega))
  have u2 := run_floatToFloat w (P := P) (sw_conv .f32 .f64 s2 (m := b) (by omega))
  have u3 := run_floatToFloat w (P := P) (sw_conv .f32 .f64 s3 (m := c) (by omega))
  have u4 := run_floatToFloat w (P := P) (sw_conv .f32 .f64 s4 (m := d) (by omega))
  have h1 := run_carith w (P := P) (sw_mul (k := .f64) s1 s3 (m := a) (n := c) (by omega) (by omega))
  have h2 := run_carith w (P := P) (sw_mul (k := .f64) s2 s4 (m := b) (n := d) (by omega) (by omega))
  have h3 := run_carith w (P := P) (sw_mul (k := .f64) s1 s4 (m := a) (n := d) (by omega) (by omega))
  have h4 := run_carith w (P := P) (sw_mul (k := .f64) s2 s3 (m := b) (n := c) (by omega) (by omega))
  have h5 := run_carith w (P := P) (sw_sub (k := .f64) (s1 ^^ s3) (s2 ^^ s4) (m := a * c) (n := b * d) (by omega) (by omega))
  have h6 := run_carith w (P := P) (sw_add (k := .f64) (s1 ^^ s4) (s2 ^^ s3) (m := a * d) (n := b * c) (by omega) (by omega))
  have n1 := sgN_le (s1 ^^ s3) (a * c) (!(s2 ^^ s4)) (b * d)
  have n2 := sgN_le (s1 ^^ s4) (a * d) (s2 ^^ s3) (b * c)
  have d1 := run_floatToFloat w (P := P) (sw_conv .f64 .f32 (sgS (s1 ^^ s3) (a * c) (!(s2 ^^ s4)) (b * d)) (m := sgN (s1 ^^ s3) (a * c) (!(s2 ^^ s4)) (b * d)) (by omega))
  have d2 := run_floatToFloat w (P := P) (sw_conv .f64 .f32 (sgS (s1 ^^ s4) (a * d) (s2 ^^ s3) (b * c)) (m := sgN (s1 ^^ s4) (a * d) (s2 ^^ s3) (b * c)) (by omega))
  simp [binOp, Op.complexOp, Op.Complex.conv, Op.Complex.product, Op.Complex.mul, Op.Complex.sub, Op.Complex.add, u1, u2, u3, u4, h1, h2, h3, h4, h5, h6, d1, d2]
theorem run_cadd {k : FloatKind} (t : TypeId) {a b c d : Int} (ha : a.natAbs ≤ 2000000) (hb : b.natAbs ≤ 2000000) (hc : c.natAbs ≤ 2000000) (hd : d.natAbs ≤ 2000000) :
    (binOp .add t (.complex k (floatOfInt k a) (floatOfInt k b)) (.complex k (floatOfInt k c) (floatOfInt k d))).run P w = .ok (.complex k (floatOfInt k (a + c)) (floatOfInt k (b + d))) w :=
  run_complex_sum w .add (.inl rfl) t k _ _ _ _ _ _ (by simp [cSumBits, ff_add ha hc, ff_add hb hd])
theorem run_csub {k : FloatKind} (t : TypeId) {a b c d : Int} (ha : a.natAbs ≤ 2000000) (hb : b.natAbs ≤ 2000000) (hc : c.natAbs ≤ 2000000) (hd : d.natAbs ≤ 2000000) :
    (binOp .sub t (.complex k (floatOfInt k a) (floatOfInt k b)) (.complex k (floatOfInt k c) (floatOfInt k d))).run P w = .ok (.complex k (floatOfInt k (a - c)) (floatOfInt k (b - d))) w :=
  run_complex_sum w .sub (.inr rfl) t k _ _ _ _ _ _ (by simp [cSumBits, ff_sub ha hc, ff_sub hb hd])
theorem run_caddS {k : FloatKind} (t : TypeId) {a b : Int} (s3 s4 : Bool) {c d : Nat} (ha : a.natAbs ≤ 2000000) (hb : b.natAbs ≤ 2000000) (hc : c ≤ 2000000) (hd : d ≤ 2000000) :
    (binOp .add t (.complex k (floatOfInt k a) (floatOfInt k b)) (.complex k (sw k s3 c) (sw k s4 d))).run P w = .ok (.complex k (floatOfInt k (a + sg s3 c)) (floatOfInt k (b + sg s4 d))) w :=
  run_complex_sum w .add (.inl rfl) t k _ _ _ _ _ _ (by simp [cSumBits, fw_add _ ha hc, fw_add _ hb hd])
theorem cmp_sg (a b : Int) : (compare a b == Ordering.eq) = decide (a = b) := by
  by_cases c : a = b
  · rw [Int.compare_eq_eq.2 c, decide_eq_true c]; rfl
  · rw [decide_eq_false c]
    rcases Int.lt_or_gt_of_ne c with h | h
    · rw [Int.compare_eq_lt.2 h]; rfl
    · rw [Int.compare_eq_gt.2 h]; rfl
theorem run_ceqS {k : FloatKind} (t : TypeId) (s1 s2 s3 s4 : Bool) {a b c d : Nat} (ha : a ≤ 2000000) (hb : b ≤ 2000000) (hc : c ≤ 2000000) (hd : d ≤ 2000000) :
    (binOp .eql t (.complex k (sw k s1 a) (sw k s2 b)) (.complex k (sw k s3 c) (sw k s4 d))).run P w = .ok (.bool (decide (sg s1 a = sg s3 c) && decide (sg s2 b = sg s4 d))) w := by
  have h1 := sw_order k s1 s3 ha hc
  have h2 := sw_order k s2 s4 hb hd
  simp [binOp, Op.complexOp, Op.Complex.cmp, Op.floatCmp, h1, h2, cmp_sg, asBool]
end
end Go.Proofs.YtjjpjjoadphapaaDoor

namespace Go.Proofs.YtjjpjjoadphapaaDoor
set_option linter.unusedSimpArgs false
set_option linter.unusedVariables false

/-- a byte is a letter of a word -/
def wdC (c : UInt8) : Bool := c == 108 || c == 114
theorem wdC_iff (c : UInt8) : wdC c = true ↔ c.toNat = 108 ∨ c.toNat = 114 := by
  unfold wdC
  rw [Bool.or_eq_true, beq_iff_eq, beq_iff_eq, ← UInt8.toNat_inj, ← UInt8.toNat_inj]
  rfl
theorem wdC_or {c : UInt8} (h : wdC c = true) : c = 108 ∨ c = 114 := by
  unfold wdC at h
  rw [Bool.or_eq_true, beq_iff_eq, beq_iff_eq] at h
  exact h
/-- the other letter -/
def oth (c : UInt8) : UInt8 := if c = 108 then 114 else 108
theorem oth_wd (c : UInt8) : wdC (oth c) = true := by unfold oth; split <;> rfl
theorem oth_oth {c : UInt8} (h : wdC c = true) : oth (oth c) = c := by
  rcases wdC_or h with rfl | rfl <;> rfl
theorem oth_ne {c : UInt8} (h : wdC c = true) : oth c ≠ c := by
  rcases wdC_or h with rfl | rfl <;> decide
def onlyW (s : ByteArray) : Bool := (toL s).all wdC
theorem onlyW_bad {s : ByteArray} (k : Nat) (hk : k < s.size) (h : ¬ (s[k].toNat = 108 ∨ s[k].toNat = 114)) : onlyW s = false := by
  rw [← Bool.not_eq_true]
  intro e
  exact h ((wdC_iff _).1 (List.all_eq_true.1 e _ (List.mem_of_getElem? (toL_get s k hk))))
theorem onlyW_good {s : ByteArray} (h : ∀ c ∈ toL s, wdC c = true) : onlyW s = true := List.all_eq_true.2 h
theorem onlyW_all {s : ByteArray} (h : onlyW s = true) : ∀ c ∈ toL s, wdC c = true := List.all_eq_true.1 h
/-- a word of at most so many letters -/
def wdB (n : Nat) (s : ByteArray) : Bool := decide (s.size ≤ n) && onlyW s
theorem wdB_len {n : Nat} {s : ByteArray} (h : wdB n s = true) : s.size ≤ n := by simp [wdB] at h; exact h.1
theorem wdB_only {n : Nat} {s : ByteArray} (h : wdB n s = true) : onlyW s = true := by simp [wdB] at h; exact h.2
theorem wdB_all {n : Nat} {s : ByteArray} (h : wdB n s = true) : ∀ c ∈ toL s, wdC c = true := onlyW_all (wdB_only h)
theorem wdB_long {n : Nat} {s : ByteArray} (h : n < s.size) : wdB n s = false := by simp [wdB]; omega
theorem wdB_of {n : Nat} {s : ByteArray} (h : s.size ≤ n) : wdB n s = onlyW s := by simp [wdB, h]
theorem wdB_at {n : Nat} {s : ByteArray} (h : wdB n s = true) (k : Nat) (hk : k < s.size) : s[k].toNat = 108 ∨ s[k].toNat = 114 :=
  (wdC_iff _).1 (wdB_all h _ (List.mem_of_getElem? (toL_get s k hk)))

/-! ### turned back -/
def backL (l : List UInt8) : List UInt8 := (l.map oth).reverse
theorem backL_len (l : List UInt8) : (backL l).length = l.length := by simp [backL]
theorem backL_append (a b : List UInt8) : backL (a ++ b) = backL b ++ backL a := by simp [backL]
theorem backL_one (c : UInt8) : backL [c] = [oth c] := rfl
theorem backL_cons (c : UInt8) (l : List UInt8) : backL (c :: l) = backL l ++ [oth c] := by simp [backL]
theorem backL_snoc (c : UInt8) (l : List UInt8) : backL (l ++ [c]) = oth c :: backL l := by simp [backL]
theorem backL_back {l : List UInt8} (h : ∀ c ∈ l, wdC c = true) : backL (backL l) = l := by
  induction l with
  | nil => rfl
  | cons a r ih =>
    rw [backL_cons, backL_append, ih (fun c hc => h c (by simp [hc])), backL_one, oth_oth (h a (by simp))]; rfl
theorem backL_wd (l : List UInt8) : ∀ c ∈ backL l, wdC c = true := by
  intro c hc
  simp [backL] at hc
  obtain ⟨a, _, rfl⟩ := hc
  exact oth_wd a
theorem backL_get (l : List UInt8) (k : Nat) (h : k < l.length) : (backL l)[k]? = (l[l.length - 1 - k]?).map oth := by
  have h1 : k < (l.map oth).length := by simpa using h
  unfold backL
  rw [List.getElem?_reverse h1, List.length_map, List.getElem?_map]

/-! ### words of turns -/
def turnsL (l : List UInt8) : List UInt8 := l.foldl (fun o c => o ++ [c] ++ backL o) []
theorem turnsL_nil : turnsL [] = [] := rfl
theorem turnsL_snoc (l : List UInt8) (c : UInt8) : turnsL (l ++ [c]) = turnsL l ++ [c] ++ backL (turnsL l) := by simp [turnsL]
theorem turnsL_len (l : List UInt8) : (turnsL l).length + 1 = 2 ^ l.length := by
  induction l using rev_ind with
  | h0 => rfl
  | h1 l c ih =>
    rw [turnsL_snoc, List.length_append, List.length_append, backL_len, List.length_append]
    simp only [List.length_singleton, Nat.pow_succ]
    omega
theorem turnsL_wd (l : List UInt8) (h : ∀ c ∈ l, wdC c = true) : ∀ c ∈ turnsL l, wdC c = true := by
  induction l using rev_ind with
  | h0 => intro c hc; simp [turnsL] at hc
  | h1 l c ih =>
    intro d hd
    rw [turnsL_snoc] at hd
    simp only [List.mem_append, List.mem_singleton] at hd
    rcases hd with (hd | hd) | hd
    · exact ih (fun c hc => h c (by simp [hc])) d hd
    · exact h d (by simp [hd])
    · exact backL_wd _ d hd
/-- the letter at 2 to the power of j times the odd number o -/
def turnV (cs : List UInt8) (j o : Nat) : UInt8 := if o % 4 = 1 then cs[j]?.getD 0 else oth (cs[j]?.getD 0)
theorem turnV_ext {cs : List UInt8} {c : UInt8} {j o : Nat} (h : j < cs.length) : turnV (cs ++ [c]) j o = turnV cs j o := by
  unfold turnV; rw [List.getElem?_append_left h]
theorem pow_dvd4 {k : Nat} (h : 2 ≤ k) : ∃ q, 2 ^ k = 4 * q := ⟨2 ^ (k - 2), by
  have : k = 2 + (k - 2) := by omega
  rw [this, Nat.pow_add]; simp⟩
theorem pow_even {k : Nat} (h : 1 ≤ k) : 2 ^ k % 2 = 0 := by
  obtain ⟨m, rfl⟩ : ∃ m, k = m + 1 := ⟨k - 1, by omega⟩
  rw [Nat.pow_succ]; omega
theorem two_pos (k : Nat) : 0 < 2 ^ k := Nat.pow_pos (by omega)
theorem exp_lt {j n o : Nat} (ho : o % 2 = 1) (h : 2 ^ j * o < 2 ^ n) : j < n := by
  have h1 : 2 ^ j ≤ 2 ^ j * o := Nat.le_mul_of_pos_right _ (by omega)
  exact (Nat.pow_lt_pow_iff_right (by omega : 1 < 2)).1 (Nat.lt_of_le_of_lt h1 h)
/-- what is left up to the power n is odd, too, and 3 where the one is 1 -/
theorem exp_left {j n o : Nat} (ho : o % 2 = 1) (hj : j < n) (h : 2 ^ j * o < 2 ^ n) : 2 ^ n - 2 ^ j * o = 2 ^ j * (2 ^ (n - j) - o) ∧ (2 ^ (n - j) - o) % 2 = 1 ∧ o < 2 ^ (n - j) := by
  have e : 2 ^ n = 2 ^ j * 2 ^ (n - j) := by rw [← Nat.pow_add]; congr 1; omega
  have hlt : o < 2 ^ (n - j) := by rw [e] at h; exact Nat.lt_of_mul_lt_mul_left h
  refine ⟨by rw [e, Nat.mul_sub], ?_, hlt⟩
  have := pow_even (show 1 ≤ n - j by omega)
  omega
theorem turn_at (cs : List UInt8) : ∀ j o, o % 2 = 1 → 2 ^ j * o < 2 ^ cs.length → (∀ c ∈ cs, wdC c = true) → (turnsL cs)[2 ^ j * o - 1]? = some (turnV cs j o) := by
  induction cs using rev_ind with
  | h0 =>
    intro j o ho h
    have := Nat.mul_pos (two_pos j) (show 0 < o by omega)
    simp at h; omega
  | h1 l c ih =>
    intro j o ho h hw
    have ih := fun j o ho h => ih j o ho h (fun c hc => hw c (by simp [hc]))
    rw [List.length_append, List.length_singleton] at h
    have hlen := turnsL_len l
    have hpos := Nat.mul_pos (two_pos j) (show 0 < o by omega)
    have hsucc : 2 ^ (l.length + 1) = 2 * 2 ^ l.length := by rw [Nat.pow_succ]; omega
    have hj := exp_lt ho h
    rw [turnsL_snoc]
    rcases Nat.lt_trichotomy (2 ^ j * o) (2 ^ l.length) with hc | hc | hc
    · rw [List.append_assoc, List.getElem?_append_left (by omega), ih j o ho hc, turnV_ext (exp_lt ho hc)]
    · have hjl : j = l.length := by
        rcases Nat.lt_or_ge j l.length with hlt | hge
        · exfalso
          have e : 2 ^ l.length = 2 ^ j * 2 ^ (l.length - j) := by rw [← Nat.pow_add]; congr 1; omega
          rw [e] at hc
          have := Nat.eq_of_mul_eq_mul_left (two_pos j) hc
          have := pow_even (show 1 ≤ l.length - j by omega)
          omega
        · omega
      have ho1 : o = 1 := by
        rw [← hjl] at hc
        exact Nat.eq_of_mul_eq_mul_left (two_pos j) (by omega)
      subst ho1
      rw [List.append_assoc, List.getElem?_append_right (by omega), hc, show 2 ^ l.length - 1 - (turnsL l).length = 0 by omega]
      simp [turnV, hjl]
    · have hjl : j < l.length := by
        rcases Nat.lt_or_ge j l.length with hlt | hge
        · exact hlt
        · exfalso
          obtain rfl : j = l.length := by omega
          have : o < 2 := by
            rw [Nat.pow_succ] at h
            exact Nat.lt_of_mul_lt_mul_left h
          obtain rfl : o = 1 := by omega
          omega
      obtain ⟨e1, e2, e3⟩ := exp_left ho hj h
      have h4 := pow_dvd4 (show 2 ≤ l.length + 1 - j by omega)
      obtain ⟨q, hq⟩ := h4
      have hlo : 2 ^ j * (2 ^ (l.length + 1 - j) - o) < 2 ^ l.length := by rw [← e1]; omega
      have ihx := ih j _ e2 hlo
      rw [← e1] at ihx
      have hk : 2 ^ j * o - 1 - (turnsL l ++ [c]).length < (turnsL l).length := by
        rw [List.length_append, List.length_singleton]; omega
      rw [List.getElem?_append_right (by rw [List.length_append, List.length_singleton]; omega), backL_get _ _ hk]
      rw [List.length_append, List.length_singleton] at hk ⊢
      rw [show (turnsL l).length - 1 - (2 ^ j * o - 1 - ((turnsL l).length + 1)) = 2 ^ (l.length + 1) - 2 ^ j * o - 1 by omega, ihx, turnV_ext hjl]
      have hwj : wdC (l[j]?.getD 0) = true := by
        rw [List.getElem?_eq_getElem hjl]
        exact hw _ (by simp)
      rw [hq]
      rw [hq] at e3
      simp only [Option.map_some, Option.some.injEq, turnV]
      rcases (show o % 4 = 1 ∨ o % 4 = 3 by omega) with h1 | h1
      · have h5 : ¬ (4 * q - o) % 4 = 1 := by omega
        rw [if_pos h1, if_neg h5, oth_oth hwj]
      · have h5 : (4 * q - o) % 4 = 1 := by omega
        have h6 : ¬ o % 4 = 1 := by omega
        rw [if_neg h6, if_pos h5]
/-- the opposite end of a word of turns -/
theorem turn_opp {cs : List UInt8} {j o : Nat} (ho : o % 2 = 1) (h : 2 ^ j * o < 2 ^ cs.length) (hw : ∀ c ∈ cs, wdC c = true) (hm : 2 * (2 ^ j * o) ≠ 2 ^ cs.length) :
    ∃ o', 2 ^ cs.length - 2 ^ j * o = 2 ^ j * o' ∧ o' % 2 = 1 ∧ turnV cs j o' ≠ turnV cs j o := by
  have hj := exp_lt ho h
  obtain ⟨e1, e2, e3⟩ := exp_left ho hj h
  refine ⟨_, e1, e2, ?_⟩
  have h2 : 2 ≤ cs.length - j := by
    rcases Nat.lt_or_ge (cs.length - j) 2 with hlt | hge
    · exfalso
      have e : cs.length - j = 1 := by omega
      rw [e] at e3
      obtain rfl : o = 1 := by omega
      apply hm
      rw [show cs.length = j + 1 by omega, Nat.pow_succ]
      omega
    · exact hge
  obtain ⟨q, hq⟩ := pow_dvd4 h2
  have hwj : wdC (cs[j]?.getD 0) = true := by
    rw [List.getElem?_eq_getElem hj]
    exact hw _ (by simp)
  rw [hq] at e3 ⊢
  unfold turnV
  rcases (show o % 4 = 1 ∨ o % 4 = 3 by omega) with h1 | h1
  · have h5 : ¬ (4 * q - o) % 4 = 1 := by omega
    rw [if_pos h1, if_neg h5]; exact oth_ne hwj
  · have h5 : (4 * q - o) % 4 = 1 := by omega
    have h6 : ¬ o % 4 = 1 := by omega
    rw [if_neg h6, if_pos h5]; exact fun e => oth_ne hwj e.symm

/-! ### folded again -/
/-- the letters at the first powers of 2 -/
def powL (l : List UInt8) (k : Nat) : List UInt8 := (List.range k).map fun j => l[2 ^ j - 1]?.getD 0
theorem powL_succ (l : List UInt8) (k : Nat) : powL l (k + 1) = powL l k ++ [l[2 ^ k - 1]?.getD 0] := by simp [powL, List.range_succ]
theorem powL_len (l : List UInt8) (k : Nat) : (powL l k).length = k := by simp [powL]
theorem powL_turns {cs : List UInt8} (hw : ∀ c ∈ cs, wdC c = true) : powL (turnsL cs) cs.length = cs := by
  apply List.ext_getElem?
  intro j
  by_cases hj : j < cs.length
  · have h := turn_at cs j 1 rfl (by rw [Nat.mul_one]; exact (Nat.pow_lt_pow_iff_right (by omega)).2 hj) hw
    rw [Nat.mul_one] at h
    simp [powL, hj, h, turnV]
  · rw [List.getElem?_eq_none (by rw [powL_len]; omega), List.getElem?_eq_none (by omega)]
/-- the creases of a list, if it is a word of turns -/
def foldO (l : List UInt8) : Option (List UInt8) := if turnsL (powL l (Nat.log2 (l.length + 1))) = l then some (powL l (Nat.log2 (l.length + 1))) else none
theorem foldO_some {cs : List UInt8} (hw : ∀ c ∈ cs, wdC c = true) : foldO (turnsL cs) = some cs := by
  have e : Nat.log2 ((turnsL cs).length + 1) = cs.length := by rw [turnsL_len, Nat.log2_two_pow]
  unfold foldO
  rw [e, powL_turns hw, if_pos rfl]
theorem foldO_turns {l cs : List UInt8} (h : foldO l = some cs) : turnsL cs = l := by
  unfold foldO at h
  split at h
  · next e => rw [← Option.some.inj h]; exact e
  · cases h
theorem foldO_none {l : List UInt8} (hw : ∀ c ∈ l, wdC c = true) (h : ∀ cs : List UInt8, (∀ c ∈ cs, wdC c = true) → turnsL cs ≠ l) : foldO l = none := by
  unfold foldO
  split
  · next e =>
    exfalso
    refine h _ ?_ e
    intro c hc
    simp only [powL, List.mem_map, List.mem_range] at hc
    obtain ⟨j, hj, rfl⟩ := hc
    have hlt : 2 ^ j - 1 < l.length := by
      have h1 : 2 ^ (j + 1) ≤ l.length + 1 := (Nat.le_log2 (by omega)).1 hj
      rw [Nat.pow_succ] at h1
      have := two_pos j
      omega
    rw [List.getElem?_eq_getElem hlt]
    exact hw _ (by simp)
  · rfl
theorem take_snocL {w : List UInt8} {n : Nat} {c : UInt8} (h : w[n]? = some c) : w.take (n + 1) = w.take n ++ [c] := by
  rw [List.take_add_one, h]; rfl
/-- the halving goes on: what is a word of turns is turned back about its middle -/
theorem half_up {w : List UInt8} {n : Nat} {c : UInt8} (h1 : w.length = 2 * n + 1) (hc : w[n]? = some c) (h2 : w.drop (n + 1) = backL (w.take n)) {cs : List UInt8} (h : w.take n = turnsL cs) : w = turnsL (cs ++ [c]) := by
  rw [turnsL_snoc, ← h, ← h2, ← take_snocL hc, List.take_append_drop]
theorem half_down {w : List UInt8} {cs : List UInt8} (h : w = turnsL cs) (h0 : w ≠ []) : ∃ cs' c, cs = cs' ++ [c] ∧ w.length = 2 * (w.length / 2) + 1 ∧ w[w.length / 2]? = some c ∧ w.drop (w.length / 2 + 1) = backL (w.take (w.length / 2)) ∧ w.take (w.length / 2) = turnsL cs' := by
  induction cs using rev_ind with
  | h0 => exact absurd h h0
  | h1 l c _ =>
    refine ⟨l, c, rfl, ?_⟩
    rw [turnsL_snoc] at h
    have hl : w.length = 2 * (turnsL l).length + 1 := by rw [h]; simp [backL_len]; omega
    have hh : w.length / 2 = (turnsL l).length := by omega
    rw [hh]
    refine ⟨by omega, ?_, ?_, ?_⟩
    · rw [h]; simp
    · rw [h, List.append_assoc, List.take_left]
      rw [← List.append_assoc]
      exact List.drop_left' (by simp)
    · rw [h, List.append_assoc, List.take_left]

theorem turnsL_wd_of (o : List UInt8) : (∀ c ∈ turnsL o, wdC c = true) → ∀ c ∈ o, wdC c = true := by
  induction o using rev_ind with
  | h0 => intro _ c hc; simp at hc
  | h1 l a ih =>
    intro h c hc
    rw [turnsL_snoc] at h
    simp only [List.mem_append, List.mem_singleton] at hc
    rcases hc with hc | rfl
    · exact ih (fun d hd => h d (by simp [hd])) c hc
    · exact h c (by simp)
/-- what the halving keeps: the list is the word of turns of what is left and what has come -/
def Half (l t o : List UInt8) : Prop := (∀ cs, t = turnsL cs → l = turnsL (cs ++ o)) ∧ ∀ ds, l = turnsL ds → ∃ cs, ds = cs ++ o ∧ t = turnsL cs
theorem Half.start (l : List UInt8) : Half l l [] := ⟨fun cs h => by rw [List.append_nil]; exact h, fun ds h => ⟨ds, by simp, h⟩⟩
theorem Half.step {l t o : List UInt8} {n : Nat} {c : UInt8} (h : Half l t o) (h1 : t.length = 2 * n + 1) (hc : t[n]? = some c) (h2 : t.drop (n + 1) = backL (t.take n)) : Half l (t.take n) (c :: o) := by
  refine ⟨fun cs hcs => ?_, fun ds hds => ?_⟩
  · have := h.1 _ (half_up h1 hc h2 hcs)
    rw [this]; simp
  · obtain ⟨cs, e, ht⟩ := h.2 ds hds
    obtain ⟨cs', c', e1, e2, e3, e4, e5⟩ := half_down ht (by intro e; rw [e] at h1; simp at h1)
    have hn : t.length / 2 = n := by omega
    rw [hn] at e3 e5
    obtain rfl : c' = c := Option.some.inj (e3.symm.trans hc)
    exact ⟨cs', by rw [e, e1]; simp, e5⟩
theorem Half.bad {l t o : List UInt8} (h : Half l t o) (h0 : t ≠ []) (hb : t.length % 2 = 0 ∨ t.drop (t.length / 2 + 1) ≠ backL (t.take (t.length / 2))) (cs : List UInt8) : turnsL cs ≠ l := by
  intro e
  obtain ⟨cs', e1, ht⟩ := h.2 cs e.symm
  obtain ⟨_, _, _, e2, _, e4, _⟩ := half_down ht h0
  rcases hb with hb | hb
  · omega
  · exact hb e4
theorem Half.done {l o : List UInt8} (h : Half l [] o) : turnsL o = l := by
  have := h.1 [] rfl
  rw [this]; simp

/-! ### sums -/
def sgn (c : UInt8) : Int := if c = 108 then 1 else -1
def sumL (l : List UInt8) : Int := l.foldl (fun n c => n + sgn c) 0
theorem sumL_snoc (l : List UInt8) (c : UInt8) : sumL (l ++ [c]) = sumL l + sgn c := by simp [sumL]
theorem sumL_append (a b : List UInt8) : sumL (a ++ b) = sumL a + sumL b := by
  induction b using rev_ind with
  | h0 => simp [sumL]
  | h1 l c ih => rw [← List.append_assoc, sumL_snoc, sumL_snoc, ih]; omega
theorem sgn_oth {c : UInt8} (h : wdC c = true) : sgn (oth c) = - sgn c := by
  rcases wdC_or h with rfl | rfl <;> rfl
theorem sumL_back {l : List UInt8} (h : ∀ c ∈ l, wdC c = true) : sumL (backL l) = - sumL l := by
  induction l using rev_ind with
  | h0 => rfl
  | h1 l c ih =>
    rw [backL_snoc, show oth c :: backL l = [oth c] ++ backL l from rfl, sumL_append, sumL_snoc, ih (fun c hc => h c (by simp [hc])), show sumL [oth c] = sgn (oth c) by simp [sumL], sgn_oth (h c (by simp))]
    omega
theorem sgn_one (c : UInt8) : sgn c = 1 ∨ sgn c = -1 := by unfold sgn; split; exact Or.inl rfl; exact Or.inr rfl
theorem sumL_in (l : List UInt8) : -(l.length : Int) ≤ sumL l ∧ sumL l ≤ l.length ∧ (sumL l - l.length) % 2 = 0 := by
  induction l using rev_ind with
  | h0 => simp [sumL]
  | h1 l c ih =>
    rw [sumL_snoc, List.length_append, List.length_singleton]
    rcases sgn_one c with h | h <;> rw [h] <;> omega
theorem sumL_unfold {l : List UInt8} (h : ∀ c ∈ l, wdC c = true) (c : UInt8) : sumL (l ++ [c] ++ backL l) = sgn c := by
  rw [sumL_append, sumL_snoc, sumL_back h]; omega
theorem sumL_turns {l : List UInt8} (h : ∀ c ∈ l, wdC c = true) (c : UInt8) : sumL (turnsL (l ++ [c])) = sgn c := by
  rw [turnsL_snoc, sumL_unfold (turnsL_wd l h)]
end Go.Proofs.YtjjpjjoadphapaaDoor

namespace Go.Proofs.YtjjpjjoadphapaaDoor
set_option linter.unusedSimpArgs false
set_option linter.unusedVariables false
open Ieee

/-- a step turned at a letter -/
def trn (c : UInt8) (z : Int × Int) : Int × Int := if c = 108 then (-z.2, z.1) else (z.2, -z.1)
def addP (a b : Int × Int) : Int × Int := (a.1 + b.1, a.2 + b.2)
def subP (a b : Int × Int) : Int × Int := (a.1 - b.1, a.2 - b.2)
/-- the step and the point behind the letters -/
def stPt (l : List UInt8) : (Int × Int) × (Int × Int) := l.foldl (fun q c => (trn c q.1, addP q.2 (trn c q.1))) ((1, 0), (1, 0))
def stP (l : List UInt8) : Int × Int := (stPt l).1
def psP (l : List UInt8) : Int × Int := (stPt l).2
theorem stP_nil : stP [] = (1, 0) := rfl
theorem psP_nil : psP [] = (1, 0) := rfl
theorem stP_snoc (l : List UInt8) (c : UInt8) : stP (l ++ [c]) = trn c (stP l) := by unfold stP stPt; rw [List.foldl_append]; rfl
theorem psP_snoc (l : List UInt8) (c : UInt8) : psP (l ++ [c]) = addP (psP l) (trn c (stP l)) := by unfold psP stP stPt; rw [List.foldl_append]; rfl
/-- the points of the curve of a word -/
def crvL (l : List UInt8) : List (Int × Int) := (0, 0) :: (List.range (l.length + 1)).map fun k => psP (l.take k)
theorem crvL_len (l : List UInt8) : (crvL l).length = l.length + 2 := by simp [crvL]
theorem crvL_zero (l : List UInt8) : (crvL l)[0]? = some (0, 0) := rfl
theorem crvL_succ {l : List UInt8} {k : Nat} (h : k ≤ l.length) : (crvL l)[k + 1]? = some (psP (l.take k)) := by
  unfold crvL
  rw [List.getElem?_cons_succ, List.getElem?_map, List.getElem?_range (by omega)]; rfl
theorem crvL_take {l : List UInt8} {k : Nat} (h : k ≤ l.length) : (crvL l).take (k + 2) = (crvL l).take (k + 1) ++ [psP (l.take k)] := by
  rw [List.take_add_one, crvL_succ h]; rfl
theorem crvL_one (l : List UInt8) : (crvL l).take 1 = [(0, 0)] := rfl
theorem crvL_all (l : List UInt8) : (crvL l).take (l.length + 2) = crvL l := List.take_of_length_le (by rw [crvL_len]; omega)
theorem stP_unit (l : List UInt8) : (stP l).1.natAbs ≤ 1 ∧ (stP l).2.natAbs ≤ 1 := by
  induction l using rev_ind with
  | h0 => decide
  | h1 l c ih =>
    rw [stP_snoc]
    unfold trn
    split <;> simp <;> omega
theorem psP_in (l : List UInt8) : (psP l).1.natAbs ≤ l.length + 1 ∧ (psP l).2.natAbs ≤ l.length + 1 := by
  induction l using rev_ind with
  | h0 => decide
  | h1 l c ih =>
    have h := stP_unit (l ++ [c])
    rw [stP_snoc] at h
    rw [psP_snoc, List.length_append, List.length_singleton]
    unfold addP
    dsimp only
    omega
theorem crvL_in (l : List UInt8) : ∀ z ∈ crvL l, z.1.natAbs ≤ l.length + 1 ∧ z.2.natAbs ≤ l.length + 1 := by
  intro z hz
  rcases List.mem_cons.1 hz with rfl | hz
  · simp
  · obtain ⟨k, hk, rfl⟩ := List.mem_map.1 hz
    have h := psP_in (l.take k)
    have : (l.take k).length ≤ l.length := by rw [List.length_take]; omega
    omega

/-! ### numbers with a sign -/
abbrev SZ := (Bool × Nat) × (Bool × Nat)
def val (q : SZ) : Int × Int := (sg q.1.1 q.1.2, sg q.2.1 q.2.2)
theorem val_sum (s : Bool) (m : Nat) (t : Bool) (n : Nat) : sg (sgS s m t n) (sgN s m t n) = sg s m + sg t n := by
  unfold sgS sgN
  generalize sg s m + sg t n = T
  split
  · rename_i h; rw [h]; exact sg0 _
  · exact own_sg T
/-- times i, or times -i -/
def mulq (r : Bool) (q : SZ) : SZ :=
  ((sgS (q.1.1 ^^ false) (q.1.2 * 0) (!(q.2.1 ^^ r)) (q.2.2 * 1), sgN (q.1.1 ^^ false) (q.1.2 * 0) (!(q.2.1 ^^ r)) (q.2.2 * 1)),
   (sgS (q.1.1 ^^ r) (q.1.2 * 1) (q.2.1 ^^ false) (q.2.2 * 0), sgN (q.1.1 ^^ r) (q.1.2 * 1) (q.2.1 ^^ false) (q.2.2 * 0)))
theorem val_mulq (r : Bool) (q : SZ) : val (mulq r q) = if r then ((val q).2, -(val q).1) else (-(val q).2, (val q).1) := by
  obtain ⟨⟨s, m⟩, t, n⟩ := q
  unfold mulq val
  simp only [val_sum, Nat.mul_zero, Nat.mul_one, sg0, Int.zero_add, Int.add_zero]
  cases r <;> cases s <;> cases t <;> simp [sg]
theorem mulq_in (r : Bool) {q : SZ} (h : q.1.2 ≤ 1 ∧ q.2.2 ≤ 1) : (mulq r q).1.2 ≤ 1 ∧ (mulq r q).2.2 ≤ 1 := by
  have h1 := sgN_le (q.1.1 ^^ false) (q.1.2 * 0) (!(q.2.1 ^^ r)) (q.2.2 * 1)
  have h2 := sgN_le (q.1.1 ^^ r) (q.1.2 * 1) (q.2.1 ^^ false) (q.2.2 * 0)
  unfold mulq
  dsimp only
  omega
def rgt (c : UInt8) : Bool := c != 108
def stZ (l : List UInt8) : SZ := l.foldl (fun q c => mulq (rgt c) q) ((false, 1), (false, 0))
theorem stZ_nil : stZ [] = ((false, 1), (false, 0)) := rfl
theorem stZ_snoc (l : List UInt8) (c : UInt8) : stZ (l ++ [c]) = mulq (rgt c) (stZ l) := by unfold stZ; rw [List.foldl_append]; rfl
theorem stZ_in (l : List UInt8) : (stZ l).1.2 ≤ 1 ∧ (stZ l).2.2 ≤ 1 := by
  induction l using rev_ind with
  | h0 => decide
  | h1 l c ih => rw [stZ_snoc]; exact mulq_in _ ih
theorem stZ_val (l : List UInt8) : val (stZ l) = stP l := by
  induction l using rev_ind with
  | h0 => rfl
  | h1 l c ih =>
    rw [stZ_snoc, val_mulq, stP_snoc, ih]
    unfold trn rgt
    by_cases h : c = 108
    · simp [h]
    · simp [h]

/-! ### their words -/
def xr (q : SZ) : Nat := sw .f32 q.1.1 q.1.2
def xi (q : SZ) : Nat := sw .f32 q.2.1 q.2.2
def px (z : Int × Int) : Nat := floatOfInt .f32 z.1
def py (z : Int × Int) : Nat := floatOfInt .f32 z.2
abbrev encZ (q : SZ) : Value := .complex .f32 (xr q) (xi q)
abbrev encP (z : Int × Int) : Value := .complex .f32 (px z) (py z)
theorem w0 (k : FloatKind) : floatOfInt k 0 = 0 := by cases k <;> decide +kernel
theorem w0s : floatOfInt .f32 0 = 0 := by decide +kernel
theorem w1s : floatOfInt .f32 1 = 1065353216 := by decide +kernel
theorem wm1s : floatOfInt .f32 (-1) = 3212836864 := by decide +kernel
theorem enc00 : encP (0, 0) = .complex .f32 0 0 := by unfold encP px py; rw [w0s]
theorem enc10 : encP (1, 0) = .complex .f32 1065353216 0 := by unfold encP px py; rw [w0s, w1s]
theorem encZ10 : encZ ((false, 1), (false, 0)) = .complex .f32 1065353216 0 := enc10
theorem z00 : (Value.complex .f32 0 0) = encP (0, 0) := enc00.symm
def Sm (z : Int × Int) : Prop := z.1.natAbs ≤ 1000000 ∧ z.2.natAbs ≤ 1000000
section
variable {P : Program} (w : World)
theorem run_left (t : TypeId) {q : SZ} (h : q.1.2 ≤ 1 ∧ q.2.2 ≤ 1) : (binOp .mul t (encZ q) (.complex .f32 0 1065353216)).run P w = .ok (encZ (mulq false q)) w := by
  have e := run_cmul32 (P := P) w t q.1.1 q.2.1 false false (a := q.1.2) (b := q.2.2) (c := 0) (d := 1) (by omega) (by omega) (by omega) (by omega)
  rw [show sw .f32 false 0 = 0 from w0s, show sw .f32 false 1 = 1065353216 from w1s] at e
  exact e
theorem run_right (t : TypeId) {q : SZ} (h : q.1.2 ≤ 1 ∧ q.2.2 ≤ 1) : (binOp .mul t (encZ q) (.complex .f32 0 3212836864)).run P w = .ok (encZ (mulq true q)) w := by
  have e := run_cmul32 (P := P) w t q.1.1 q.2.1 false true (a := q.1.2) (b := q.2.2) (c := 0) (d := 1) (by omega) (by omega) (by omega) (by omega)
  rw [show sw .f32 false 0 = 0 from w0s, show sw .f32 true 1 = 3212836864 from wm1s] at e
  exact e
theorem run_pstep (t : TypeId) {p : Int × Int} {q : SZ} (hp : Sm p) (h : q.1.2 ≤ 1 ∧ q.2.2 ≤ 1) : (binOp .add t (encP p) (encZ q)).run P w = .ok (encP (addP p (val q))) w :=
  run_caddS (P := P) w t q.1.1 q.2.1 (by have := hp.1; omega) (by have := hp.2; omega) (by omega) (by omega)
theorem run_padd (t : TypeId) {p q : Int × Int} (hp : Sm p) (hq : Sm q) : (binOp .add t (encP p) (encP q)).run P w = .ok (encP (addP p q)) w :=
  run_cadd (P := P) w t (by have := hp.1; omega) (by have := hp.2; omega) (by have := hq.1; omega) (by have := hq.2; omega)
theorem run_psub (t : TypeId) {p q : Int × Int} (hp : Sm p) (hq : Sm q) : (binOp .sub t (encP p) (encP q)).run P w = .ok (encP (subP p q)) w :=
  run_csub (P := P) w t (by have := hp.1; omega) (by have := hp.2; omega) (by have := hq.1; omega) (by have := hq.2; omega)
end
theorem neg_bits {a : Int} (h : a.natAbs ≤ 1000000) : floatBits .sub .f32 0 (floatOfInt .f32 a) = some (floatOfInt .f32 (-a)) := by
  have := ff_sub (k := .f32) (a := 0) (b := a) (by decide) (by omega)
  rw [w0s, Int.zero_sub] at this
  exact this
end Go.Proofs.YtjjpjjoadphapaaDoor

namespace Go.Proofs.YtjjpjjoadphapaaDoor
set_option linter.unusedSimpArgs false
set_option linter.unusedVariables false

abbrev ZZ := Int × Int
/-- a digit behind a number -/
def sd (z : ZZ) (d : Int) : ZZ := (-z.1 - z.2 + d, z.1 - z.2)
def nx (z : ZZ) : ZZ := (nX z.1 z.2, nY z.1 z.2)
def ld (z : ZZ) : Int := lastD z.1 z.2
/-- what stands ahead of the last n digits -/
def qn : Nat → ZZ → ZZ
  | 0, z => z
  | n + 1, z => nx (qn n z)
/-- the powers of the base -/
def bpw : Nat → ZZ
  | 0 => (1, 0)
  | n + 1 => sd (bpw n) 0
/-- what the last n digits are -/
def rn : Nat → ZZ → ZZ
  | 0, _ => (0, 0)
  | n + 1, z => ((rn n z).1 + ld (qn n z) * (bpw n).1, (rn n z).2 + ld (qn n z) * (bpw n).2)
theorem ld_01 (z : ZZ) : ld z = 0 ∨ ld z = 1 := lastD_01 _ _
theorem nx_sd (z : ZZ) {d : Int} (hd : d = 0 ∨ d = 1) : nx (sd z d) = z := by
  obtain ⟨x, y⟩ := z
  exact Prod.ext (nX_of x y d hd) (nY_of x y d hd)
theorem ld_sd (z : ZZ) {d : Int} (hd : d = 0 ∨ d = 1) : ld (sd z d) = d := lastD_of z.1 z.2 d hd
theorem sd_nx (z : ZZ) : sd (nx z) (ld z) = z := by
  obtain ⟨x, y⟩ := z
  exact Prod.ext (back_x x y).symm (back_y x y).symm
theorem nx_zero : nx (0, 0) = (0, 0) := by decide
theorem ld_zero : ld (0, 0) = 0 := by decide
theorem sd_zero : sd (0, 0) 0 = (0, 0) := by decide
theorem qn_zero (n : Nat) : qn n (0, 0) = (0, 0) := by
  induction n with
  | zero => rfl
  | succ n ih => unfold qn; rw [ih]; exact nx_zero
theorem rn_zero (n : Nat) : rn n (0, 0) = (0, 0) := by
  induction n with
  | zero => rfl
  | succ n ih => unfold rn; rw [ih, qn_zero, ld_zero]; simp
theorem qn_nx (n : Nat) (z : ZZ) : qn n (nx z) = qn (n + 1) z := by
  induction n with
  | zero => rfl
  | succ n ih => show nx (qn n (nx z)) = nx (qn (n + 1) z); rw [ih]
theorem rn_back (n : Nat) (z : ZZ) : rn (n + 1) z = sd (rn n (nx z)) (ld z) := by
  induction n with
  | zero => simp [rn, bpw, sd, qn]
  | succ n ih =>
    have e : rn (n + 2) z = ((rn (n + 1) z).1 + ld (qn (n + 1) z) * (bpw (n + 1)).1, (rn (n + 1) z).2 + ld (qn (n + 1) z) * (bpw (n + 1)).2) := rfl
    have e2 : rn (n + 1) (nx z) = ((rn n (nx z)).1 + ld (qn n (nx z)) * (bpw n).1, (rn n (nx z)).2 + ld (qn n (nx z)) * (bpw n).2) := rfl
    rw [e, ih, e2, qn_nx]
    generalize ld (qn (n + 1) z) = e
    show ((sd (rn n (nx z)) (ld z)).1 + e * (sd (bpw n) 0).1, (sd (rn n (nx z)) (ld z)).2 + e * (sd (bpw n) 0).2) = _
    unfold sd
    refine Prod.ext ?_ ?_
    · simp only [Int.mul_add, Int.mul_sub, Int.mul_neg, Int.mul_zero]; omega
    · simp only [Int.mul_sub]; omega
theorem valF_snoc (l : List UInt8) (c : UInt8) : valF (l ++ [c]) = sd (valF l) (dg c) := by simp [valF, sd]
theorem valF_nil : valF [] = (0, 0) := rfl
theorem val_XY (l : List UInt8) : valF l = (valX l, valY l) := rfl

/-! ### the digits of a number -/
def dgz (z : ZZ) : List UInt8 := dgs z.1 z.2
theorem dgz_zero : dgz (0, 0) = [] := dgs_zero
theorem dgz_step {z : ZZ} (hz : z ≠ (0, 0)) : dgz z = bitc (ld z) :: dgz (nx z) := dgs_step (fun h => hz (Prod.ext h.1 h.2))
theorem dgz_nil {z : ZZ} (h : dgz z = []) : z = (0, 0) := by
  apply Classical.byContradiction
  intro hz
  rw [dgz_step hz] at h
  cases h
theorem dgz_drop (n : Nat) (z : ZZ) : (dgz z).drop n = dgz (qn n z) := by
  induction n with
  | zero => rfl
  | succ n ih =>
    rw [← List.drop_drop (i := 1), ih]
    show (dgz (qn n z)).drop 1 = dgz (nx (qn n z))
    by_cases hz : qn n z = (0, 0)
    · rw [hz, nx_zero, dgz_zero]; rfl
    · rw [dgz_step hz]; rfl
theorem dgz_len (n : Nat) (z : ZZ) : (dgz z).length ≤ n ↔ qn n z = (0, 0) := by
  rw [← List.drop_eq_nil_iff, dgz_drop]
  exact ⟨dgz_nil, fun h => by rw [h]; exact dgz_zero⟩
theorem val_take (n : Nat) : ∀ z : ZZ, valF ((dgz z).take n).reverse = rn n z := by
  induction n with
  | zero => intro z; rfl
  | succ n ih =>
    intro z
    by_cases hz : z = (0, 0)
    · subst hz; rw [dgz_zero, rn_zero]; rfl
    · rw [dgz_step hz, List.take_succ_cons, List.reverse_cons, valF_snoc, ih, rn_back, dg_bitc (ld_01 z)]
theorem val_dgz : ∀ (n : Nat) (z : ZZ), ms z.1 z.2 = n → valF (dgz z).reverse = z := by
  intro n
  induction n using Nat.strongRecOn with
  | ind n ih =>
    intro z hn
    by_cases hz : z = (0, 0)
    · subst hz; rw [dgz_zero]; rfl
    · have hl := ms_less (x := z.1) (y := z.2) (fun h => hz (Prod.ext h.1 h.2))
      rw [dgz_step hz, List.reverse_cons, valF_snoc, ih _ (by rw [← hn]; exact hl) (nx z) rfl, dg_bitc (ld_01 z), sd_nx]
theorem val_drop (n : Nat) (z : ZZ) : valF ((dgz z).drop n).reverse = qn n z := by
  rw [dgz_drop]; exact val_dgz _ _ rfl

/-! ### the numbers of a tile -/
def tp : Nat → Nat → ZZ
  | 0, _ => (0, 0)
  | n + 1, i => sd (tp n (i / 2)) ((i % 2 : Nat) : Int)
def ix : Nat → ZZ → Nat
  | 0, _ => 0
  | n + 1, z => 2 * ix n (nx z) + (ld z).toNat
theorem bit01 (i : Nat) : ((i % 2 : Nat) : Int) = 0 ∨ ((i % 2 : Nat) : Int) = 1 := by omega
theorem qn_tp (n : Nat) : ∀ i, qn n (tp n i) = (0, 0) := by
  induction n with
  | zero => intro i; rfl
  | succ n ih => intro i; rw [← qn_nx]; show qn n (nx (sd _ _)) = _; rw [nx_sd _ (bit01 i)]; exact ih _
theorem ix_tp (n : Nat) : ∀ i, i < 2 ^ n → ix n (tp n i) = i := by
  induction n with
  | zero => intro i h; simp at h; subst h; rfl
  | succ n ih =>
    intro i h
    show 2 * ix n (nx (sd _ _)) + (ld (sd _ _)).toNat = i
    rw [nx_sd _ (bit01 i), ld_sd _ (bit01 i), ih _ (by rw [Nat.pow_succ] at h; omega)]
    omega
theorem tp_ix (n : Nat) : ∀ z, qn n z = (0, 0) → tp n (ix n z) = z := by
  induction n with
  | zero => intro z h; exact h.symm
  | succ n ih =>
    intro z h
    rw [← qn_nx] at h
    show sd (tp n ((2 * ix n (nx z) + (ld z).toNat) / 2)) (((2 * ix n (nx z) + (ld z).toNat) % 2 : Nat) : Int) = z
    have h1 : (2 * ix n (nx z) + (ld z).toNat) / 2 = ix n (nx z) := by rcases ld_01 z with e | e <;> rw [e] <;> simp <;> omega
    have h2 : (((2 * ix n (nx z) + (ld z).toNat) % 2 : Nat) : Int) = ld z := by rcases ld_01 z with e | e <;> rw [e] <;> simp
    rw [h1, h2, ih _ h, sd_nx]
theorem ix_lt (n : Nat) : ∀ z, ix n z < 2 ^ n := by
  induction n with
  | zero => intro z; simp [ix]
  | succ n ih =>
    intro z
    have := ih (nx z)
    rw [Nat.pow_succ]
    show 2 * ix n (nx z) + (ld z).toNat < _
    rcases ld_01 z with e | e <;> rw [e] <;> simp <;> omega
theorem tp_inj {n i j : Nat} (hi : i < 2 ^ n) (hj : j < 2 ^ n) (h : tp n i = tp n j) : i = j := by
  rw [← ix_tp n i hi, ← ix_tp n j hj, h]
theorem idxF_nn (l : List UInt8) (h : ∀ c ∈ l, bitC c = true) : 0 ≤ idxF l := (idx_le l h).1
theorem val_tp : ∀ (l : List UInt8), (∀ c ∈ l, bitC c = true) → ∀ n, idxF l < (2 ^ n : Nat) → valF l = tp n (idxF l).toNat := by
  intro l
  induction l using rev_ind with
  | h0 =>
    intro _ n _
    have : tp n 0 = (0, 0) := by
      induction n with
      | zero => rfl
      | succ n ih => show sd (tp n 0) 0 = _; rw [ih (by show (0 : Int) < ((2 ^ n : Nat) : Int); have := Nat.two_pow_pos n; omega)]; rfl
    exact this.symm
  | h1 l c ih =>
    intro hb n hn
    have hbl : ∀ d ∈ l, bitC d = true := fun d hd => hb d (by simp [hd])
    have h0 := idxF_nn l hbl
    have hc := dg_bit (hb c (by simp))
    rw [idxF_snoc] at hn ⊢
    rw [valF_snoc]
    cases n with
    | zero =>
      simp at hn
      have e1 : idxF l = 0 := by omega
      have e2 : dg c = 0 := by omega
      have h1 := ih hbl 0 (by rw [e1]; decide)
      rw [h1, e2]; rfl
    | succ n =>
      have hn2 : idxF l < (2 ^ n : Nat) := by
        have : ((2 ^ (n + 1) : Nat) : Int) = 2 * ((2 ^ n : Nat) : Int) := by rw [Nat.pow_succ]; omega
        rw [this] at hn; omega
      rw [ih hbl n hn2]
      show _ = sd (tp n ((2 * idxF l + dg c).toNat / 2)) _
      rw [show (2 * idxF l + dg c).toNat / 2 = (idxF l).toNat by omega, show (((2 * idxF l + dg c).toNat % 2 : Nat) : Int) = dg c by omega]
def allT : Nat → List ZZ
  | 0 => [(0, 0)]
  | n + 1 => allT n ++ (allT n).map (fun z => addP z (bpw n))
theorem allT_all : ∀ n ∈ List.range 9, allT n = (List.range (2 ^ n)).map (tp n) := by decide +kernel
theorem allT_tp {n : Nat} (h : n ≤ 8) : allT n = (List.range (2 ^ n)).map (tp n) := allT_all n (by simp; omega)
theorem allT_len (n : Nat) : (allT n).length = 2 ^ n := by
  induction n with
  | zero => rfl
  | succ n ih => simp [allT, ih, Nat.pow_succ]; omega
theorem tp_all : ∀ n ∈ List.range 9, ∀ i ∈ List.range (2 ^ n), (tp n i).1.natAbs ≤ 200 ∧ (tp n i).2.natAbs ≤ 200 := by decide +kernel
theorem tp_in {n i : Nat} (h : n ≤ 8) (hi : i < 2 ^ n) : (tp n i).1.natAbs ≤ 200 ∧ (tp n i).2.natAbs ≤ 200 := tp_all n (by simp; omega) i (by simp; exact hi)
theorem bpw_all : ∀ n ∈ List.range 14, (bpw n).1.natAbs ≤ 4096 ∧ (bpw n).2.natAbs ≤ 4096 := by decide +kernel
theorem bpw_in {n : Nat} (h : n ≤ 13) : (bpw n).1.natAbs ≤ 4096 ∧ (bpw n).2.natAbs ≤ 4096 := bpw_all n (by simp; omega)
theorem rn_in (z : ZZ) : ∀ n, n ≤ 13 → (rn n z).1.natAbs ≤ 4096 * n ∧ (rn n z).2.natAbs ≤ 4096 * n := by
  intro n
  induction n with
  | zero => intro _; simp [rn]
  | succ n ih =>
    intro h
    have h1 := ih (by omega)
    have h2 := bpw_in (n := n) (by omega)
    unfold rn
    rcases ld_01 (qn n z) with e | e <;> rw [e] <;> simp <;> omega
theorem val_one (k : Nat) : valF (49 :: List.replicate k 48) = bpw k := by
  induction k with
  | zero => decide
  | succ k ih =>
    rw [List.replicate_succ', ← List.cons_append, valF_snoc, ih]; rfl
theorem qn_in {k : Int} {z : ZZ} (h1 : -k ≤ z.1 ∧ z.1 ≤ k) (h2 : -k ≤ z.2 ∧ z.2 ≤ k) (n : Nat) : (-k ≤ (qn n z).1 ∧ (qn n z).1 ≤ k) ∧ (-k ≤ (qn n z).2 ∧ (qn n z).2 ≤ k) := by
  induction n with
  | zero => exact ⟨h1, h2⟩
  | succ n ih => exact next_in ih.1 ih.2
end Go.Proofs.YtjjpjjoadphapaaDoor

namespace Go.Proofs.YtjjpjjoadphapaaDoor
set_option linter.unusedSimpArgs false
set_option linter.unusedVariables false
open Go.RowKit

/-- a numeral: its digits, not more than 50, and its number -/
def Num (l : List UInt8) (n : Nat) : Prop := (∀ c ∈ l, bitC c = true) ∧ idxF l = n ∧ l.length ≤ 50
theorem idx_big : ∀ (l : List UInt8), (∀ c ∈ l, bitC c = true) → l.head? = some 49 → (2 ^ l.length : Nat) ≤ 2 * idxF l := by
  intro l
  induction l using rev_ind with
  | h0 => intro _ h; cases h
  | h1 l c ih =>
    intro hb hh
    have hc := dg_bit (hb c (by simp))
    rw [idxF_snoc, List.length_append, List.length_singleton, Nat.pow_succ]
    cases l with
    | nil =>
      simp only [List.nil_append, List.head?_cons, Option.some.injEq] at hh
      subst hh
      decide
    | cons a r =>
      have := ih (fun d hd => hb d (List.mem_append_left _ hd)) (by simpa using hh)
      have e : (((2 ^ (a :: r).length * 2 : Nat)) : Int) = 2 * ((2 ^ (a :: r).length : Nat) : Int) := by omega
      rw [e]; omega
theorem num_of {l : List UInt8} {n : Nat} (h : Good l n) (hn : n ≤ 1000) : Num l n := by
  obtain ⟨b, i, g⟩ := h
  refine ⟨b, i, ?_⟩
  have h1 := idx_big l b g
  rw [i] at h1
  apply Classical.byContradiction
  intro hl
  have h2 : 2 ^ 11 ≤ 2 ^ l.length := Nat.pow_le_pow_right (by omega) (by omega)
  have h3 : (2 : Nat) ^ 11 = 2048 := by decide
  omega
set_option maxRecDepth 100000 in
set_option maxHeartbeats 8000000 in
theorem formatBits0_c (w : World) (hT : Two w) (h6 : 2 < w.heap.size) : Calls Tryd.prog 56 #[.slice none 0 0, .int .u64 0, .int .i64 2, .bool false, .bool false] w fun e w' => e = .returned (.tuple #[.slice none 0 0, .string (bs [48])]) ∧ Below w.heap.size w w' := by
  have HT := Lib.hid hT
  clear hT
  go_enter Tryd.func56, Tryd.ntmps56
  go_wp2_with (rw [zero65])
  generalize hW : World.alloc _ _ = W0
  have hO := Lib.hid (show Open w.heap.size 65 W0 by rw [← hW]; exact open_alloc w _ _ 65 rfl)
  have hB0 := Lib.hid (show Below w.heap.size w W0 by rw [← hW]; (first | ((repeat' with_reducible first | assumption | exact Below.refl _ _ | apply Blw.alloc | apply Blw.drew | apply Blw.drewN | (refine Blw.after ?_ (by assumption)) | (refine Blw.set ?_ (by first | (dsimp only; omega) | (simp; omega)) _)); done) | (repeat' (first | assumption | exact Below.refl _ _ | apply Blw.alloc | apply Blw.drew | apply Blw.drewN | (refine Blw.after ?_ (by assumption)) | (refine Blw.set ?_ (by first | (dsimp only; omega) | (simp; done) | (simp; omega)) _)))))
  have HT0 := Lib.hid (HT.out.keep h6 hB0.out)
  clear hW
  go_wp2_with (first | (go_at_call 74; refine (isPow_c _).mono ?_; rintro e w' ⟨rfl, rfl⟩) | (go_at_call 75; refine (tz_c _ HT0.out).mono ?_; rintro e w' ⟨rfl, rfl⟩))
  go_loopg [1, 13] 60 (fun m u i wr => u = .int .u64 0 ∧ i = .int .i64 65 ∧ wr = W0)
  case atStart => exact ⟨rfl, rfl, rfl⟩
  case round =>
    obtain ⟨rfl, rfl, rfl⟩ := hrel
    obtain ⟨⟨u0, c0⟩, f0⟩ := hO.out 64 (by omega)
    have HCE := Lib.hid (fun x (hx : Value.int .u8 x = encB (bitc (0 : Nat))) => FbRel.cells (n := 0) (k := 0) (w := w) (wr := wr) (d := 0) (x := x) (fun j hj => by omega) hO.out (by omega) (by decide) hx)
    have hsl := fun W => slice_c w.heap.size 0 W (by omega)
    have hcv := fun W hW => conv_c w.heap.size 0 0 W (by omega) hW
    rw [show bl 0 0 = [48] by decide] at hcv
    go_wp2_with (rw [hcv]; rotate_left; exact HCE.out _ rfl)
    go_ret2
    exact ⟨rfl, by (first | ((repeat' with_reducible first | assumption | exact Below.refl _ _ | apply Blw.alloc | apply Blw.drew | apply Blw.drewN | (refine Blw.after ?_ (by assumption)) | (refine Blw.set ?_ (by first | (dsimp only; omega) | (simp; omega)) _)); done) | (repeat' (first | assumption | exact Below.refl _ _ | apply Blw.alloc | apply Blw.drew | apply Blw.drewN | (refine Blw.after ?_ (by assumption)) | (refine Blw.set ?_ (by first | (dsimp only; omega) | (simp; done) | (simp; omega)) _))))⟩
def NumPost (n : Nat) (w : World) (e : Ending) (w' : World) : Prop := ∃ l, e = .returned (.string (bs l)) ∧ Num l n ∧ Below w.heap.size w w'
set_option maxRecDepth 100000 in
theorem fmtIn0_c (w : World) (hT : Two w) (h6 : 2 < w.heap.size) : Calls Tryd.prog 40 #[.int .i64 0, .int .i64 2] w (NumPost 0 w) := by
  have HT := Lib.hid hT
  clear hT
  go_enter Tryd.func40, Tryd.ntmps40
  go_wp2_with (go_at_call 56; refine (formatBits0_c _ HT.out h6).mono ?_; rintro e w' ⟨rfl, hb⟩)
  go_ret
  exact ⟨[48], rfl, ⟨by decide, by decide, by decide⟩, hb⟩
theorem num_c (n : Nat) (w : World) (hn : n ≤ 1000) (hT : Two w) (h6 : 2 < w.heap.size) : Calls Tryd.prog 23 #[.int .i64 n, .int .i64 2] w (NumPost n w) := by
  by_cases h0 : n = 0
  · subst h0
    have HT := Lib.hid hT
    clear hT
    go_enter Tryd.func23, Tryd.ntmps23
    go_wp2_with (go_at_call 40; refine (fmtIn0_c _ HT.out h6).mono ?_; rintro e w' ⟨l, rfl, hg, hb⟩; have HG := Lib.hid hg; clear hg)
    go_ret
    exact ⟨l, rfl, HG.out, hb⟩
  · refine (fmt_c n w (by omega) (by omega) hT h6).mono ?_
    rintro e w' ⟨l, rfl, hg, hb⟩
    exact ⟨l, rfl, num_of hg hn, hb⟩
end Go.Proofs.YtjjpjjoadphapaaDoor

namespace Go.Proofs.YtjjpjjoadphapaaDoor
set_option linter.unusedSimpArgs false
set_option linter.unusedVariables false
open Go.RowKit

theorem convP_c {t u : TypeId} {k l : FloatKind} {a b c d : Nat} (ht : Tryd.prog.underlying t = some (.complex k)) (hu : Tryd.prog.underlying u = some (.complex l)) (h1 : floatToFloatBits k a l = some c) (h2 : floatToFloatBits k b l = some d) (w : World) :
    (convert t u (.complex k a b)).run Tryd.prog w = .ok (.complex l c d) w :=
  run_convert_complex (P := Tryd.prog) w t u k l a b c d (by rw [ht]; rfl) hu (by simp [cConvBits, h1, h2])
theorem sum_c {t : TypeId} {o : BinOp} {k : FloatKind} {a b c d r i : Nat} (ho : o = .add ∨ o = .sub) (h1 : floatBits o k a c = some r) (h2 : floatBits o k b d = some i) (w : World) :
    (binOp o t (.complex k a b) (.complex k c d)).run Tryd.prog w = .ok (.complex k r i) w :=
  run_complex_sum (P := Tryd.prog) w o ho t k a b c d r i (by simp [cSumBits, h1, h2])
theorem conv_same (k : FloatKind) (a : Nat) : floatToFloatBits k a k = some a := by simp [floatToFloatBits]
/-! ### powers -/
def pickN (b : Bool) (x : Nat) : Nat := if b then x else 0
abbrev powV (k : FloatKind) (n : Int) : Value := .tuple #[.complex k (pickN (inR 0 320 n) (pw k n.toNat).1) (pickN (inR 0 320 n) (pw k n.toNat).2), .bool (inR 0 320 n)]
theorem powV_no {k : FloatKind} {n : Int} (h : inR 0 320 n = false) : powV k n = .tuple #[.complex k 0 0, .bool false] := by unfold powV pickN; rw [h]; rfl
theorem powV_yes {k : FloatKind} {n : Int} (h : inR 0 320 n = true) : powV k n = .tuple #[.complex k (pw k n.toNat).1 (pw k n.toNat).2, .bool true] := by unfold powV pickN; rw [h]; rfl
def PwRel (k : FloatKind) (w : World) (t : Nat) (m : Nat) (z c : Value) (wr : World) : Prop := ∃ j : Nat, j + m = t ∧ wr = w ∧ c = .int .i64 j ∧ z = .complex k (pw k j).1 (pw k j).2
end Go.Proofs.YtjjpjjoadphapaaDoor

namespace Go.Proofs.YtjjpjjoadphapaaDoor
set_option linter.unusedSimpArgs false
set_option linter.unusedVariables false
open Go.RowKit
/-- the place of the first point, or the length -/
def dotL : List UInt8 → Nat
  | [] => 0
  | c :: l => if c == 46 then 0 else dotL l + 1
theorem dotL_le : ∀ l, dotL l ≤ l.length
  | [] => Nat.le_refl _
  | c :: l => by
    unfold dotL
    split
    · omega
    · have := dotL_le l; simp only [List.length_cons]; omega
theorem dotL_get : ∀ {l : List UInt8}, dotL l < l.length → l[dotL l]? = some 46
  | [], h => by simp [dotL] at h
  | c :: l, h => by
    unfold dotL at h ⊢
    split
    · rename_i hc
      simp only [List.getElem?_cons_zero, Option.some.injEq]
      exact beq_iff_eq.1 hc
    · rename_i hc
      rw [if_neg hc] at h
      simp only [List.length_cons] at h
      rw [List.getElem?_cons_succ]
      exact dotL_get (by omega)
theorem dotL_before : ∀ {l : List UInt8} {k : Nat}, k < dotL l → l[k]? ≠ some 46
  | [], k, h => by simp [dotL] at h
  | c :: l, k, h => by
    unfold dotL at h
    split at h
    · omega
    · rename_i hc
      cases k with
      | zero => simp only [List.getElem?_cons_zero, ne_eq, Option.some.injEq]; intro e; apply hc; rw [e]; rfl
      | succ k => rw [List.getElem?_cons_succ]; exact dotL_before (by omega)
theorem indexByte_dot : ∀ l : List UInt8, Lib.indexByte l 46 = if dotL l < l.length then (dotL l : Int) else -1
  | [] => rfl
  | c :: l => by
    have hl : dotL (c :: l) = if c == 46 then 0 else dotL l + 1 := rfl
    have hi : Lib.indexByte (c :: l) 46 = if c == 46 then 0 else if Lib.indexByte l 46 == -1 then -1 else Lib.indexByte l 46 + 1 := rfl
    rw [hl, hi, indexByte_dot l, List.length_cons]
    by_cases hc : (c == 46) = true
    · rw [if_pos hc, if_pos hc, if_pos (by omega)]; rfl
    · rw [if_neg hc, if_neg hc]
      by_cases h : dotL l < l.length
      · rw [if_pos h, if_pos (show dotL l + 1 < l.length + 1 by omega), if_neg (by simp)]; omega
      · rw [if_neg h, if_neg (show ¬ dotL l + 1 < l.length + 1 by omega), if_pos (by decide)]
def atP (s : ByteArray) : Nat := dotL (toL s)
theorem atP_le (s : ByteArray) : atP s ≤ s.size := by have := dotL_le (toL s); rwa [toL_len] at this
theorem atP_dot {s : ByteArray} (h : atP s < s.size) : s[atP s].toNat = 46 := by
  have := dotL_get (l := toL s) (by rw [toL_len]; exact h)
  have g := toL_get s (atP s) h
  have e : some s[atP s] = some 46 := g.symm.trans this
  rw [Option.some.injEq] at e
  rw [e]; rfl
theorem atP_before {s : ByteArray} {k : Nat} (h : k < atP s) : s[k]'(by have := atP_le s; omega) ≠ 46 := by
  intro e
  have g := toL_get s k (by have := atP_le s; omega)
  rw [e] at g
  exact dotL_before (l := toL s) h g
theorem atP_lt {s : ByteArray} {k : Nat} (hk : k ≤ atP s) (h : k < s.size) (h46 : s[k].toNat ≠ 46) : k + 1 ≤ atP s := by
  rcases Nat.lt_or_ge k (atP s) with c | c
  · exact c
  · have e : atP s = k := by omega
    have := atP_dot (s := s) (by omega)
    simp only [e] at this
    exact absurd this h46
theorem atP_at {s : ByteArray} {k : Nat} (hk : k ≤ atP s) (h : k < s.size) (h46 : s[k].toNat = 46) : atP s = k := by
  rcases Nat.lt_or_ge k (atP s) with c | c
  · exact absurd (UInt8.toNat_inj.1 (by rw [h46]; rfl)) (atP_before c)
  · omega
theorem index_dot (s : ByteArray) : Lib.indexByte s.data.toList 46 = if atP s < s.size then (atP s : Int) else -1 := by
  have := indexByte_dot (toL s)
  rw [toL_len] at this
  exact this
def hdS (s : ByteArray) : ByteArray := s.extract 0 (atP s)
def tlS (s : ByteArray) : ByteArray := s.extract (atP s + 1) s.size
theorem toL_extract (s : ByteArray) (i j : Nat) : toL (s.extract i j) = ((toL s).take j).drop i := by
  show (s.extract i j).data.toList = _
  rw [ByteArray.data_extract, Array.toList_extract, List.extract_eq_take_drop, List.drop_take]
theorem hdS_size (s : ByteArray) : (hdS s).size = atP s := by
  have h := congrArg List.length (toL_extract s 0 (atP s))
  rw [toL_len, List.drop_zero, List.length_take, toL_len] at h
  have := atP_le s
  show (s.extract 0 (atP s)).size = _
  omega
theorem tlS_size (s : ByteArray) : (tlS s).size = s.size - (atP s + 1) := by
  have h := congrArg List.length (toL_extract s (atP s + 1) s.size)
  rw [toL_len, List.length_drop, List.length_take, toL_len] at h
  show (s.extract (atP s + 1) s.size).size = _
  omega
def dotB (s : ByteArray) : Bool := decide (atP s < s.size) && onlyB (tlS s)
def cutB (s : ByteArray) : Bool := dotB s && (vldB (hdS s) && decide ((tlS s).size ≤ 320))
def pickS (b : Bool) (s : ByteArray) : ByteArray := if b then s else ⟨#[]⟩
abbrev cutS (s : ByteArray) : Value := .tuple #[.string (pickS (dotB s) (hdS s)), .string (pickS (dotB s) (tlS s)), .bool (cutB s)]
abbrev cutI (s : ByteArray) : Value := .tuple #[.string (pickS (cutB s) (hdS s)), .string (pickS (cutB s) (tlS s)), .bool (cutB s)]
theorem cutB_dot {s : ByteArray} (h : cutB s = true) : dotB s = true := by unfold cutB at h; rw [Bool.and_eq_true] at h; exact h.1
theorem cutB_facts {s : ByteArray} (h : cutB s = true) : atP s < s.size ∧ onlyB (tlS s) = true ∧ vldB (hdS s) = true ∧ (tlS s).size ≤ 320 := by
  simp only [cutB, dotB, Bool.and_eq_true, decide_eq_true_eq] at h
  exact ⟨h.1.1, h.1.2, h.2.1, h.2.2⟩
theorem cutS_yes {s : ByteArray} (h : cutB s = true) : cutS s = .tuple #[.string (hdS s), .string (tlS s), .bool true] := by
  unfold cutS pickS; rw [h, cutB_dot h]; rfl
theorem cutI_yes {s : ByteArray} (h : cutB s = true) : cutI s = .tuple #[.string (hdS s), .string (tlS s), .bool true] := by
  unfold cutI pickS; rw [h]; rfl
theorem cutI_no {s : ByteArray} (h : cutB s = false) : cutI s = .tuple #[.string ⟨#[]⟩, .string ⟨#[]⟩, .bool false] := by
  unfold cutI pickS; rw [h]; rfl
end Go.Proofs.YtjjpjjoadphapaaDoor

namespace Go.Proofs.YtjjpjjoadphapaaDoor
set_option linter.unusedSimpArgs false
set_option linter.unusedVariables false
open Go.RowKit

def ptB (s : ByteArray) : Bool := cutB s && inB 1000000 (valX (toL (hdS s))) (valY (toL (hdS s)))
def ptR (k : FloatKind) (s : ByteArray) : Nat := whR k (pv k (toL (tlS s))) (valX (toL (hdS s)))
def ptI (k : FloatKind) (s : ByteArray) : Nat := whI k (pv k (toL (tlS s))) (valY (toL (hdS s)))
abbrev ptV (k : FloatKind) (s : ByteArray) : Value := .tuple #[.complex k (pickN (ptB s) (ptR k s)) (pickN (ptB s) (ptI k s)), .bool (ptB s)]
theorem ptV_yes {k : FloatKind} {s : ByteArray} (h : cutB s = true) (hi : inB 1000000 (valX (toL (hdS s))) (valY (toL (hdS s))) = true) :
    ptV k s = .tuple #[.complex k (whR k (pv k (toL (tlS s))) (valX (toL (hdS s)))) (whI k (pv k (toL (tlS s))) (valY (toL (hdS s)))), .bool true] := by
  have : ptB s = true := by unfold ptB; rw [h, hi]; rfl
  unfold ptV pickN; rw [this]; rfl
theorem ptV_no {k : FloatKind} {s : ByteArray} (h : cutB s = false ∨ inB 1000000 (valX (toL (hdS s))) (valY (toL (hdS s))) = false) :
    ptV k s = .tuple #[.complex k 0 0, .bool false] := by
  have : ptB s = false := by unfold ptB; rcases h with h | h <;> rw [h] <;> simp
  unfold ptV pickN; rw [this]; rfl
theorem bitW_int (k : FloatKind) {c : UInt8} (h : c.toNat = 48 ∨ c.toNat = 49) : bitW k c = floatOfInt k ((c.toNat : Int) - 48) := by
  have e : c = 48 ∨ c = 49 := by
    rcases h with h | h
    · exact .inl (UInt8.toNat_inj.1 (by rw [h]; rfl))
    · exact .inr (UInt8.toNat_inj.1 (by rw [h]; rfl))
  rcases e with rfl | rfl
  · exact (zero_word k).symm
  · exact (one_word k).symm
theorem drop_consB (T : ByteArray) (i : Nat) (h : i < T.size) : (toL T).drop i = T[i] :: (toL T).drop (i + 1) := by
  have h' : i < (toL T).length := by rw [toL_len]; exact h
  rw [List.drop_eq_getElem_cons h']
  congr 1
/-- what one place asks of the floats -/
theorem place_ops (k : FloatKind) {T : ByteArray} (hb : ∀ c ∈ toL T, bitC c = true) (hs : T.size ≤ 320) {i : Nat} (h : i < T.size) :
    ∃ r j, floatBits .add k (pv k ((toL T).drop (i + 1))).1 (floatOfInt k ((T[i].toNat : Int) - 48)) = some r ∧ floatBits .add k (pv k ((toL T).drop (i + 1))).2 0 = some j ∧
      Div k r j (pv k ((toL T).drop i)).1 (pv k ((toL T).drop i)).2 := by
  have hl : ((toL T).drop (i + 1)).length ≤ 320 := by rw [List.length_drop, toL_len]; omega
  obtain ⟨h1, h2, h3, -⟩ := pv_step (k := k) (c := T[i]) (B := ((toL T).drop (i + 1)).length) (by omega) (pv_pt k _ (by omega))
  have hbit : T[i].toNat = 48 ∨ T[i].toNat = 49 := (bitC_iff _).1 (hb _ (List.mem_of_getElem? (toL_get T i h)))
  rw [bitW_int k hbit] at h1
  rw [drop_consB T i h]
  exact ⟨_, _, h1, h2, h3⟩
theorem last_ops (k : FloatKind) {T : ByteArray} (hs : T.size ≤ 320) {X Y : Int} (hX : -1000000 ≤ X ∧ X ≤ 1000000) (hY : -1000000 ≤ Y ∧ Y ≤ 1000000) :
    floatBits .add k (pv k (toL T)).1 (floatOfInt k X) = some (whR k (pv k (toL T)) X) ∧ floatBits .add k (pv k (toL T)).2 (floatOfInt k Y) = some (whI k (pv k (toL T)) Y) ∧
    Pt k.format (un k) 1001000 (whR k (pv k (toL T)) X) (whI k (pv k (toL T)) Y) :=
  wh_ops ((pv_pt k (toL T) (by rw [toL_len]; omega)).mono (by rw [toL_len]; omega)) hX hY
def PtRel (k : FloatKind) (T : ByteArray) (W : World) (m : Nat) (z i : Value) (wr : World) : Prop :=
  m ≤ T.size ∧ i = .int .i64 ((m : Int) - 1) ∧ wr = W ∧ z = .complex k (pv k ((toL T).drop m)).1 (pv k ((toL T).drop m)).2
def PtRelI (k : FloatKind) (T : ByteArray) (w : World) (b : Nat) (X Y : Int) (m : Nat) (z i : Value) (wr : World) : Prop :=
  m ≤ T.size ∧ i = .int .i64 ((m : Int) - 1) ∧ Below w.heap.size w wr ∧ wr.cell? ⟨b, 0, none⟩ = some (.int .i64 X) ∧ wr.cell? ⟨b, 1, none⟩ = some (.int .i64 Y) ∧ z = .complex k (pv k ((toL T).drop m)).1 (pv k ((toL T).drop m)).2
theorem drop_end (T : ByteArray) : (toL T).drop T.size = [] := List.drop_of_length_le (by rw [toL_len]; exact Nat.le_refl _)
end Go.Proofs.YtjjpjjoadphapaaDoor

namespace Go.Proofs.YtjjpjjoadphapaaDoor
set_option linter.unusedSimpArgs false
set_option linter.unusedVariables false
open Go.RowKit

theorem toL_app (a b : ByteArray) : toL (a ++ b) = toL a ++ toL b := by
  show (a ++ b).data.toList = _
  rw [ByteArray.data_append, Array.toList_append]
theorem toL_hd (s : ByteArray) : toL (hdS s) = (toL s).take (atP s) := by
  show toL (s.extract 0 (atP s)) = _
  rw [toL_extract, List.drop_zero]
theorem toL_tl (s : ByteArray) : toL (tlS s) = (toL s).drop (atP s + 1) := by
  show toL (s.extract (atP s + 1) s.size) = _
  rw [toL_extract, List.take_of_length_le (by rw [toL_len]; exact Nat.le_refl _)]
theorem split_at {s : ByteArray} (h : atP s < s.size) : toL s = toL (hdS s) ++ 46 :: toL (tlS s) := by
  have hl : atP s < (toL s).length := by rw [toL_len]; exact h
  have hg : (toL s)[atP s]? = some 46 := dotL_get hl
  rw [toL_hd, toL_tl]
  conv => lhs; rw [← List.take_append_drop (atP s) (toL s)]
  congr 1
  rw [List.drop_eq_getElem_cons hl]
  rw [List.getElem?_eq_getElem hl, Option.some.injEq] at hg
  rw [hg]
theorem nodot (s : ByteArray) : ∀ c ∈ toL (hdS s), c ≠ 46 := by
  intro c hc e
  subst e
  rw [toL_hd] at hc
  obtain ⟨i, hi, he⟩ := List.mem_iff_getElem.1 hc
  rw [List.length_take] at hi
  have : (toL s)[i]? = some 46 := by
    rw [List.getElem_take] at he
    rw [List.getElem?_eq_getElem (by omega), he]
  exact dotL_before (l := toL s) (by show i < atP s; omega) this
theorem dotL_app : ∀ {a : List UInt8} (r : List UInt8), (∀ c ∈ a, c ≠ 46) → dotL (a ++ 46 :: r) = a.length
  | [], r, _ => rfl
  | c :: a, r, h => by
    have hc : ¬ (c == 46) = true := by simpa using h c (by simp)
    show (if c == 46 then 0 else dotL (a ++ 46 :: r) + 1) = _
    rw [if_neg hc, dotL_app r (fun c hc => h c (by simp [hc]))]; rfl
theorem cut_of {s : ByteArray} {a r : List UInt8} (h : toL s = a ++ 46 :: r) (ha : ∀ c ∈ a, c ≠ 46) : atP s = a.length ∧ atP s < s.size ∧ toL (hdS s) = a ∧ toL (tlS s) = r := by
  have e : atP s = a.length := by unfold atP; rw [h]; exact dotL_app r ha
  have hs : s.size = a.length + (r.length + 1) := by rw [← toL_len, h, List.length_append, List.length_cons]
  refine ⟨e, by omega, ?_, ?_⟩
  · rw [toL_hd, e, h, List.take_left]
  · rw [toL_tl, e, h]
    have : (a ++ 46 :: r).drop (a.length + 1) = r := by
      rw [← List.drop_drop, List.drop_left]; rfl
    exact this
theorem onlyB_iff (s : ByteArray) : onlyB s = true ↔ ∀ c ∈ toL s, bitC c = true := ⟨onlyB_bits, onlyB_good⟩
/-- what is a number text, told by its lists -/
theorem cutB_iff {s : ByteArray} {a r : List UInt8} (h : toL s = a ++ 46 :: r) (ha : ∀ c ∈ a, c ≠ 46) : cutB s = true ↔ (∀ c ∈ r, bitC c = true) ∧ vldL a = true ∧ r.length ≤ 320 := by
  obtain ⟨h1, h2, h3, h4⟩ := cut_of h ha
  have ht : (tlS s).size = r.length := by rw [← toL_len, h4]
  unfold cutB dotB
  simp only [Bool.and_eq_true, decide_eq_true_eq]
  rw [onlyB_iff, h4, ht]
  unfold vldB
  rw [h3]
  exact ⟨fun h => ⟨h.1.2, h.2.1, h.2.2⟩, fun h => ⟨⟨h2, h.1⟩, h.2.1, h.2.2⟩⟩
theorem hd_same {s t : ByteArray} {a r q : List UInt8} (hs : toL s = a ++ 46 :: r) (ht : toL t = a ++ 46 :: q) (ha : ∀ c ∈ a, c ≠ 46) : hdS t = hdS s := by
  apply toL_ext
  rw [(cut_of hs ha).2.2.1, (cut_of ht ha).2.2.1]
/-- two number texts with the same digits ahead of the point -/
theorem ptB_same {s t : ByteArray} (h : hdS t = hdS s) (hs : cutB s = true) (ht : cutB t = true) : ptB t = ptB s := by
  unfold ptB; rw [h, hs, ht]
theorem pv_nought (k : FloatKind) : pv k [48] = (0, 0) := by cases k <;> decide +kernel
theorem pv_snoc0 (k : FloatKind) : ∀ l : List UInt8, pv k (l ++ [48]) = pv k l
  | [] => pv_nought k
  | c :: l => by
    have ih := pv_snoc0 k l
    rw [List.cons_append]
    simp only [pv, ih]
theorem pt_fin' (k : FloatKind) {s : ByteArray} (h : ptB s = true) : Pt k.format (un k) 1001000 (ptR k s) (ptI k s) := by
  unfold ptB at h
  rw [Bool.and_eq_true] at h
  obtain ⟨h, hi⟩ := h
  obtain ⟨x1, x2, y1, y2⟩ := inB_le hi
  exact (last_ops k (cutB_facts h).2.2.2 ⟨x1, x2⟩ ⟨y1, y2⟩).2.2
end Go.Proofs.YtjjpjjoadphapaaDoor

namespace Go.Proofs.YtjjpjjoadphapaaDoor
set_option linter.unusedSimpArgs false
set_option linter.unusedVariables false
open Go.RowKit Ieee

def tb (p : Int × Int) : Int × Int := (-p.1 - p.2, p.1 - p.2)
def tbI : Nat → Int × Int → Int × Int
  | 0, p => p
  | n + 1, p => tb (tbI n p)
/-- two words that stand for two values -/
def Vl2 (k : FloatKind) (x y : Nat) (p : Int × Int) : Prop := Vl k x p.1 ∧ Vl k y p.2
def Okv2 (k : FloatKind) (p : Int × Int) : Prop := Okv k p.1 ∧ Okv k p.2
def TbPost (p : Int × Int) (w : World) (e : Ending) (w' : World) : Prop := ∃ r i, e = .returned (.complex .f64 r i) ∧ Vl2 .f64 r i p ∧ r < 18446744073709551616 ∧ w = w'
def TbRel (k : Nat) (p : Int × Int) (w : World) (m : Nat) (z c : Value) (wr : World) : Prop :=
  ∃ j r i : Nat, j + m = k ∧ c = .int .i64 j ∧ wr = w ∧ z = .complex .f64 r i ∧ Vl2 .f64 r i (tbI j p) ∧ r < 18446744073709551616
theorem tb_step {r i : Nat} {p : Int × Int} (h : Vl2 .f64 r i p) (hr : r < 18446744073709551616) (ho : Okv2 .f64 (tb p)) :
    ∃ a b, floatBits .sub .f64 (Op.negFloat .f64 r) i = some a ∧ floatBits .sub .f64 r i = some b ∧ Vl2 .f64 a b (tb p) ∧ a < 18446744073709551616 := by
  obtain ⟨a, a1, a2⟩ := vl_sub (vl_neg h.1 hr) h.2 ho.1
  obtain ⟨b, b1, b2⟩ := vl_sub h.1 h.2 ho.2
  exact ⟨a, b, a1, b1, ⟨a2, b2⟩, Format.sub_lt _ a1⟩
end Go.Proofs.YtjjpjjoadphapaaDoor

namespace Go.Proofs.YtjjpjjoadphapaaDoor
set_option linter.unusedSimpArgs false
set_option linter.unusedVariables false
open Ieee

/-- the unit of a number with n places of twos -/
def uu (n : Nat) : Nat := un .f64 - n
theorem uu_split {n : Nat} (hn : n ≤ 60) : 2 ^ n * 2 ^ uu n = 2 ^ un .f64 := by
  rw [← Nat.pow_add, show n + uu n = un .f64 by unfold uu; have : un .f64 = 1074 := rfl; omega]
theorem uu_succ {n : Nat} (hn : n < 60) : uu n = uu (n + 1) + 1 := by unfold uu; have : un .f64 = 1074 := rfl; omega
theorem uu_zero : uu 0 = un .f64 := rfl
theorem natAbs_pow (m : Int) (e : Nat) : (m * 2 ^ e).natAbs = m.natAbs * 2 ^ e := by rw [Int.natAbs_mul, Int.natAbs_pow]; rfl
theorem okn {m : Int} {n : Nat} (hn : n ≤ 60) (h1 : m.natAbs < 2 ^ 53) (h2 : m.natAbs ≤ 2000000 * 2 ^ n) : Okv .f64 (m * 2 ^ uu n) := by
  refine ⟨?_, ?_⟩
  · rw [natAbs_pow]; exact rep_scale (rep_small h1) _
  · rw [natAbs_pow, ← uu_split hn, ← Nat.mul_assoc]; exact Nat.mul_le_mul_right _ h2
theorem sg_of {s : Bool} {V : Nat} {m : Int} {e : Nat} (h : sg s V = m * 2 ^ e) : V = m.natAbs * 2 ^ e := by
  have := congrArg Int.natAbs h
  rwa [sg_abs, natAbs_pow] at this
theorem vl_half {x : Nat} {m : Int} {e : Nat} (hx : Vl .f64 x (m * 2 ^ (e + 1))) (h1 : m.natAbs < 2 ^ 53) (hl : m.natAbs * 2 ^ (e + 1) ≤ 2000000 * 2 ^ un .f64) :
    ∃ r, floatBits .quo .f64 x 4611686018427387904 = some r ∧ Vl .f64 r (m * 2 ^ e) := by
  obtain ⟨s, V, h2, h3⟩ := hx
  have hV := sg_of h3
  refine ⟨_, fl_div2 h2 two_d, s, m.natAbs * 2 ^ e, ?_, ?_⟩
  · have h4 := fl_half (f := double) s V (lim_d (u := 1) (by rw [hV]; omega))
    have e1 : rndU double 1 V = m.natAbs * 2 ^ e := by
      rw [hV, Nat.pow_succ, ← Nat.mul_assoc]
      have := rndU_exact (f := double) (u := 1) (c := m.natAbs * 2 ^ e) (rep_scale (rep_small h1) e)
      rwa [Nat.pow_one] at this
    rw [e1] at h4
    exact h4
  · rw [hV] at h3
    have hp : (2 : Int) ^ (e + 1) ≠ 0 := Int.pow_ne_zero (by decide)
    rw [sg_scale] at h3 ⊢
    rw [Int.eq_of_mul_eq_mul_right hp h3]
theorem vl_zero : Vl .f64 0 0 := ⟨false, 0, fl0_d, rfl⟩
theorem vl_divide {x y : Nat} {A B : Int} {n : Nat} (hn : n < 60) (hx : Vl .f64 x (A * 2 ^ uu n)) (hy : Vl .f64 y (B * 2 ^ uu n)) (h1 : A.natAbs + B.natAbs < 2 ^ 53) (h2 : A.natAbs + B.natAbs ≤ 2000000 * 2 ^ n) :
    Vl2 .f64 (divR .f64 x y) (divI .f64 x y) ((B - A) * 2 ^ uu (n + 1), (-A - B) * 2 ^ uu (n + 1)) := by
  have a1 : (B - A).natAbs ≤ A.natAbs + B.natAbs := by omega
  have a2 : (-A - B).natAbs ≤ A.natAbs + B.natAbs := by omega
  have hle : ∀ m : Int, m.natAbs ≤ A.natAbs + B.natAbs → m.natAbs * 2 ^ (uu (n + 1) + 1) ≤ 2000000 * 2 ^ un .f64 := fun m hm => by
    rw [← uu_succ hn, ← uu_split (show n ≤ 60 by omega), ← Nat.mul_assoc]
    exact Nat.mul_le_mul_right _ (by omega)
  obtain ⟨d, d1, d2⟩ := vl_sub hy hx (by rw [← Int.sub_mul]; exact okn (by omega) (by omega) (by omega))
  obtain ⟨m, m1, m2⟩ := vl_sub vl_zero hx (by rw [Int.zero_sub, ← Int.neg_mul]; exact okn (by omega) (by omega) (by omega))
  rw [Int.zero_sub, ← Int.neg_mul] at m2
  obtain ⟨e, e1, e2⟩ := vl_sub m2 hy (by rw [← Int.sub_mul]; exact okn (by omega) (by omega) (by omega))
  rw [← Int.sub_mul, uu_succ hn] at d2 e2
  obtain ⟨r, r1, r2⟩ := vl_half d2 (by omega) (hle _ a1)
  obtain ⟨i, i1, i2⟩ := vl_half e2 (by omega) (hle _ a2)
  obtain ⟨q1, q2⟩ := div_of (k := .f64) (d := d) (n := m) (e := e) ⟨d1, r1, m1, e1, i1⟩
  rw [q1, q2]
  exact ⟨r2, i2⟩
/-- the value of places, in units of 2 to the power of minus their number -/
def ev : List UInt8 → Int × Int
  | [] => (0, 0)
  | c :: l => ((ev l).2 - ((ev l).1 + dg c * 2 ^ l.length), -((ev l).1 + dg c * 2 ^ l.length) - (ev l).2)
theorem ev_le : ∀ (l : List UInt8), (∀ c ∈ l, bitC c = true) → (ev l).1.natAbs ≤ l.length * 2 ^ l.length ∧ (ev l).2.natAbs ≤ l.length * 2 ^ l.length
  | [], _ => by simp [ev]
  | c :: l, h => by
    obtain ⟨h1, h2⟩ := ev_le l (fun c hc => h c (by simp [hc]))
    have hd := dg_bit (h c (by simp))
    have hdn : (dg c * 2 ^ l.length).natAbs ≤ 2 ^ l.length := by
      rw [natAbs_pow]
      have : (dg c).natAbs ≤ 1 := by omega
      calc (dg c).natAbs * 2 ^ l.length ≤ 1 * 2 ^ l.length := Nat.mul_le_mul_right _ this
        _ = 2 ^ l.length := Nat.one_mul _
    have e : (l.length + 1) * 2 ^ (l.length + 1) = 2 * (l.length * 2 ^ l.length) + 2 * 2 ^ l.length := by rw [Nat.pow_succ, Nat.add_mul, Nat.one_mul, ← Nat.mul_assoc, Nat.mul_comm (l.length * 2 ^ l.length) 2, Nat.mul_comm (2 ^ l.length) 2]
    simp only [ev, List.length_cons]
    rw [e]
    generalize 2 ^ l.length = P at *
    generalize dg c * (2 : Int) ^ l.length = D at *
    generalize l.length * P = Q at *
    omega
theorem bitW_vl (c : UInt8) (h : bitC c = true) : Vl .f64 (bitW .f64 c) (dg c * 2 ^ un .f64) := by
  rw [bitW_int .f64 ((bitC_iff c).1 h)]
  have hd := dg_bit h
  refine ⟨_, _, fl_wholeK .f64 (decide (dg c < 0)) (m := (dg c).natAbs) (by omega), ?_⟩
  rw [sg_scale]
  congr 1
  rw [decide_eq_false (by omega)]
  show (((dg c).natAbs : Nat) : Int) = dg c
  omega
theorem int_vl {x : Int} (h : -1000000 ≤ x ∧ x ≤ 1000000) : Vl .f64 (floatOfInt .f64 x) (x * 2 ^ un .f64) := by
  refine ⟨_, _, fl_wholeK .f64 (decide (x < 0)) (m := x.natAbs) (by omega), ?_⟩
  rw [sg_scale]
  congr 1
  by_cases c : x < 0
  · rw [decide_eq_true c]; show -((x.natAbs : Nat) : Int) = x; omega
  · rw [decide_eq_false c]; show ((x.natAbs : Nat) : Int) = x; omega
theorem scale_up (d : Int) {n : Nat} (hn : n ≤ 60) : d * 2 ^ un .f64 = d * 2 ^ n * 2 ^ uu n := by
  rw [Int.mul_assoc, ← Int.pow_add]
  congr 2
  unfold uu
  have : un .f64 = 1074 := rfl
  omega
theorem len_pow {n : Nat} (hn : n ≤ 45) : (2 * n + 1) * 2 ^ n < 2 ^ 53 := by
  have h1 : (2 * n + 1) * 2 ^ n ≤ 91 * 2 ^ 45 := Nat.mul_le_mul (by omega) (Nat.pow_le_pow_right (by omega) hn)
  have h2 : 91 * 2 ^ 45 < 2 ^ 53 := by decide
  omega
theorem pv_ex : ∀ (l : List UInt8), (∀ c ∈ l, bitC c = true) → l.length ≤ 45 → Vl2 .f64 (pv .f64 l).1 (pv .f64 l).2 ((ev l).1 * 2 ^ uu l.length, (ev l).2 * 2 ^ uu l.length)
  | [], _, _ => by
    have e : ev [] = (0, 0) := rfl
    rw [e]
    simp only [Int.zero_mul]
    exact ⟨vl_zero, vl_zero⟩
  | c :: l, h, hl => by
    simp only [List.length_cons] at hl
    have hb := fun c hc => h c (List.mem_cons_of_mem _ hc)
    obtain ⟨v1, v2⟩ := pv_ex l hb (by omega)
    obtain ⟨b1, b2⟩ := ev_le l hb
    have hc := h c (by simp)
    have hd := dg_bit hc
    have hp := len_pow (n := l.length) (by omega)
    have w1 := bitW_vl c hc
    rw [scale_up (dg c) (n := l.length) (by omega)] at w1
    have hdn : (dg c * 2 ^ l.length).natAbs ≤ 2 ^ l.length := by
      rw [natAbs_pow]
      have : (dg c).natAbs ≤ 1 := by omega
      calc (dg c).natAbs * 2 ^ l.length ≤ 1 * 2 ^ l.length := Nat.mul_le_mul_right _ this
        _ = 2 ^ l.length := Nat.one_mul _
    have e2 : (2 * l.length + 1) * 2 ^ l.length = 2 * (l.length * 2 ^ l.length) + 2 ^ l.length := by rw [Nat.add_mul, Nat.one_mul, Nat.mul_assoc]
    have hsum : ((ev l).1 + dg c * 2 ^ l.length).natAbs + (ev l).2.natAbs ≤ (2 * l.length + 1) * 2 ^ l.length := by omega
    have hbig : (2 * l.length + 1) * 2 ^ l.length ≤ 2000000 * 2 ^ l.length := Nat.mul_le_mul_right _ (by omega)
    obtain ⟨x, x1, x2⟩ := vl_add v1 w1 (by rw [← Int.add_mul]; exact okn (by omega) (by omega) (by omega))
    obtain ⟨y, y1, y2⟩ := vl_add v2 vl_zero (by rw [Int.add_zero]; exact okn (by omega) (by omega) (by omega))
    rw [← Int.add_mul] at x2
    rw [Int.add_zero] at y2
    have ex : plR .f64 (pv .f64 l) c = x := by simp [plR, gd, x1]
    have ey : plI .f64 (pv .f64 l) = y := by simp [plI, gd, y1]
    have hv := vl_divide (n := l.length) (by omega) x2 y2 (by omega) (by omega)
    have ep : pv .f64 (c :: l) = (divR .f64 (plR .f64 (pv .f64 l) c) (plI .f64 (pv .f64 l)), divI .f64 (plR .f64 (pv .f64 l) c) (plI .f64 (pv .f64 l))) := rfl
    rw [ep, ex, ey]
    exact hv
/-- with the whole number -/
theorem wh_ex {l : List UInt8} (hb : ∀ c ∈ l, bitC c = true) (hl : l.length ≤ 45) {X Y : Int} (hX : -1000000 ≤ X ∧ X ≤ 1000000) (hY : -1000000 ≤ Y ∧ Y ≤ 1000000)
    (h1 : ((ev l).1 + X * 2 ^ l.length).natAbs < 2 ^ 53) (h2 : ((ev l).2 + Y * 2 ^ l.length).natAbs < 2 ^ 53)
    (h3 : ((ev l).1 + X * 2 ^ l.length).natAbs ≤ 2000000 * 2 ^ l.length) (h4 : ((ev l).2 + Y * 2 ^ l.length).natAbs ≤ 2000000 * 2 ^ l.length) :
    Vl2 .f64 (whR .f64 (pv .f64 l) X) (whI .f64 (pv .f64 l) Y) (((ev l).1 + X * 2 ^ l.length) * 2 ^ uu l.length, ((ev l).2 + Y * 2 ^ l.length) * 2 ^ uu l.length) := by
  obtain ⟨v1, v2⟩ := pv_ex l hb hl
  have w1 := int_vl hX
  have w2 := int_vl hY
  rw [scale_up X (n := l.length) (by omega)] at w1
  rw [scale_up Y (n := l.length) (by omega)] at w2
  obtain ⟨x, x1, x2⟩ := vl_add v1 w1 (by rw [← Int.add_mul]; exact okn (by omega) h1 h3)
  obtain ⟨y, y1, y2⟩ := vl_add v2 w2 (by rw [← Int.add_mul]; exact okn (by omega) h2 h4)
  have ex : whR .f64 (pv .f64 l) X = x := by simp [whR, gd, x1]
  have ey : whI .f64 (pv .f64 l) Y = y := by simp [whI, gd, y1]
  rw [← Int.add_mul] at x2 y2
  rw [ex, ey]
  exact ⟨x2, y2⟩
end Go.Proofs.YtjjpjjoadphapaaDoor

namespace Go.Proofs.YtjjpjjoadphapaaDoor
set_option linter.unusedSimpArgs false
set_option linter.unusedVariables false
open Go.RowKit

theorem pwide_c (x y : Int) (w : World) : Calls Tryd.prog 41 #[pr x y] w fun e w' => e = .returned (.complex .f64 (floatOfInt .f64 x) (floatOfInt .f64 y)) ∧ Below w.heap.size w w' := by
  go_enter Tryd.func41, Tryd.ntmps41
  go_wp2
  go_ret
  exact ⟨rfl, by (first | ((repeat' with_reducible first | assumption | exact Below.refl _ _ | apply Blw.alloc | apply Blw.drew | apply Blw.drewN | (refine Blw.after ?_ (by assumption)) | (refine Blw.set ?_ (by first | (dsimp only; omega) | (simp; omega)) _)); done) | (repeat' (first | assumption | exact Below.refl _ _ | apply Blw.alloc | apply Blw.drew | apply Blw.drewN | (refine Blw.after ?_ (by assumption)) | (refine Blw.set ?_ (by first | (dsimp only; omega) | (simp; done) | (simp; omega)) _))))⟩
end Go.Proofs.YtjjpjjoadphapaaDoor

namespace Go.Proofs.YtjjpjjoadphapaaDoor
set_option linter.unusedSimpArgs false
set_option linter.unusedVariables false
open Go.RowKit Ieee

theorem cut_zero (s : Bool) (n p : Nat) : Toward.zero.cut s n p = n / 2 ^ p := by
  unfold Toward.cut
  simp only [Nat.one_shiftLeft, Bool.toNat_false, Nat.add_zero]
  rcases Nat.le_total p (n.log2 + 2) with h | h
  · rw [Nat.min_eq_left h]
  · rw [Nat.min_eq_right h]
    have h1 : n < 2 ^ (n.log2 + 1) := Nat.lt_log2_self
    have h2 : 2 ^ (n.log2 + 2) = 2 * 2 ^ (n.log2 + 1) := by rw [Nat.pow_succ]; omega
    have h3 : 2 ^ (n.log2 + 2) ≤ 2 ^ p := Nat.pow_le_pow_right (by omega) h
    rw [Nat.div_eq_of_lt (by omega), Nat.div_eq_of_lt (by omega)]
theorem toInt_vl {x : Nat} {X : Int} (h : Vl .f64 x (X * 2 ^ un .f64)) : (FloatKind.f64.decode x).toInt .zero = some X := by
  obtain ⟨s, V, ⟨m, k, h1, h2, _⟩, h3⟩ := h
  have hV := sg_of h3
  have hd : FloatKind.f64.decode x = .number s m (double.leastPlace + (k : Int)) := h1
  rw [hd]
  unfold Datum.toInt Datum.integral
  simp only [cut_zero, Nat.shiftLeft_eq, signed_sg, Nat.pow_zero, Nat.mul_one]
  rw [least_d]
  have hu : un .f64 = 1074 := rfl
  have e : m * 2 ^ ((-1074 : Int) + (k : Int)).toNat / 2 ^ (-((-1074 : Int) + (k : Int))).toNat = X.natAbs := by
    have hmk : m * 2 ^ k = X.natAbs * 2 ^ un .f64 := by rw [h2, hV]
    rcases Nat.le_total (un .f64) k with c | c
    · rw [show (-((-1074 : Int) + (k : Int))).toNat = 0 by omega, Nat.pow_zero, Nat.div_one, show ((-1074 : Int) + (k : Int)).toNat = k - un .f64 by omega]
      have e2 : m * 2 ^ k = m * 2 ^ (k - un .f64) * 2 ^ un .f64 := by rw [Nat.mul_assoc, ← Nat.pow_add, show k - un .f64 + un .f64 = k by omega]
      rw [e2] at hmk
      exact Nat.eq_of_mul_eq_mul_right (Nat.two_pow_pos _) hmk
    · rw [show ((-1074 : Int) + (k : Int)).toNat = 0 by omega, Nat.pow_zero, Nat.mul_one, show (-((-1074 : Int) + (k : Int))).toNat = un .f64 - k by omega]
      have e2 : X.natAbs * 2 ^ un .f64 = X.natAbs * 2 ^ (un .f64 - k) * 2 ^ k := by rw [Nat.mul_assoc, ← Nat.pow_add, show un .f64 - k + k = un .f64 by omega]
      rw [e2] at hmk
      rw [Nat.eq_of_mul_eq_mul_right (Nat.two_pow_pos _) hmk, Nat.mul_div_cancel _ (Nat.two_pow_pos _)]
  rw [e]
  rw [hV, sg_scale] at h3
  have hp : (2 : Int) ^ un .f64 ≠ 0 := Int.pow_ne_zero (by decide)
  rw [Int.eq_of_mul_eq_mul_right hp h3]
theorem toInt_val {x : Nat} {X : Int} (h : Vl .f64 x (X * 2 ^ un .f64)) (hX : -1000000 ≤ X ∧ X ≤ 1000000) : floatToIntVal .f64 x .i64 = some X := by
  unfold floatToIntVal
  rw [toInt_vl h]
  have e1 : IntKind.i64.min = -9223372036854775808 := rfl
  have e2 : IntKind.i64.max = 9223372036854775807 := rfl
  simp only [e1, e2]
  rw [if_pos (by omega)]
theorem leq_of {x y : Nat} {a b : Int} (hx : Vl .f64 x (a * 2 ^ un .f64)) (hy : Vl .f64 y (b * 2 ^ un .f64)) (h : a ≤ b) :
    (FloatKind.f64.format.order x y == some .lt || FloatKind.f64.format.order x y == some .eq) = true := by
  rw [vl_order hx hy, scale_cmp]
  rcases Int.lt_or_eq_of_le h with h | h
  · rw [Int.compare_eq_lt.2 h]; rfl
  · rw [Int.compare_eq_eq.2 h]; rfl
theorem low_word : floatOfInt .f64 (-1000000) = 13920209183539462144 := by decide +kernel
theorem high_word : floatOfInt .f64 1000000 = 4696837146684686336 := by decide +kernel
set_option maxHeartbeats 2000000 in
theorem wpair_c (x y : Nat) (X Y : Int) (w : World) (hx : Vl .f64 x (X * 2 ^ un .f64)) (hy : Vl .f64 y (Y * 2 ^ un .f64)) (hX : -1000000 ≤ X ∧ X ≤ 1000000) (hY : -1000000 ≤ Y ∧ Y ≤ 1000000) :
    Calls Tryd.prog 30 #[.complex .f64 x y] w fun e w' => e = .returned (.tuple #[pr X Y, .bool true]) ∧ Below w.heap.size w w' := by
  have lo := int_vl (x := -1000000) (by omega)
  have hi := int_vl (x := 1000000) (by omega)
  rw [low_word] at lo
  rw [high_word] at hi
  have c1 := leq_of lo hx hX.1
  have c2 := leq_of hx hi hX.2
  have c3 := leq_of lo hy hY.1
  have c4 := leq_of hy hi hY.2
  have g1 : FloatKind.f64.format.order (floatOfInt .f64 X) x = some .eq := vl_same (int_vl hX) hx
  have g2 : FloatKind.f64.format.order (floatOfInt .f64 Y) y = some .eq := vl_same (int_vl hY) hy
  have f1 := fun w => run_convert_float_int (P := Tryd.prog) w 90 3 .f64 .i64 x X (by rw [Tryd.underlying90]; rfl) Tryd.underlying3 (toInt_val hx hX)
  have f2 := fun w => run_convert_float_int (P := Tryd.prog) w 90 3 .f64 .i64 y Y (by rw [Tryd.underlying90]; rfl) Tryd.underlying3 (toInt_val hy hY)
  clear lo hi hx hy hX hY
  go_enter Tryd.func30, Tryd.ntmps30
  go_wp2_with fail
  generalize hW : World.alloc (World.alloc w _) _ = W0
  have kW0_13 : W0.cell? ⟨w.heap.size, 0, none⟩ = some (.int .i64 (0)) := by rw [← hW]; clear hW; first | (go_simp; done) | ((repeat refine keepcell ((Below.refl _ _).alloc (Nat.le_refl _) _) ?_); go_simp; done) | (simp only [frozen?_alloc_cells]; go_simp; done)
  have zW0_13 : W0.frozen? ⟨w.heap.size, 0, none⟩ = false := by rw [← hW]; clear hW; first | (go_simp; done) | ((repeat refine keepcell ((Below.refl _ _).alloc (Nat.le_refl _) _) ?_); go_simp; done) | (simp only [frozen?_alloc_cells]; go_simp; done)
  have kW0_14 : W0.cell? ⟨w.heap.size, 1, none⟩ = some (.int .i64 (0)) := by rw [← hW]; clear hW; first | (go_simp; done) | ((repeat refine keepcell ((Below.refl _ _).alloc (Nat.le_refl _) _) ?_); go_simp; done) | (simp only [frozen?_alloc_cells]; go_simp; done)
  have zW0_14 : W0.frozen? ⟨w.heap.size, 1, none⟩ = false := by rw [← hW]; clear hW; first | (go_simp; done) | ((repeat refine keepcell ((Below.refl _ _).alloc (Nat.le_refl _) _) ?_); go_simp; done) | (simp only [frozen?_alloc_cells]; go_simp; done)
  have : w.heap.size < W0.heap.size := World.block_lt_of_cell? W0 ⟨w.heap.size, 0, none⟩ (by assumption)
  have kW0_15 : W0.cell? ⟨w.heap.size + 1, 0, none⟩ = some (.int .i64 (X)) := by rw [← hW]; clear hW; first | (go_simp; done) | ((repeat refine keepcell ((Below.refl _ _).alloc (Nat.le_refl _) _) ?_); go_simp; done) | (simp only [frozen?_alloc_cells]; go_simp; done)
  have kW0_16 : W0.cell? ⟨w.heap.size + 1, 1, none⟩ = some (.int .i64 (Y)) := by rw [← hW]; clear hW; first | (go_simp; done) | ((repeat refine keepcell ((Below.refl _ _).alloc (Nat.le_refl _) _) ?_); go_simp; done) | (simp only [frozen?_alloc_cells]; go_simp; done)
  have : w.heap.size + 1 < W0.heap.size := World.block_lt_of_cell? W0 ⟨w.heap.size + 1, 0, none⟩ (by assumption)
  have hBW0 : Below w.heap.size w W0 := by rw [← hW]; (first | ((repeat' with_reducible first | assumption | exact Below.refl _ _ | apply Blw.alloc | apply Blw.drew | apply Blw.drewN | (refine Blw.after ?_ (by assumption)) | (refine Blw.set ?_ (by first | (dsimp only; omega) | (simp; omega)) _)); done) | (repeat' (first | assumption | exact Below.refl _ _ | apply Blw.alloc | apply Blw.drew | apply Blw.drewN | (refine Blw.after ?_ (by assumption)) | (refine Blw.set ?_ (by first | (dsimp only; omega) | (simp; done) | (simp; omega)) _))))
  have hsW0 := hBW0.size
  clear hW
  go_wp2_with ((go_at_call 41; refine (pwide_c _ _ _).mono ?_; rintro e w1 ⟨rfl, hb⟩; have hk : Hld W0 w1 := heldM (by (first | ((repeat' with_reducible first | assumption | exact Below.refl _ _ | apply Blw.alloc | apply Blw.drew | apply Blw.drewN | (refine Blw.after ?_ (by assumption)) | (refine Blw.set ?_ (by first | (dsimp only; omega) | (simp; omega)) _)); done) | (repeat' (first | assumption | exact Below.refl _ _ | apply Blw.alloc | apply Blw.drew | apply Blw.drewN | (refine Blw.after ?_ (by assumption)) | (refine Blw.set ?_ (by first | (dsimp only; omega) | (simp; done) | (simp; omega)) _))))); have hk1 := hk.1))
  exact bodyPost_ret (v := .tuple #[pr X Y, .bool true]) (by simp [results, Tryd.results30, go_sem, *]) rfl ⟨rfl, by (first | ((repeat' with_reducible first | assumption | exact Below.refl _ _ | apply Blw.alloc | apply Blw.drew | apply Blw.drewN | (refine Blw.after ?_ (by assumption)) | (refine Blw.set ?_ (by first | (dsimp only; omega) | (simp; omega)) _)); done) | (repeat' (first | assumption | exact Below.refl _ _ | apply Blw.alloc | apply Blw.drew | apply Blw.drewN | (refine Blw.after ?_ (by assumption)) | (refine Blw.set ?_ (by first | (dsimp only; omega) | (simp; done) | (simp; omega)) _))))⟩
theorem keepfz {w w' : World} {p : Addr} (h : Below w.heap.size w w') (hp : p.block < w.heap.size) (hf : w.frozen? p = false) : w'.frozen? p = false := (h.frozen hp).trans hf
end Go.Proofs.YtjjpjjoadphapaaDoor
