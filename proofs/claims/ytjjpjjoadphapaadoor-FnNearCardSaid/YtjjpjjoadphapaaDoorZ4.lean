/- Merged texts: Is Il Bq In Nr Ms Ks Kc So Ko Nt Sn Rd Two Nq Sg Draw DrawB DrawY BaseP. No law is stated here. -/
import Derived.Deep.QuietTactic
import Derived.WalkKit
import Derived.RangeFuncBox
import Derived.RangeFuncSeq
import Derived.RangeFuncGives
import Derived.OwnWalkIn
import Derived.Sort.MapsRangeIn
import Derived.RangeFuncKeeps
import Derived.TacticsInMore
import Derived.RegionIn
import Derived.LoopNIn
import Derived.LoopIn
import Derived.RangeFuncLeaves
import Derived.RangeFuncNested
import Derived.RangeFuncWrites
import Derived.RangeFuncFrom
import Derived.Shelf.Abstract
import Derived.Maps.AppendAt
import Derived.Shelf.SlSortCmp.SmallK
import Derived.Shelf.Small.Bits
import Derived.Shelf.Lay
import Derived.Ground.SlsfProg
import Derived.Ground.NamesProg
import Derived.Sort.OwnSorted
import Derived.OpenShut
import Derived.ChangeSame
import Derived.JoinedOf
import Derived.JoinedAt
import Derived.RowKit3
import Derived.Lib.SmallJoins
import Derived.LaidMore
import Derived.Stop.LaidErr
import Derived.ChangeVars
import Derived.ChangeStays
import Derived.WideKeyArgs
import Derived.WalkSmall
import Derived.Carry
import Derived.Test.YtjjpjjoadphapaaDoorRows
import Derived.ProofKit
import Derived.WalkSpells
import Derived.WalkLawsBesides
import Derived.Lib.Hide
import Derived.Laws.ResultCell
import Derived.BigQuiet
import Derived.Outline
import Derived.ChangeSlices
import Derived.Test.YtjjpjjoadphapaaDoorZ3
namespace Go.Proofs.YtjjpjjoadphapaaDoor
set_option linter.unusedSimpArgs false
set_option linter.unusedVariables false
open Go.Sort

/-- put in where it belongs, if it isn't there -/
def insG (z : Int × Int) : List (Int × Int) → List (Int × Int)
  | [] => [z]
  | y :: r => if ltG y z then y :: insG z r else if y = z then y :: r else z :: y :: r
/-- how many come ahead of it -/
def posG (z : Int × Int) : List (Int × Int) → Nat
  | [] => 0
  | y :: r => if ltG y z then posG z r + 1 else 0
theorem posG_le (z : Int × Int) (l : List (Int × Int)) : posG z l ≤ l.length := by
  induction l with
  | nil => simp [posG]
  | cons y r ih => unfold posG; split <;> simp <;> omega
/-- the loop's test, at each place -/
theorem posG_lt {z : Int × Int} {l : List (Int × Int)} {k : Nat} {y : Int × Int} (hk : k < posG z l) (hy : l[k]? = some y) : ltG y z = true := by
  induction l generalizing k with
  | nil => simp at hy
  | cons x r ih =>
    unfold posG at hk
    split at hk
    · cases k with
      | zero => simp at hy; subst hy; assumption
      | succ k => simp at hy; exact ih (by omega) hy
    · omega
theorem posG_at {z : Int × Int} {l : List (Int × Int)} {y : Int × Int} (hy : l[posG z l]? = some y) : ltG y z = false := by
  induction l with
  | nil => simp at hy
  | cons x r ih =>
    unfold posG at hy
    split at hy
    · simp at hy; exact ih hy
    · rename_i hx; simp at hy; subst hy; exact Bool.eq_false_iff.2 hx
/-- what the loop finds decides what comes out -/
theorem insG_has {z : Int × Int} {l : List (Int × Int)} (h : l[posG z l]? = some z) : insG z l = l := by
  induction l with
  | nil => simp at h
  | cons x r ih =>
    unfold posG at h
    unfold insG
    split at h
    · rename_i hx; simp at h; rw [if_pos hx, ih h]
    · rename_i hx; simp at h; subst h; rw [if_neg hx, if_pos rfl]
theorem insG_new {z : Int × Int} {l : List (Int × Int)} (h : l[posG z l]? ≠ some z) : insG z l = l.take (posG z l) ++ z :: l.drop (posG z l) := by
  induction l with
  | nil => rfl
  | cons x r ih =>
    unfold posG at h
    unfold insG posG
    split at h
    · rename_i hx; simp at h; rw [if_pos hx, if_pos hx, ih h]; simp
    · rename_i hx; simp at h; rw [if_neg hx, if_neg hx, if_neg h]; simp
theorem insG_mem (z x : Int × Int) (l : List (Int × Int)) : x ∈ insG z l ↔ x = z ∨ x ∈ l := by
  induction l with
  | nil => simp [insG]
  | cons y r ih =>
    unfold insG
    split
    · simp [ih]; grind
    · split
      · rename_i e; subst e; simp
      · simp
def SrtG (l : List (Int × Int)) : Prop := l.Pairwise fun x y => ltG x y = true
theorem insG_srt {z : Int × Int} {l : List (Int × Int)} (h : SrtG l) : SrtG (insG z l) := by
  induction l with
  | nil => simp [insG, SrtG]
  | cons y r ih =>
    obtain ⟨h1, h2⟩ := List.pairwise_cons.1 h
    unfold insG
    split
    · rename_i hy
      refine List.pairwise_cons.2 ⟨fun x hx => ?_, ih h2⟩
      rcases (insG_mem z x r).1 hx with rfl | hx
      · exact hy
      · exact h1 x hx
    · rename_i hy
      split
      · exact h
      · rename_i e
        have hz : ltG z y = true := by
          by_cases hq : ltG z y = true
          · exact hq
          · exact absurd (ltG_total y z (by simpa using hy) (by simpa using hq)) e
        refine List.pairwise_cons.2 ⟨fun x hx => ?_, h⟩
        rcases List.mem_cons.1 hx with rfl | hx
        · exact hz
        · exact swoG.trans _ _ _ hz (h1 x hx)
/-- one sorted list for one set -/
theorem srtG_one {a b : List (Int × Int)} (ha : SrtG a) (hb : SrtG b) (h : ∀ x, x ∈ a ↔ x ∈ b) : a = b := by
  have nd : ∀ {l : List (Int × Int)}, SrtG l → l.Nodup := fun {l} hl => hl.imp fun {x y} hxy e => by subst e; rw [swoG.irrefl] at hxy; cases hxy
  refine List.Perm.eq_of_pairwise (le := fun x y => ltG x y = true) (fun x y _ _ h1 h2 => ?_) ha hb ((List.perm_ext_iff_of_nodup (nd ha) (nd hb)).2 h)
  have := swoG.trans _ _ _ h1 h2
  rw [swoG.irrefl] at this; cases this
/-- the sort's list, where no number comes twice -/
theorem sort_srtG {l : List (Int × Int)} (h : l.Nodup) : SrtG (l.mergeSort fun x y => !ltG y x) := by
  have tr : ∀ a b c : Int × Int, (!ltG b a) = true → (!ltG c b) = true → (!ltG c a) = true := fun a b c h1 h2 => by
    simp only [Bool.not_eq_true'] at *
    exact swoG.ntrans _ _ _ h2 h1
  have tot : ∀ a b : Int × Int, ((!ltG b a) || (!ltG a b)) = true := fun a b => by
    cases h1 : ltG b a <;> cases h2 : ltG a b <;> simp
    have := swoG.trans _ _ _ h1 h2
    rw [swoG.irrefl] at this; cases this
  have hp := List.pairwise_mergeSort tr tot l
  have hn : (l.mergeSort fun x y => !ltG y x).Nodup := (List.mergeSort_perm l _).nodup_iff.2 h
  refine (hp.and hn).imp fun {x y} hxy => ?_
  obtain ⟨h1, h2⟩ := hxy
  by_cases hq : ltG x y = true
  · exact hq
  · exact absurd (ltG_total x y (by simpa using hq) (by simpa using h1)) h2
end Go.Proofs.YtjjpjjoadphapaaDoor

namespace Go.Proofs.YtjjpjjoadphapaaDoor
set_option linter.unusedSimpArgs false
set_option linter.unusedVariables false
open Go.RowKit

theorem l6tLess_c (x y : Int × Int) (w : World) : Calls Tryd.prog 39 #[encG x, encG y] w fun e w' => e = .returned (.bool (ltG x y)) ∧ RowKit.Below w.heap.size w w' := by
  obtain ⟨x1, x2⟩ := x
  obtain ⟨y1, y2⟩ := y
  simp only [encG]
  by_cases h1 : x1 < y1
  · have HV := Lib.hid (show ltG (x1, x2) (y1, y2) = true by simp [ltG, h1])
    go_enter Tryd.func39, Tryd.ntmps39
    go_wp2
    go_ret
    exact ⟨by rw [HV.out]; rfl, by (first | ((repeat' with_reducible first | assumption | exact Below.refl _ _ | apply Blw.alloc | apply Blw.drew | apply Blw.drewN | (refine Blw.after ?_ (by assumption)) | (refine Blw.set ?_ (by first | (dsimp only; omega) | (simp; omega)) _)); done) | (repeat' (first | assumption | exact Below.refl _ _ | apply Blw.alloc | apply Blw.drew | apply Blw.drewN | (refine Blw.after ?_ (by assumption)) | (refine Blw.set ?_ (by first | (dsimp only; omega) | (simp; done) | (simp; omega)) _))))⟩
  · by_cases h2 : x1 = y1
    · subst h2
      by_cases h3 : x2 < y2
      · have HV := Lib.hid (show ltG (x1, x2) (x1, y2) = true by simp [ltG, h3])
        go_enter Tryd.func39, Tryd.ntmps39
        go_wp2
        go_ret
        exact ⟨by rw [HV.out]; rfl, by (first | ((repeat' with_reducible first | assumption | exact Below.refl _ _ | apply Blw.alloc | apply Blw.drew | apply Blw.drewN | (refine Blw.after ?_ (by assumption)) | (refine Blw.set ?_ (by first | (dsimp only; omega) | (simp; omega)) _)); done) | (repeat' (first | assumption | exact Below.refl _ _ | apply Blw.alloc | apply Blw.drew | apply Blw.drewN | (refine Blw.after ?_ (by assumption)) | (refine Blw.set ?_ (by first | (dsimp only; omega) | (simp; done) | (simp; omega)) _))))⟩
      · have HV := Lib.hid (show ltG (x1, x2) (x1, y2) = false by simp [ltG]; omega)
        go_enter Tryd.func39, Tryd.ntmps39
        go_wp2
        go_ret
        exact ⟨by rw [HV.out]; rfl, by (first | ((repeat' with_reducible first | assumption | exact Below.refl _ _ | apply Blw.alloc | apply Blw.drew | apply Blw.drewN | (refine Blw.after ?_ (by assumption)) | (refine Blw.set ?_ (by first | (dsimp only; omega) | (simp; omega)) _)); done) | (repeat' (first | assumption | exact Below.refl _ _ | apply Blw.alloc | apply Blw.drew | apply Blw.drewN | (refine Blw.after ?_ (by assumption)) | (refine Blw.set ?_ (by first | (dsimp only; omega) | (simp; done) | (simp; omega)) _))))⟩
    · have HV := Lib.hid (show ltG (x1, x2) (y1, y2) = false by simp [ltG, h2]; omega)
      have h4 : (x1 == y1) = false := by simp [h2]
      clear h2
      go_enter Tryd.func39, Tryd.ntmps39
      go_wp2
      go_ret
      exact ⟨by rw [HV.out]; rfl, by (first | ((repeat' with_reducible first | assumption | exact Below.refl _ _ | apply Blw.alloc | apply Blw.drew | apply Blw.drewN | (refine Blw.after ?_ (by assumption)) | (refine Blw.set ?_ (by first | (dsimp only; omega) | (simp; omega)) _)); done) | (repeat' (first | assumption | exact Below.refl _ _ | apply Blw.alloc | apply Blw.drew | apply Blw.drewN | (refine Blw.after ?_ (by assumption)) | (refine Blw.set ?_ (by first | (dsimp only; omega) | (simp; done) | (simp; omega)) _))))⟩
end Go.Proofs.YtjjpjjoadphapaaDoor

namespace Go.Proofs.YtjjpjjoadphapaaDoor
set_option linter.unusedSimpArgs false
set_option linter.unusedVariables false
open Go.RowKit
/-- a world behind w that keeps all that stood in w -/
structure BelowW (w : World) where
  at' : World
  kept : Below w.heap.size w at'
theorem BelowW.none (w : World) : Nonempty (BelowW w) := ⟨⟨w, Below.refl _ _⟩⟩
theorem wp_region_below {P : Program} {id : Nat} {Q : Exit → Act → World → Prop} {a : Act} {w : World} {l : List Oper} (hm : P.follows .mixedOrders = true) (hB : Region.lexB .any l.toArray = true)
    (h : wpQuiet P l.toArray (fun w' => ∃ x : BelowW w, w' = x.at') (fun a' => ∀ w', (∃ x : BelowW w, w' = x.at') → Q .normal a' w') l a) : (Code.region id l.toArray true).wp P Q a w :=
  wp_region_quiet (C := fun w' => ∃ x : BelowW w, w' = x.at') hm hB ⟨⟨_, Blw.drew (Below.refl _ _)⟩, rfl⟩ (by simpa using h)
theorem Calls.below {P : Program} {f : FuncId} {args : Array Value} {w : World} {x : BelowW w} {v : Value}
    (h : Calls P f args x.at' fun e w' => e = .returned v ∧ Below x.at'.heap.size x.at' w') : Calls P f args x.at' fun e w'' => e = .returned v ∧ ∃ y : BelowW w, w'' = y.at' :=
  h.mono fun _ w1 ⟨he, hb⟩ => ⟨he, ⟨w1, Blw.after x.kept hb⟩, rfl⟩
end Go.Proofs.YtjjpjjoadphapaaDoor

namespace Go.Proofs.YtjjpjjoadphapaaDoor
set_option linter.unusedSimpArgs false
set_option linter.unusedVariables false
open Go.RowKit

/-- a row of Gaussian numbers of one's own -/
def RowG (B : Nat) (v : Value) (l : List ZZ) (w : World) : Prop := ∃ g c, v = .slice (some ⟨g, 0, none⟩) l.length c ∧ w.ownsRow B 29 2 (.slice (some ⟨g, 0, none⟩) l.length c) l.length (gcells l)
theorem row_cells {B g c n : Nat} {l : List ZZ} {w : World} (h : w.ownsRow B 29 2 (.slice (some ⟨g, 0, none⟩) n c) l.length (gcells l)) (j : Nat) (u : Value) (hu : (gcells l)[j]? = some u) : w.cell? ⟨g, j, none⟩ = some u := by
  rcases h.2 with ⟨h1, -⟩ | ⟨g', cap, cur, h1, -, hb, -, -, -, ht⟩
  · cases h1
  · simp only [Value.slice.injEq, Option.some.injEq, Addr.mk.injEq] at h1
    obtain ⟨⟨rfl, -, -⟩, -, -⟩ := h1
    rw [← ht] at hu
    have hj : j < (l.length * 2) := by
      have h2 := (List.getElem?_eq_some_iff.1 hu).1
      rw [List.length_take] at h2
      omega
    rw [List.getElem?_take_of_lt hj, Array.getElem?_toList] at hu
    simp only [World.cell?, hb]
    simpa using hu
theorem gcells_app (l m : List ZZ) : gcells (l ++ m) = gcells l ++ gcells m := by simp [gcells]
theorem gcells_take (l : List ZZ) (k j : Nat) (u : Value) (h : (gcells (l.take k))[j]? = some u) : (gcells l)[j]? = some u := by
  have e : gcells l = gcells (l.take k) ++ gcells (l.drop k) := by rw [← gcells_app, List.take_append_drop]
  rw [e, List.getElem?_append_left (List.getElem?_eq_some_iff.1 h).1]
  exact h
theorem gcells_drop (l : List ZZ) (k j : Nat) (u : Value) (hk : k ≤ l.length) (h : (gcells (l.drop k))[j]? = some u) : (gcells l)[k * 2 + j]? = some u := by
  have e : gcells l = gcells (l.take k) ++ gcells (l.drop k) := by rw [← gcells_app, List.take_append_drop]
  have hlen : (gcells (l.take k)).length = k * 2 := by rw [gcells_len, List.length_take, Nat.min_eq_left hk]
  rw [e, List.getElem?_append_right (by omega), hlen, Nat.add_sub_cancel_left]
  exact h
theorem gcells_one (l : List ZZ) : ∀ u ∈ gcells l, u.oneCell' = true := by
  intro u hu
  simp only [gcells, List.mem_flatMap] at hu
  obtain ⟨z, -, hu⟩ := hu
  simp at hu
  rcases hu with rfl | rfl <;> rfl
theorem two_one (x y : Int) : ∀ u ∈ [Value.int .i64 x, .int .i64 y], u.oneCell' = true := by
  intro u hu
  simp at hu
  rcases hu with rfl | rfl <;> rfl
theorem cells_pair {V : World} {b : Nat} {x y : Value} (h0 : V.cell? ⟨b, 0, none⟩ = some x) (h1 : V.cell? ⟨b, 1, none⟩ = some y) (j : Nat) (u : Value) (hu : [x, y][j]? = some u) : V.cell? ((⟨b, 0, none⟩ : Addr).add j) = some u := by
  match j, hu with
  | 0, hu => simp at hu; subst hu; simpa [Addr.add] using h0
  | 1, hu => simp at hu; subst hu; simpa [Addr.add] using h1
  | j + 2, hu => simp at hu
theorem add_at (g o j : Nat) : ((⟨g, o, none⟩ : Addr).add j) = ⟨g, o + j, none⟩ := by
  unfold Addr.add
  by_cases h : j = 0 <;> simp [h]
theorem row_end {B n0 N : Nat} {v : Value} {xs : List Value} {w : World} {L : List ZZ} (h : w.ownsRow n0 29 2 v N xs) (hB : B ≤ n0) (hN : L.length = N) (hx : gcells L = xs) (h1 : 1 ≤ N) : RowG B v L w := by
  subst hN
  subst hx
  rcases h.2 with ⟨-, h0⟩ | ⟨g, cap, cur, rfl, hb, r⟩
  · omega
  · exact ⟨g, cap, rfl, h.1, .inr ⟨g, cap, cur, rfl, Nat.le_trans hB hb, r⟩⟩
def ItRel (l : List ZZ) (z : ZZ) (w : World) (m : Nat) (i : Value) (wr : World) : Prop :=
  ∃ k, k + m = posG z l ∧ i = .int .i64 (k : Nat) ∧ Below w.heap.size w wr ∧ wr.cell? ⟨w.heap.size, 0, none⟩ = some (.int .i64 z.1) ∧ wr.cell? ⟨w.heap.size, 1, none⟩ = some (.int .i64 z.2)
set_option maxRecDepth 100000 in
set_option maxHeartbeats 2000000 in
theorem l6tInsert_c (B : Nat) (v : Value) (l : List ZZ) (z : ZZ) (w : World) (hl : l.length ≤ 2000) (hB : B ≤ w.heap.size) (hv : RowG B v l w) :
    Calls Tryd.prog 21 #[v, pr z.1 z.2] w fun e w' => ∃ v', e = .returned v' ∧ RowG B v' (insG z l) w' ∧ Below w.heap.size w w' := by
  obtain ⟨i0, hi, hz0, hz1, hz2⟩ := info_parts infoG
  obtain ⟨g, c, rfl, hrow⟩ := hv
  have hpl := posG_le z l
  obtain ⟨z1, z2⟩ := z
  have hlc : l.length ≤ c := by
    rcases hrow.2 with ⟨h1, -⟩ | ⟨g', cap, cur, h1, -, hb, hc, -⟩
    · cases h1
    · simp only [Value.slice.injEq] at h1; omega
  have Lg : g < w.heap.size := by
    rcases hrow.2 with ⟨h1, -⟩ | ⟨g', cap, cur, h1, -, hb, hc, -⟩
    · cases h1
    · simp only [Value.slice.injEq, Option.some.injEq, Addr.mk.injEq] at h1
      obtain ⟨⟨rfl, -, -⟩, -, -⟩ := h1
      exact (Array.getElem?_eq_some_iff.1 hb).1
  have HROW := Lib.hid hrow
  have HCE := Lib.hid (fun j u (hu : (gcells l)[j]? = some u) => row_cells hrow j u hu)
  clear hrow
  obtain ⟨ln, hln⟩ : ∃ ln, l.length = ln := ⟨_, rfl⟩
  obtain ⟨P, hP⟩ : ∃ P, posG (z1, z2) l = P := ⟨_, rfl⟩
  have HP := Lib.hid hP
  have HLN := Lib.hid hln
  rw [hP, hln] at hpl
  rw [hln] at hl hlc ⊢
  clear hP hln
  go_enter Tryd.func21, Tryd.ntmps21
  go_wp2_with fail
  generalize hW : World.alloc _ _ = W0
  have S0 := Lib.hid (show ItRel l (z1, z2) w P (.int .i64 0) W0 from ⟨0, by rw [HP.out]; omega, rfl, by rw [← hW]; (first | ((repeat' with_reducible first | assumption | exact Below.refl _ _ | apply Blw.alloc | apply Blw.drew | apply Blw.drewN | (refine Blw.after ?_ (by assumption)) | (refine Blw.set ?_ (by first | (dsimp only; omega) | (simp; omega)) _)); done) | (repeat' (first | assumption | exact Below.refl _ _ | apply Blw.alloc | apply Blw.drew | apply Blw.drewN | (refine Blw.after ?_ (by assumption)) | (refine Blw.set ?_ (by first | (dsimp only; omega) | (simp; done) | (simp; omega)) _)))), by rw [← hW]; clear hW; go_simp, by rw [← hW]; clear hW; go_simp⟩)
  clear hW
  go_loopg [5] P (fun m i wr => ItRel l (z1, z2) w m i wr)
  case atStart => exact S0.out
  case round =>
    clear S0
    obtain ⟨k, hk, rfl, hBw, b0, b1⟩ := hrel
    have hk2 : k + gk = P := by rw [← HP.out]; exact hk
    clear hk
    have Lz : w.heap.size < wr.heap.size := World.block_lt_of_cell? wr _ b0
    have Lgw : g < wr.heap.size := by omega
    have HCW := Lib.hid (fun j u (hu : (gcells l)[j]? = some u) => (hBw.cell (p := ⟨g, j, none⟩) Lg).trans (HCE.out j u hu))
    have HBW := Lib.hid hBw
    clear hBw
    by_cases hlt : k < ln
    · obtain ⟨⟨y1, y2⟩, hy⟩ : ∃ y, l[k]? = some y := ⟨_, List.getElem?_eq_getElem (by rw [HLN.out]; exact hlt)⟩
      obtain ⟨c0', c1'⟩ := gcells_at l k y1 y2 hy
      have c0 := HCW.out _ _ c0'
      have c1 := HCW.out _ _ c1'
      have HY := Lib.hid hy
      have HL := Lib.hid (fun W => l6tLess_c (y1, y2) (z1, z2) W)
      have xc0 := fun x : BelowW wr => keepcell x.kept c0
      have xc1 := fun x : BelowW wr => keepcell x.kept c1
      have xb0 := fun x : BelowW wr => keepcell x.kept b0
      have xb1 := fun x : BelowW wr => keepcell x.kept b1
      simp only [encG] at HL
      clear hy c0' c1'
      rcases Bool.eq_false_or_eq_true (ltG (y1, y2) (z1, z2)) with hE | hE
      · rw [hE] at HL
        have HKP := Lib.hid (show k < P by
          rcases Nat.lt_or_ge k P with h | h
          · exact h
          · exfalso
            have e : posG (z1, z2) l = k := by rw [HP.out]; omega
            have := posG_at (z := (z1, z2)) (l := l) (y := (y1, y2)) (by rw [e]; exact HY.out)
            rw [hE] at this; cases this)
        clear hE
        go_upto_region 2 with fail
        have hNE : ∀ w, Nonempty (BelowW w) := BelowW.none
        refine wp_region_below (by kernel_rfl) (by kernel_rfl) ?_
        repeat
          (with_reducible refine wpQuiet_step ?_
           intro K hK
           go_simp
           first
             | (refine hK _ ?_; clear hK K)
             | (apply Exists.intro
                refine ⟨fun xW => ?_, hK _ ?_⟩
                ((go_at_call 39; exact Calls.below (HL.out _)))
                clear hK K))
        with_reducible refine wpQuiet_nil ?_
        rintro _ ⟨⟨w2, hb2⟩, rfl⟩
        try dsimp only
        rename_i w2
        have d0 : w2.cell? ⟨w.heap.size, 0, none⟩ = some (.int .i64 z1) := keepcell hb2 b0
        have d1 : w2.cell? ⟨w.heap.size, 1, none⟩ = some (.int .i64 z2) := keepcell hb2 b1
        have HB2 := Lib.hid (Blw.after HBW.out hb2)
        clear xc0 xc1 xb0 xb1 c0 c1 b0 b1 hb2 hNE HL
        go_wp2_with fail
        go_roundg (gk - 1)
        case measure => have := HKP.out; omega
        case rel => exact ⟨k + 1, by rw [HP.out]; have := HKP.out; omega, by go_num, HB2.out, d0, d1⟩
      · rw [hE] at HL
        have HKP := Lib.hid (show posG (z1, z2) l = k by
          rcases Nat.lt_or_ge k (posG (z1, z2) l) with h | h
          · exfalso
            have := posG_lt h HY.out
            rw [hE] at this; cases this
          · have := HP.out; omega)
        clear hE
        go_upto_region 2 with fail
        have hNE : ∀ w, Nonempty (BelowW w) := BelowW.none
        refine wp_region_below (by kernel_rfl) (by kernel_rfl) ?_
        repeat
          (with_reducible refine wpQuiet_step ?_
           intro K hK
           go_simp
           first
             | (refine hK _ ?_; clear hK K)
             | (apply Exists.intro
                refine ⟨fun xW => ?_, hK _ ?_⟩
                ((go_at_call 39; exact Calls.below (HL.out _)))
                clear hK K))
        with_reducible refine wpQuiet_nil ?_
        rintro _ ⟨⟨w2, hb2⟩, rfl⟩
        try dsimp only
        rename_i w2
        have d0 : w2.cell? ⟨w.heap.size, 0, none⟩ = some (.int .i64 z1) := keepcell hb2 b0
        have d1 : w2.cell? ⟨w.heap.size, 1, none⟩ = some (.int .i64 z2) := keepcell hb2 b1
        have e0 := keepcell hb2 c0
        have e1 := keepcell hb2 c1
        have HB2 := Lib.hid (Blw.after HBW.out hb2)
        have HC2 := Lib.hid (fun j u (hu : (gcells l)[j]? = some u) => keepcell hb2 (HCW.out j u hu))
        have L2 := hb2.size
        clear xc0 xc1 xb0 xb1 c0 c1 b0 b1 hb2 hNE HL HCW HBW
        have xc0 := fun x : BelowW w2 => keepcell x.kept e0
        have xc1 := fun x : BelowW w2 => keepcell x.kept e1
        have xb0 := fun x : BelowW w2 => keepcell x.kept d0
        have xb1 := fun x : BelowW w2 => keepcell x.kept d1
        go_upto_region 4 with fail
        by_cases h1 : y1 = z1
        · by_cases h2 : y2 = z2
          · subst h1
            subst h2
            have HI := Lib.hid (insG_has (z := (y1, y2)) (l := l) (by rw [HKP.out]; exact HY.out))
            have hNE : ∀ w, Nonempty (BelowW w) := BelowW.none
            refine wp_region_below (by kernel_rfl) (by kernel_rfl) ?_
            repeat
              (with_reducible refine wpQuiet_step ?_
               intro K hK
               go_simp
               first
                 | (refine hK _ ?_; clear hK K)
                 | (apply Exists.intro
                    refine ⟨fun xW => ?_, hK _ ?_⟩
                    (fail)
                    clear hK K))
            with_reducible refine wpQuiet_nil ?_
            rintro _ ⟨⟨w2, hb2⟩, rfl⟩
            try dsimp only
            rename_i w3
            have HB3 := Lib.hid (Blw.after HB2.out hb2)
            clear xc0 xc1 xb0 xb1 d0 d1 e0 e1 hb2 hNE
            go_wp2_with fail
            go_ret
            refine ⟨.slice (some ⟨g, 0, none⟩) ln c, rfl, ?_, HB3.out⟩
            rw [HI.out]
            exact ⟨g, c, by rw [HLN.out], own_below HROW.out HB3.out⟩
          · have h3 : (y2 == z2) = false := by simp [h2]
            have h1' := h1.symm
            clear h1
            subst h1'
            have hNE : ∀ w, Nonempty (BelowW w) := BelowW.none
            refine wp_region_below (by kernel_rfl) (by kernel_rfl) ?_
            repeat
              (with_reducible refine wpQuiet_step ?_
               intro K hK
               go_simp
               first
                 | (refine hK _ ?_; clear hK K)
                 | (apply Exists.intro
                    refine ⟨fun xW => ?_, hK _ ?_⟩
                    (fail)
                    clear hK K))
            with_reducible refine wpQuiet_nil ?_
            rintro _ ⟨⟨w2, hb2⟩, rfl⟩
            try dsimp only
            rename_i w3
            have f0 := keepcell hb2 d0
            have f1 := keepcell hb2 d1
            have HC3 := Lib.hid (fun j u (hu : (gcells l)[j]? = some u) => keepcell hb2 (HC2.out j u hu))
            have HB3 := Lib.hid (Blw.after HB2.out hb2)
            have HI := Lib.hid (insG_new (z := (z1, z2)) (l := l) (by rw [HKP.out, HY.out]; simp; exact h2))
            rw [HKP.out] at HI
            have L3 := hb2.size
            clear xc0 xc1 xb0 xb1 d0 d1 e0 e1 hb2 hNE HC2 HB2 HY
            go_upto_region 6 with fail
            have hd6 : Below w3.heap.size w3 w3.drew := (Below.refl _ _).drew
            refine wp_region_held_drew (S := fun w' => Below w3.heap.size w3 w') (by kernel_rfl) hd6 ?_
            intro hS0
            have zV : w3.drew.heap.size = w3.heap.size := rfl
            generalize w3.drew = V0 at *
            clear hd6
            have hkl : k ≤ ln := by omega
            have hkc : ¬ c < k := by omega
            obtain ⟨ad, had⟩ : ∃ ad : Addr, (if c = k then some (⟨g, 0, none⟩ : Addr) else some ⟨g, k * 2, none⟩) = some ad := by split <;> exact ⟨_, rfl⟩
            refine wpAnyH_take (i := 1) (v := ?_) rfl (by kernel_rfl) (by kernel_rfl) (by kernel_rfl) (fun _ _ _ h => h) (Or.inl ⟨by rfl, ?_⟩) hS0 ?_
            case refine_1 => exact .slice (some ⟨g, 0, none⟩) ln c
            · intro wq hSw; go_simp
            refine wpAnyH_take (i := 2) (v := ?_) rfl (by kernel_rfl) (by kernel_rfl) (by kernel_rfl) (fun _ _ _ h => h) (Or.inl ⟨by rfl, ?_⟩) hS0 ?_
            case refine_1 => exact .int .i64 (k : Nat)
            · intro wq hSw; go_simp
            refine wpAnyH_take (i := 3) (v := ?_) rfl (by kernel_rfl) (by kernel_rfl) (by kernel_rfl) (fun _ _ _ h => h) (Or.inl ⟨by rfl, ?_⟩) hS0 ?_
            case refine_1 => exact .slice (some ⟨g, 0, none⟩) k c
            · intro wq hSw; first | (go_simp; done) | (go_simp; intro h; exact absurd h hkc)
            refine wpAnyH_take (i := 5) (v := ?_) rfl (by kernel_rfl) (by kernel_rfl) (by kernel_rfl) (fun _ _ _ h => h) (Or.inl ⟨by rfl, ?_⟩) hS0 ?_
            case refine_1 => exact .agg #[.int .i64 z1, .int .i64 z2]
            · intro wq hSw; have q0 := keepcell hSw f0; have q1 := keepcell hSw f1; go_simp
            refine wpAnyH_take (i := 8) (v := ?_) rfl (by kernel_rfl) (by kernel_rfl) (by kernel_rfl) (fun _ _ _ h => h) (Or.inl ⟨by rfl, ?_⟩) hS0 ?_
            case refine_1 => exact .slice (some ⟨g, 0, none⟩) ln c
            · intro wq hSw; go_simp
            refine wpAnyH_take (i := 9) (v := ?_) rfl (by kernel_rfl) (by kernel_rfl) (by kernel_rfl) (fun _ _ _ h => h) (Or.inl ⟨by rfl, ?_⟩) hS0 ?_
            case refine_1 => exact .int .i64 (k : Nat)
            · intro wq hSw; go_simp
            refine wpAnyH_take (i := 10) (v := ?_) rfl (by kernel_rfl) (by kernel_rfl) (by kernel_rfl) (fun _ _ _ h => h) (Or.inl ⟨by rfl, ?_⟩) hS0 ?_
            case refine_1 => exact .slice (some ad) (ln - k) (c - k)
            · intro wq hSw; first | (go_simp; done) | (go_simp; rw [if_pos hkl, had]) | (go_simp; rw [had])
            have Lg3 : g < w3.heap.size := by omega
            have s0 := hS0
            have p0 := s0.size
            clear zV
            have hlt4 : (gcells (l.take k)).length = k * 2 := by rw [gcells_len, List.length_take, HLN.out, Nat.min_eq_left hkl]
            have hlt11 : (gcells (l.drop k)).length = (ln - k) * 2 := by rw [gcells_len, List.length_drop, HLN.out]
            have HNK := Lib.hid (show ∀ j u, (gcells (l.drop k))[j]? = some u → ¬ c = k from fun j u hu => by have := (List.getElem?_eq_some_iff.1 hu).1; omega)
            have HLE := Lib.hid (show (insG (z1, z2) l).length = 0 + k + 1 + (ln - k) by rw [HI.out, List.length_append, List.length_take, List.length_cons, List.length_drop, HLN.out]; omega)
            have HGE := Lib.hid (show gcells (insG (z1, z2) l) = [] ++ gcells (l.take k) ++ [.int .i64 z1, .int .i64 z2] ++ gcells (l.drop k) by rw [HI.out]; simp [gcells])
            refine wpAnyH_ready (rs := [0, 6]) (by kernel_rfl) (by simp) ?_
            refine AllReadyH.cons rfl (fun K hK => ?_) (AllReadyH.cons rfl (fun K hK => ?_) AllReadyH.nil)
            · rw [if_pos ?hw]
              case hw => kernel_rfl
              go_wp2_with fail
              have s1 : Below w3.heap.size w3 (V0.alloc (.cells #[] 29)) := Blw.alloc s0 _
              have p1 := s1.size
              have r33 : (V0.alloc (.cells #[] 29)).ownsRow w3.heap.size 29 2 (.slice (some ⟨V0.heap.size, 0, none⟩) 0 0) 0 [] := ⟨rfl, .inr ⟨V0.heap.size, 0, #[], rfl, p0, World.alloc_heap_new V0 _, Nat.le_refl _, by unfold maxLen; omega, rfl, rfl⟩⟩
              refine hK.out _ _ s1 ?_
              clear hK K
              intro _
              generalize hV : V0.alloc (.cells #[] 29) = V1 at *
              clear hV
              refine wpAnyH_ready (rs := [4, 6]) (by kernel_rfl) (by simp) ?_
              refine AllReadyH.cons rfl (fun K hK => ?_) (AllReadyH.cons rfl (fun K hK => ?_) AllReadyH.nil)
              · rw [if_pos ?hw]
                case hw => kernel_rfl
                refine wp_append_own _ _ _ 24 rfl w3.heap.size 29 i0 (.agg #[.int .i64 0, .int .i64 0]) 2 16 Tryd.underlying24 hi hz0 hz1 hz2 rfl (by decide) _ _ _ rfl r33 ⟨g, 0, none⟩ k c (gcells (l.take k)) rfl hlt4 (fun j u hu => by have := (s1.cell (p := ⟨g, j, none⟩) Lg3).trans (HC3.out j u (gcells_take l k j u hu)); rw [add_at, Nat.zero_add]; exact this) (gcells_one _) (by unfold maxLen; omega) (by omega) p1 ?_
                intro v37 V2 r37 hgr _
                have s2 : Below w3.heap.size w3 V2 := Below.grown s1 hgr p1 (fun j hj => (r33.lt j hj).1)
                have p2 := s2.size
                clear hgr r33
                refine hK.out _ _ s2 ?_
                clear hK K
                intro _
                refine wpAnyH_ready (rs := [6]) (by kernel_rfl) (by simp) ?_
                refine AllReadyH.cons rfl (fun K hK => ?_) AllReadyH.nil
                rw [if_pos ?hw]
                case hw => kernel_rfl
                go_wp2_with fail
                have s3 : Below w3.heap.size w3 (V2.alloc (.cells #[.int .i64 z1, .int .i64 z2] 29)) := Blw.alloc s2 _
                have p3 := s3.size
                have z0c : (V2.alloc (.cells #[.int .i64 z1, .int .i64 z2] 29)).cell? ⟨V2.heap.size, 0, none⟩ = some (.int .i64 z1) := by go_simp
                have z1c : (V2.alloc (.cells #[.int .i64 z1, .int .i64 z2] 29)).cell? ⟨V2.heap.size, 1, none⟩ = some (.int .i64 z2) := by go_simp
                have r37' := r37.alloc (.cells #[.int .i64 z1, .int .i64 z2] 29)
                clear r37
                have r37 := r37'
                clear r37'
                refine hK.out _ _ s3 ?_
                clear hK K
                intro _
                generalize hV : V2.alloc (.cells #[.int .i64 z1, .int .i64 z2] 29) = V3 at *
                clear hV
                refine wpAnyH_ready (rs := [7]) (by kernel_rfl) (by simp) ?_
                refine AllReadyH.cons rfl (fun K hK => ?_) AllReadyH.nil
                rw [if_pos ?hw]
                case hw => kernel_rfl
                refine wp_append_own _ _ _ 24 rfl w3.heap.size 29 i0 (.agg #[.int .i64 0, .int .i64 0]) 2 16 Tryd.underlying24 hi hz0 hz1 hz2 rfl (by decide) _ _ _ rfl r37 ⟨V2.heap.size, 0, none⟩ 1 1 [.int .i64 z1, .int .i64 z2] rfl rfl (fun j u hu => cells_pair z0c z1c j u hu) (two_one _ _) (by unfold maxLen; omega) (by omega) p3 ?_
                intro v40 V4 r40 hgr _
                have s4 : Below w3.heap.size w3 V4 := Below.grown s3 hgr p3 (fun j hj => (r37.lt j hj).1)
                have p4 := s4.size
                clear hgr r37 z0c z1c
                refine hK.out _ _ s4 ?_
                clear hK K
                intro _
                refine wpAnyH_ready (rs := [11]) (by kernel_rfl) (by simp) ?_
                refine AllReadyH.cons rfl (fun K hK => ?_) AllReadyH.nil
                rw [if_pos ?hw]
                case hw => kernel_rfl
                refine wp_append_own _ _ _ 24 rfl w3.heap.size 29 i0 (.agg #[.int .i64 0, .int .i64 0]) 2 16 Tryd.underlying24 hi hz0 hz1 hz2 rfl (by decide) _ _ _ rfl r40 ad (ln - k) (c - k) (gcells (l.drop k)) rfl hlt11 (fun j u hu => ?_) (gcells_one _) (by unfold maxLen; omega) (by omega) p4 ?_
                · have hne : ¬ c = k := HNK.out j u hu
                  rw [if_neg hne] at had
                  cases had
                  have := (s4.cell (p := ⟨g, k * 2 + j, none⟩) Lg3).trans (HC3.out _ u (gcells_drop l k j u (by rw [HLN.out]; omega) hu))
                  rw [add_at]; exact this
                intro v44 V5 r44 hgr _
                have s5 : Below w3.heap.size w3 V5 := Below.grown s4 hgr p4 (fun j hj => (r40.lt j hj).1)
                clear hgr r40
                refine hK.out _ _ s5 ?_
                clear hK K
                intro _
                refine wpAnyH_ready (rs := [12]) (by kernel_rfl) (by simp) ?_
                refine AllReadyH.cons rfl (fun K hK => ?_) AllReadyH.nil
                rw [if_pos ?hw]
                case hw => kernel_rfl
                go_simp
                refine hK.out _ _ s5 ?_
                clear hK K
                intro _
                refine wpAnyH_done (by kernel_rfl) ?_ _
                go_wp2_with fail
                go_ret
                refine ⟨v44, rfl, row_end r44 (by omega) HLE.out HGE.out (by omega), Blw.after HB3.out s5⟩
              · rw [if_pos ?hw]
                case hw => kernel_rfl
                go_wp2_with fail
                have s2 : Below w3.heap.size w3 (V1.alloc (.cells #[.int .i64 z1, .int .i64 z2] 29)) := Blw.alloc s1 _
                have p2 := s2.size
                have z0c : (V1.alloc (.cells #[.int .i64 z1, .int .i64 z2] 29)).cell? ⟨V1.heap.size, 0, none⟩ = some (.int .i64 z1) := by go_simp
                have z1c : (V1.alloc (.cells #[.int .i64 z1, .int .i64 z2] 29)).cell? ⟨V1.heap.size, 1, none⟩ = some (.int .i64 z2) := by go_simp
                have r33' := r33.alloc (.cells #[.int .i64 z1, .int .i64 z2] 29)
                have hbz : V1.heap.size ≠ V0.heap.size := fun e => by have := (r33.lt V0.heap.size rfl).2; omega
                clear r33
                have r33 := r33'
                clear r33'
                refine hK.out _ _ s2 ?_
                clear hK K
                intro _
                generalize hV : V1.alloc (.cells #[.int .i64 z1, .int .i64 z2] 29) = V2 at *
                clear hV
                refine wpAnyH_ready (rs := [4]) (by kernel_rfl) (by simp) ?_
                refine AllReadyH.cons rfl (fun K hK => ?_) AllReadyH.nil
                rw [if_pos ?hw]
                case hw => kernel_rfl
                refine wp_append_own _ _ _ 24 rfl w3.heap.size 29 i0 (.agg #[.int .i64 0, .int .i64 0]) 2 16 Tryd.underlying24 hi hz0 hz1 hz2 rfl (by decide) _ _ _ rfl r33 ⟨g, 0, none⟩ k c (gcells (l.take k)) rfl hlt4 (fun j u hu => by have := (s2.cell (p := ⟨g, j, none⟩) Lg3).trans (HC3.out j u (gcells_take l k j u hu)); rw [add_at, Nat.zero_add]; exact this) (gcells_one _) (by unfold maxLen; omega) (by omega) p2 ?_
                intro v37 V3 r37 hgr _
                have s3 : Below w3.heap.size w3 V3 := Below.grown s2 hgr p2 (fun j hj => (r33.lt j hj).1)
                have p3 := s3.size
                have z0' := hgr.cell z0c (fun e => hbz (Option.some.inj e))
                have z1' := hgr.cell z1c (fun e => hbz (Option.some.inj e))
                clear z0c z1c
                have z0c := z0'
                have z1c := z1'
                clear z0' z1'
                clear hgr r33
                refine hK.out _ _ s3 ?_
                clear hK K
                intro _
                refine wpAnyH_ready (rs := [7]) (by kernel_rfl) (by simp) ?_
                refine AllReadyH.cons rfl (fun K hK => ?_) AllReadyH.nil
                rw [if_pos ?hw]
                case hw => kernel_rfl
                refine wp_append_own _ _ _ 24 rfl w3.heap.size 29 i0 (.agg #[.int .i64 0, .int .i64 0]) 2 16 Tryd.underlying24 hi hz0 hz1 hz2 rfl (by decide) _ _ _ rfl r37 ⟨V1.heap.size, 0, none⟩ 1 1 [.int .i64 z1, .int .i64 z2] rfl rfl (fun j u hu => cells_pair z0c z1c j u hu) (two_one _ _) (by unfold maxLen; omega) (by omega) p3 ?_
                intro v40 V4 r40 hgr _
                have s4 : Below w3.heap.size w3 V4 := Below.grown s3 hgr p3 (fun j hj => (r37.lt j hj).1)
                have p4 := s4.size
                clear hgr r37 z0c z1c
                refine hK.out _ _ s4 ?_
                clear hK K
                intro _
                refine wpAnyH_ready (rs := [11]) (by kernel_rfl) (by simp) ?_
                refine AllReadyH.cons rfl (fun K hK => ?_) AllReadyH.nil
                rw [if_pos ?hw]
                case hw => kernel_rfl
                refine wp_append_own _ _ _ 24 rfl w3.heap.size 29 i0 (.agg #[.int .i64 0, .int .i64 0]) 2 16 Tryd.underlying24 hi hz0 hz1 hz2 rfl (by decide) _ _ _ rfl r40 ad (ln - k) (c - k) (gcells (l.drop k)) rfl hlt11 (fun j u hu => ?_) (gcells_one _) (by unfold maxLen; omega) (by omega) p4 ?_
                · have hne : ¬ c = k := HNK.out j u hu
                  rw [if_neg hne] at had
                  cases had
                  have := (s4.cell (p := ⟨g, k * 2 + j, none⟩) Lg3).trans (HC3.out _ u (gcells_drop l k j u (by rw [HLN.out]; omega) hu))
                  rw [add_at]; exact this
                intro v44 V5 r44 hgr _
                have s5 : Below w3.heap.size w3 V5 := Below.grown s4 hgr p4 (fun j hj => (r40.lt j hj).1)
                clear hgr r40
                refine hK.out _ _ s5 ?_
                clear hK K
                intro _
                refine wpAnyH_ready (rs := [12]) (by kernel_rfl) (by simp) ?_
                refine AllReadyH.cons rfl (fun K hK => ?_) AllReadyH.nil
                rw [if_pos ?hw]
                case hw => kernel_rfl
                go_simp
                refine hK.out _ _ s5 ?_
                clear hK K
                intro _
                refine wpAnyH_done (by kernel_rfl) ?_ _
                go_wp2_with fail
                go_ret
                refine ⟨v44, rfl, row_end r44 (by omega) HLE.out HGE.out (by omega), Blw.after HB3.out s5⟩
            · rw [if_pos ?hw]
              case hw => kernel_rfl
              go_wp2_with fail
              have s1 : Below w3.heap.size w3 (V0.alloc (.cells #[.int .i64 z1, .int .i64 z2] 29)) := Blw.alloc s0 _
              have p1 := s1.size
              have z0c : (V0.alloc (.cells #[.int .i64 z1, .int .i64 z2] 29)).cell? ⟨V0.heap.size, 0, none⟩ = some (.int .i64 z1) := by go_simp
              have z1c : (V0.alloc (.cells #[.int .i64 z1, .int .i64 z2] 29)).cell? ⟨V0.heap.size, 1, none⟩ = some (.int .i64 z2) := by go_simp
              refine hK.out _ _ s1 ?_
              clear hK K
              intro _
              generalize hV : V0.alloc (.cells #[.int .i64 z1, .int .i64 z2] 29) = V1 at *
              clear hV
              refine wpAnyH_ready (rs := [0]) (by kernel_rfl) (by simp) ?_
              refine AllReadyH.cons rfl (fun K hK => ?_) AllReadyH.nil
              rw [if_pos ?hw]
              case hw => kernel_rfl
              go_wp2_with fail
              have s2 : Below w3.heap.size w3 (V1.alloc (.cells #[] 29)) := Blw.alloc s1 _
              have p2 := s2.size
              have r33 : (V1.alloc (.cells #[] 29)).ownsRow w3.heap.size 29 2 (.slice (some ⟨V1.heap.size, 0, none⟩) 0 0) 0 [] := ⟨rfl, .inr ⟨V1.heap.size, 0, #[], rfl, p1, World.alloc_heap_new V1 _, Nat.le_refl _, by unfold maxLen; omega, rfl, rfl⟩⟩
              have z0' := keepcell ((Below.refl V1.heap.size V1).alloc (Nat.le_refl _) (.cells #[] 29)) z0c
              have z1' := keepcell ((Below.refl V1.heap.size V1).alloc (Nat.le_refl _) (.cells #[] 29)) z1c
              have hbz : V0.heap.size ≠ V1.heap.size := Nat.ne_of_lt (World.block_lt_of_cell? V1 _ z0c)
              clear z0c z1c
              have z0c := z0'
              have z1c := z1'
              clear z0' z1'
              refine hK.out _ _ s2 ?_
              clear hK K
              intro _
              generalize hV : V1.alloc (.cells #[] 29) = V2 at *
              clear hV
              refine wpAnyH_ready (rs := [4]) (by kernel_rfl) (by simp) ?_
              refine AllReadyH.cons rfl (fun K hK => ?_) AllReadyH.nil
              rw [if_pos ?hw]
              case hw => kernel_rfl
              refine wp_append_own _ _ _ 24 rfl w3.heap.size 29 i0 (.agg #[.int .i64 0, .int .i64 0]) 2 16 Tryd.underlying24 hi hz0 hz1 hz2 rfl (by decide) _ _ _ rfl r33 ⟨g, 0, none⟩ k c (gcells (l.take k)) rfl hlt4 (fun j u hu => by have := (s2.cell (p := ⟨g, j, none⟩) Lg3).trans (HC3.out j u (gcells_take l k j u hu)); rw [add_at, Nat.zero_add]; exact this) (gcells_one _) (by unfold maxLen; omega) (by omega) p2 ?_
              intro v37 V3 r37 hgr _
              have s3 : Below w3.heap.size w3 V3 := Below.grown s2 hgr p2 (fun j hj => (r33.lt j hj).1)
              have p3 := s3.size
              have z0' := hgr.cell z0c (fun e => hbz (Option.some.inj e))
              have z1' := hgr.cell z1c (fun e => hbz (Option.some.inj e))
              clear z0c z1c
              have z0c := z0'
              have z1c := z1'
              clear z0' z1'
              clear hgr r33
              refine hK.out _ _ s3 ?_
              clear hK K
              intro _
              refine wpAnyH_ready (rs := [7]) (by kernel_rfl) (by simp) ?_
              refine AllReadyH.cons rfl (fun K hK => ?_) AllReadyH.nil
              rw [if_pos ?hw]
              case hw => kernel_rfl
              refine wp_append_own _ _ _ 24 rfl w3.heap.size 29 i0 (.agg #[.int .i64 0, .int .i64 0]) 2 16 Tryd.underlying24 hi hz0 hz1 hz2 rfl (by decide) _ _ _ rfl r37 ⟨V0.heap.size, 0, none⟩ 1 1 [.int .i64 z1, .int .i64 z2] rfl rfl (fun j u hu => cells_pair z0c z1c j u hu) (two_one _ _) (by unfold maxLen; omega) (by omega) p3 ?_
              intro v40 V4 r40 hgr _
              have s4 : Below w3.heap.size w3 V4 := Below.grown s3 hgr p3 (fun j hj => (r37.lt j hj).1)
              have p4 := s4.size
              clear hgr r37 z0c z1c
              refine hK.out _ _ s4 ?_
              clear hK K
              intro _
              refine wpAnyH_ready (rs := [11]) (by kernel_rfl) (by simp) ?_
              refine AllReadyH.cons rfl (fun K hK => ?_) AllReadyH.nil
              rw [if_pos ?hw]
              case hw => kernel_rfl
              refine wp_append_own _ _ _ 24 rfl w3.heap.size 29 i0 (.agg #[.int .i64 0, .int .i64 0]) 2 16 Tryd.underlying24 hi hz0 hz1 hz2 rfl (by decide) _ _ _ rfl r40 ad (ln - k) (c - k) (gcells (l.drop k)) rfl hlt11 (fun j u hu => ?_) (gcells_one _) (by unfold maxLen; omega) (by omega) p4 ?_
              · have hne : ¬ c = k := HNK.out j u hu
                rw [if_neg hne] at had
                cases had
                have := (s4.cell (p := ⟨g, k * 2 + j, none⟩) Lg3).trans (HC3.out _ u (gcells_drop l k j u (by rw [HLN.out]; omega) hu))
                rw [add_at]; exact this
              intro v44 V5 r44 hgr _
              have s5 : Below w3.heap.size w3 V5 := Below.grown s4 hgr p4 (fun j hj => (r40.lt j hj).1)
              clear hgr r40
              refine hK.out _ _ s5 ?_
              clear hK K
              intro _
              refine wpAnyH_ready (rs := [12]) (by kernel_rfl) (by simp) ?_
              refine AllReadyH.cons rfl (fun K hK => ?_) AllReadyH.nil
              rw [if_pos ?hw]
              case hw => kernel_rfl
              go_simp
              refine hK.out _ _ s5 ?_
              clear hK K
              intro _
              refine wpAnyH_done (by kernel_rfl) ?_ _
              go_wp2_with fail
              go_ret
              refine ⟨v44, rfl, row_end r44 (by omega) HLE.out HGE.out (by omega), Blw.after HB3.out s5⟩
        · have h3 : (y1 == z1) = false := by simp [h1]
          have hNE : ∀ w, Nonempty (BelowW w) := BelowW.none
          refine wp_region_below (by kernel_rfl) (by kernel_rfl) ?_
          repeat
            (with_reducible refine wpQuiet_step ?_
             intro K hK
             go_simp
             first
               | (refine hK _ ?_; clear hK K)
               | (apply Exists.intro
                  refine ⟨fun xW => ?_, hK _ ?_⟩
                  (fail)
                  clear hK K))
          with_reducible refine wpQuiet_nil ?_
          rintro _ ⟨⟨w2, hb2⟩, rfl⟩
          try dsimp only
          rename_i w3
          have f0 := keepcell hb2 d0
          have f1 := keepcell hb2 d1
          have HC3 := Lib.hid (fun j u (hu : (gcells l)[j]? = some u) => keepcell hb2 (HC2.out j u hu))
          have HB3 := Lib.hid (Blw.after HB2.out hb2)
          have HI := Lib.hid (insG_new (z := (z1, z2)) (l := l) (by rw [HKP.out, HY.out]; simp; exact fun h => absurd h h1))
          rw [HKP.out] at HI
          have L3 := hb2.size
          clear xc0 xc1 xb0 xb1 d0 d1 e0 e1 hb2 hNE HC2 HB2 HY
          go_upto_region 6 with fail
          have hd6 : Below w3.heap.size w3 w3.drew := (Below.refl _ _).drew
          refine wp_region_held_drew (S := fun w' => Below w3.heap.size w3 w') (by kernel_rfl) hd6 ?_
          intro hS0
          have zV : w3.drew.heap.size = w3.heap.size := rfl
          generalize w3.drew = V0 at *
          clear hd6
          have hkl : k ≤ ln := by omega
          have hkc : ¬ c < k := by omega
          obtain ⟨ad, had⟩ : ∃ ad : Addr, (if c = k then some (⟨g, 0, none⟩ : Addr) else some ⟨g, k * 2, none⟩) = some ad := by split <;> exact ⟨_, rfl⟩
          refine wpAnyH_take (i := 1) (v := ?_) rfl (by kernel_rfl) (by kernel_rfl) (by kernel_rfl) (fun _ _ _ h => h) (Or.inl ⟨by rfl, ?_⟩) hS0 ?_
          case refine_1 => exact .slice (some ⟨g, 0, none⟩) ln c
          · intro wq hSw; go_simp
          refine wpAnyH_take (i := 2) (v := ?_) rfl (by kernel_rfl) (by kernel_rfl) (by kernel_rfl) (fun _ _ _ h => h) (Or.inl ⟨by rfl, ?_⟩) hS0 ?_
          case refine_1 => exact .int .i64 (k : Nat)
          · intro wq hSw; go_simp
          refine wpAnyH_take (i := 3) (v := ?_) rfl (by kernel_rfl) (by kernel_rfl) (by kernel_rfl) (fun _ _ _ h => h) (Or.inl ⟨by rfl, ?_⟩) hS0 ?_
          case refine_1 => exact .slice (some ⟨g, 0, none⟩) k c
          · intro wq hSw; first | (go_simp; done) | (go_simp; intro h; exact absurd h hkc)
          refine wpAnyH_take (i := 5) (v := ?_) rfl (by kernel_rfl) (by kernel_rfl) (by kernel_rfl) (fun _ _ _ h => h) (Or.inl ⟨by rfl, ?_⟩) hS0 ?_
          case refine_1 => exact .agg #[.int .i64 z1, .int .i64 z2]
          · intro wq hSw; have q0 := keepcell hSw f0; have q1 := keepcell hSw f1; go_simp
          refine wpAnyH_take (i := 8) (v := ?_) rfl (by kernel_rfl) (by kernel_rfl) (by kernel_rfl) (fun _ _ _ h => h) (Or.inl ⟨by rfl, ?_⟩) hS0 ?_
          case refine_1 => exact .slice (some ⟨g, 0, none⟩) ln c
          · intro wq hSw; go_simp
          refine wpAnyH_take (i := 9) (v := ?_) rfl (by kernel_rfl) (by kernel_rfl) (by kernel_rfl) (fun _ _ _ h => h) (Or.inl ⟨by rfl, ?_⟩) hS0 ?_
          case refine_1 => exact .int .i64 (k : Nat)
          · intro wq hSw; go_simp
          refine wpAnyH_take (i := 10) (v := ?_) rfl (by kernel_rfl) (by kernel_rfl) (by kernel_rfl) (fun _ _ _ h => h) (Or.inl ⟨by rfl, ?_⟩) hS0 ?_
          case refine_1 => exact .slice (some ad) (ln - k) (c - k)
          · intro wq hSw; first | (go_simp; done) | (go_simp; rw [if_pos hkl, had]) | (go_simp; rw [had])
          have Lg3 : g < w3.heap.size := by omega
          have s0 := hS0
          have p0 := s0.size
          clear zV
          have hlt4 : (gcells (l.take k)).length = k * 2 := by rw [gcells_len, List.length_take, HLN.out, Nat.min_eq_left hkl]
          have hlt11 : (gcells (l.drop k)).length = (ln - k) * 2 := by rw [gcells_len, List.length_drop, HLN.out]
          have HNK := Lib.hid (show ∀ j u, (gcells (l.drop k))[j]? = some u → ¬ c = k from fun j u hu => by have := (List.getElem?_eq_some_iff.1 hu).1; omega)
          have HLE := Lib.hid (show (insG (z1, z2) l).length = 0 + k + 1 + (ln - k) by rw [HI.out, List.length_append, List.length_take, List.length_cons, List.length_drop, HLN.out]; omega)
          have HGE := Lib.hid (show gcells (insG (z1, z2) l) = [] ++ gcells (l.take k) ++ [.int .i64 z1, .int .i64 z2] ++ gcells (l.drop k) by rw [HI.out]; simp [gcells])
          refine wpAnyH_ready (rs := [0, 6]) (by kernel_rfl) (by simp) ?_
          refine AllReadyH.cons rfl (fun K hK => ?_) (AllReadyH.cons rfl (fun K hK => ?_) AllReadyH.nil)
          · rw [if_pos ?hw]
            case hw => kernel_rfl
            go_wp2_with fail
            have s1 : Below w3.heap.size w3 (V0.alloc (.cells #[] 29)) := Blw.alloc s0 _
            have p1 := s1.size
            have r33 : (V0.alloc (.cells #[] 29)).ownsRow w3.heap.size 29 2 (.slice (some ⟨V0.heap.size, 0, none⟩) 0 0) 0 [] := ⟨rfl, .inr ⟨V0.heap.size, 0, #[], rfl, p0, World.alloc_heap_new V0 _, Nat.le_refl _, by unfold maxLen; omega, rfl, rfl⟩⟩
            refine hK.out _ _ s1 ?_
            clear hK K
            intro _
            generalize hV : V0.alloc (.cells #[] 29) = V1 at *
            clear hV
            refine wpAnyH_ready (rs := [4, 6]) (by kernel_rfl) (by simp) ?_
            refine AllReadyH.cons rfl (fun K hK => ?_) (AllReadyH.cons rfl (fun K hK => ?_) AllReadyH.nil)
            · rw [if_pos ?hw]
              case hw => kernel_rfl
              refine wp_append_own _ _ _ 24 rfl w3.heap.size 29 i0 (.agg #[.int .i64 0, .int .i64 0]) 2 16 Tryd.underlying24 hi hz0 hz1 hz2 rfl (by decide) _ _ _ rfl r33 ⟨g, 0, none⟩ k c (gcells (l.take k)) rfl hlt4 (fun j u hu => by have := (s1.cell (p := ⟨g, j, none⟩) Lg3).trans (HC3.out j u (gcells_take l k j u hu)); rw [add_at, Nat.zero_add]; exact this) (gcells_one _) (by unfold maxLen; omega) (by omega) p1 ?_
              intro v37 V2 r37 hgr _
              have s2 : Below w3.heap.size w3 V2 := Below.grown s1 hgr p1 (fun j hj => (r33.lt j hj).1)
              have p2 := s2.size
              clear hgr r33
              refine hK.out _ _ s2 ?_
              clear hK K
              intro _
              refine wpAnyH_ready (rs := [6]) (by kernel_rfl) (by simp) ?_
              refine AllReadyH.cons rfl (fun K hK => ?_) AllReadyH.nil
              rw [if_pos ?hw]
              case hw => kernel_rfl
              go_wp2_with fail
              have s3 : Below w3.heap.size w3 (V2.alloc (.cells #[.int .i64 z1, .int .i64 z2] 29)) := Blw.alloc s2 _
              have p3 := s3.size
              have z0c : (V2.alloc (.cells #[.int .i64 z1, .int .i64 z2] 29)).cell? ⟨V2.heap.size, 0, none⟩ = some (.int .i64 z1) := by go_simp
              have z1c : (V2.alloc (.cells #[.int .i64 z1, .int .i64 z2] 29)).cell? ⟨V2.heap.size, 1, none⟩ = some (.int .i64 z2) := by go_simp
              have r37' := r37.alloc (.cells #[.int .i64 z1, .int .i64 z2] 29)
              clear r37
              have r37 := r37'
              clear r37'
              refine hK.out _ _ s3 ?_
              clear hK K
              intro _
              generalize hV : V2.alloc (.cells #[.int .i64 z1, .int .i64 z2] 29) = V3 at *
              clear hV
              refine wpAnyH_ready (rs := [7]) (by kernel_rfl) (by simp) ?_
              refine AllReadyH.cons rfl (fun K hK => ?_) AllReadyH.nil
              rw [if_pos ?hw]
              case hw => kernel_rfl
              refine wp_append_own _ _ _ 24 rfl w3.heap.size 29 i0 (.agg #[.int .i64 0, .int .i64 0]) 2 16 Tryd.underlying24 hi hz0 hz1 hz2 rfl (by decide) _ _ _ rfl r37 ⟨V2.heap.size, 0, none⟩ 1 1 [.int .i64 z1, .int .i64 z2] rfl rfl (fun j u hu => cells_pair z0c z1c j u hu) (two_one _ _) (by unfold maxLen; omega) (by omega) p3 ?_
              intro v40 V4 r40 hgr _
              have s4 : Below w3.heap.size w3 V4 := Below.grown s3 hgr p3 (fun j hj => (r37.lt j hj).1)
              have p4 := s4.size
              clear hgr r37 z0c z1c
              refine hK.out _ _ s4 ?_
              clear hK K
              intro _
              refine wpAnyH_ready (rs := [11]) (by kernel_rfl) (by simp) ?_
              refine AllReadyH.cons rfl (fun K hK => ?_) AllReadyH.nil
              rw [if_pos ?hw]
              case hw => kernel_rfl
              refine wp_append_own _ _ _ 24 rfl w3.heap.size 29 i0 (.agg #[.int .i64 0, .int .i64 0]) 2 16 Tryd.underlying24 hi hz0 hz1 hz2 rfl (by decide) _ _ _ rfl r40 ad (ln - k) (c - k) (gcells (l.drop k)) rfl hlt11 (fun j u hu => ?_) (gcells_one _) (by unfold maxLen; omega) (by omega) p4 ?_
              · have hne : ¬ c = k := HNK.out j u hu
                rw [if_neg hne] at had
                cases had
                have := (s4.cell (p := ⟨g, k * 2 + j, none⟩) Lg3).trans (HC3.out _ u (gcells_drop l k j u (by rw [HLN.out]; omega) hu))
                rw [add_at]; exact this
              intro v44 V5 r44 hgr _
              have s5 : Below w3.heap.size w3 V5 := Below.grown s4 hgr p4 (fun j hj => (r40.lt j hj).1)
              clear hgr r40
              refine hK.out _ _ s5 ?_
              clear hK K
              intro _
              refine wpAnyH_ready (rs := [12]) (by kernel_rfl) (by simp) ?_
              refine AllReadyH.cons rfl (fun K hK => ?_) AllReadyH.nil
              rw [if_pos ?hw]
              case hw => kernel_rfl
              go_simp
              refine hK.out _ _ s5 ?_
              clear hK K
              intro _
              refine wpAnyH_done (by kernel_rfl) ?_ _
              go_wp2_with fail
              go_ret
              refine ⟨v44, rfl, row_end r44 (by omega) HLE.out HGE.out (by omega), Blw.after HB3.out s5⟩
            · rw [if_pos ?hw]
              case hw => kernel_rfl
              go_wp2_with fail
              have s2 : Below w3.heap.size w3 (V1.alloc (.cells #[.int .i64 z1, .int .i64 z2] 29)) := Blw.alloc s1 _
              have p2 := s2.size
              have z0c : (V1.alloc (.cells #[.int .i64 z1, .int .i64 z2] 29)).cell? ⟨V1.heap.size, 0, none⟩ = some (.int .i64 z1) := by go_simp
              have z1c : (V1.alloc (.cells #[.int .i64 z1, .int .i64 z2] 29)).cell? ⟨V1.heap.size, 1, none⟩ = some (.int .i64 z2) := by go_simp
              have r33' := r33.alloc (.cells #[.int .i64 z1, .int .i64 z2] 29)
              have hbz : V1.heap.size ≠ V0.heap.size := fun e => by have := (r33.lt V0.heap.size rfl).2; omega
              clear r33
              have r33 := r33'
              clear r33'
              refine hK.out _ _ s2 ?_
              clear hK K
              intro _
              generalize hV : V1.alloc (.cells #[.int .i64 z1, .int .i64 z2] 29) = V2 at *
              clear hV
              refine wpAnyH_ready (rs := [4]) (by kernel_rfl) (by simp) ?_
              refine AllReadyH.cons rfl (fun K hK => ?_) AllReadyH.nil
              rw [if_pos ?hw]
              case hw => kernel_rfl
              refine wp_append_own _ _ _ 24 rfl w3.heap.size 29 i0 (.agg #[.int .i64 0, .int .i64 0]) 2 16 Tryd.underlying24 hi hz0 hz1 hz2 rfl (by decide) _ _ _ rfl r33 ⟨g, 0, none⟩ k c (gcells (l.take k)) rfl hlt4 (fun j u hu => by have := (s2.cell (p := ⟨g, j, none⟩) Lg3).trans (HC3.out j u (gcells_take l k j u hu)); rw [add_at, Nat.zero_add]; exact this) (gcells_one _) (by unfold maxLen; omega) (by omega) p2 ?_
              intro v37 V3 r37 hgr _
              have s3 : Below w3.heap.size w3 V3 := Below.grown s2 hgr p2 (fun j hj => (r33.lt j hj).1)
              have p3 := s3.size
              have z0' := hgr.cell z0c (fun e => hbz (Option.some.inj e))
              have z1' := hgr.cell z1c (fun e => hbz (Option.some.inj e))
              clear z0c z1c
              have z0c := z0'
              have z1c := z1'
              clear z0' z1'
              clear hgr r33
              refine hK.out _ _ s3 ?_
              clear hK K
              intro _
              refine wpAnyH_ready (rs := [7]) (by kernel_rfl) (by simp) ?_
              refine AllReadyH.cons rfl (fun K hK => ?_) AllReadyH.nil
              rw [if_pos ?hw]
              case hw => kernel_rfl
              refine wp_append_own _ _ _ 24 rfl w3.heap.size 29 i0 (.agg #[.int .i64 0, .int .i64 0]) 2 16 Tryd.underlying24 hi hz0 hz1 hz2 rfl (by decide) _ _ _ rfl r37 ⟨V1.heap.size, 0, none⟩ 1 1 [.int .i64 z1, .int .i64 z2] rfl rfl (fun j u hu => cells_pair z0c z1c j u hu) (two_one _ _) (by unfold maxLen; omega) (by omega) p3 ?_
              intro v40 V4 r40 hgr _
              have s4 : Below w3.heap.size w3 V4 := Below.grown s3 hgr p3 (fun j hj => (r37.lt j hj).1)
              have p4 := s4.size
              clear hgr r37 z0c z1c
              refine hK.out _ _ s4 ?_
              clear hK K
              intro _
              refine wpAnyH_ready (rs := [11]) (by kernel_rfl) (by simp) ?_
              refine AllReadyH.cons rfl (fun K hK => ?_) AllReadyH.nil
              rw [if_pos ?hw]
              case hw => kernel_rfl
              refine wp_append_own _ _ _ 24 rfl w3.heap.size 29 i0 (.agg #[.int .i64 0, .int .i64 0]) 2 16 Tryd.underlying24 hi hz0 hz1 hz2 rfl (by decide) _ _ _ rfl r40 ad (ln - k) (c - k) (gcells (l.drop k)) rfl hlt11 (fun j u hu => ?_) (gcells_one _) (by unfold maxLen; omega) (by omega) p4 ?_
              · have hne : ¬ c = k := HNK.out j u hu
                rw [if_neg hne] at had
                cases had
                have := (s4.cell (p := ⟨g, k * 2 + j, none⟩) Lg3).trans (HC3.out _ u (gcells_drop l k j u (by rw [HLN.out]; omega) hu))
                rw [add_at]; exact this
              intro v44 V5 r44 hgr _
              have s5 : Below w3.heap.size w3 V5 := Below.grown s4 hgr p4 (fun j hj => (r40.lt j hj).1)
              clear hgr r40
              refine hK.out _ _ s5 ?_
              clear hK K
              intro _
              refine wpAnyH_ready (rs := [12]) (by kernel_rfl) (by simp) ?_
              refine AllReadyH.cons rfl (fun K hK => ?_) AllReadyH.nil
              rw [if_pos ?hw]
              case hw => kernel_rfl
              go_simp
              refine hK.out _ _ s5 ?_
              clear hK K
              intro _
              refine wpAnyH_done (by kernel_rfl) ?_ _
              go_wp2_with fail
              go_ret
              refine ⟨v44, rfl, row_end r44 (by omega) HLE.out HGE.out (by omega), Blw.after HB3.out s5⟩
          · rw [if_pos ?hw]
            case hw => kernel_rfl
            go_wp2_with fail
            have s1 : Below w3.heap.size w3 (V0.alloc (.cells #[.int .i64 z1, .int .i64 z2] 29)) := Blw.alloc s0 _
            have p1 := s1.size
            have z0c : (V0.alloc (.cells #[.int .i64 z1, .int .i64 z2] 29)).cell? ⟨V0.heap.size, 0, none⟩ = some (.int .i64 z1) := by go_simp
            have z1c : (V0.alloc (.cells #[.int .i64 z1, .int .i64 z2] 29)).cell? ⟨V0.heap.size, 1, none⟩ = some (.int .i64 z2) := by go_simp
            refine hK.out _ _ s1 ?_
            clear hK K
            intro _
            generalize hV : V0.alloc (.cells #[.int .i64 z1, .int .i64 z2] 29) = V1 at *
            clear hV
            refine wpAnyH_ready (rs := [0]) (by kernel_rfl) (by simp) ?_
            refine AllReadyH.cons rfl (fun K hK => ?_) AllReadyH.nil
            rw [if_pos ?hw]
            case hw => kernel_rfl
            go_wp2_with fail
            have s2 : Below w3.heap.size w3 (V1.alloc (.cells #[] 29)) := Blw.alloc s1 _
            have p2 := s2.size
            have r33 : (V1.alloc (.cells #[] 29)).ownsRow w3.heap.size 29 2 (.slice (some ⟨V1.heap.size, 0, none⟩) 0 0) 0 [] := ⟨rfl, .inr ⟨V1.heap.size, 0, #[], rfl, p1, World.alloc_heap_new V1 _, Nat.le_refl _, by unfold maxLen; omega, rfl, rfl⟩⟩
            have z0' := keepcell ((Below.refl V1.heap.size V1).alloc (Nat.le_refl _) (.cells #[] 29)) z0c
            have z1' := keepcell ((Below.refl V1.heap.size V1).alloc (Nat.le_refl _) (.cells #[] 29)) z1c
            have hbz : V0.heap.size ≠ V1.heap.size := Nat.ne_of_lt (World.block_lt_of_cell? V1 _ z0c)
            clear z0c z1c
            have z0c := z0'
            have z1c := z1'
            clear z0' z1'
            refine hK.out _ _ s2 ?_
            clear hK K
            intro _
            generalize hV : V1.alloc (.cells #[] 29) = V2 at *
            clear hV
            refine wpAnyH_ready (rs := [4]) (by kernel_rfl) (by simp) ?_
            refine AllReadyH.cons rfl (fun K hK => ?_) AllReadyH.nil
            rw [if_pos ?hw]
            case hw => kernel_rfl
            refine wp_append_own _ _ _ 24 rfl w3.heap.size 29 i0 (.agg #[.int .i64 0, .int .i64 0]) 2 16 Tryd.underlying24 hi hz0 hz1 hz2 rfl (by decide) _ _ _ rfl r33 ⟨g, 0, none⟩ k c (gcells (l.take k)) rfl hlt4 (fun j u hu => by have := (s2.cell (p := ⟨g, j, none⟩) Lg3).trans (HC3.out j u (gcells_take l k j u hu)); rw [add_at, Nat.zero_add]; exact this) (gcells_one _) (by unfold maxLen; omega) (by omega) p2 ?_
            intro v37 V3 r37 hgr _
            have s3 : Below w3.heap.size w3 V3 := Below.grown s2 hgr p2 (fun j hj => (r33.lt j hj).1)
            have p3 := s3.size
            have z0' := hgr.cell z0c (fun e => hbz (Option.some.inj e))
            have z1' := hgr.cell z1c (fun e => hbz (Option.some.inj e))
            clear z0c z1c
            have z0c := z0'
            have z1c := z1'
            clear z0' z1'
            clear hgr r33
            refine hK.out _ _ s3 ?_
            clear hK K
            intro _
            refine wpAnyH_ready (rs := [7]) (by kernel_rfl) (by simp) ?_
            refine AllReadyH.cons rfl (fun K hK => ?_) AllReadyH.nil
            rw [if_pos ?hw]
            case hw => kernel_rfl
            refine wp_append_own _ _ _ 24 rfl w3.heap.size 29 i0 (.agg #[.int .i64 0, .int .i64 0]) 2 16 Tryd.underlying24 hi hz0 hz1 hz2 rfl (by decide) _ _ _ rfl r37 ⟨V0.heap.size, 0, none⟩ 1 1 [.int .i64 z1, .int .i64 z2] rfl rfl (fun j u hu => cells_pair z0c z1c j u hu) (two_one _ _) (by unfold maxLen; omega) (by omega) p3 ?_
            intro v40 V4 r40 hgr _
            have s4 : Below w3.heap.size w3 V4 := Below.grown s3 hgr p3 (fun j hj => (r37.lt j hj).1)
            have p4 := s4.size
            clear hgr r37 z0c z1c
            refine hK.out _ _ s4 ?_
            clear hK K
            intro _
            refine wpAnyH_ready (rs := [11]) (by kernel_rfl) (by simp) ?_
            refine AllReadyH.cons rfl (fun K hK => ?_) AllReadyH.nil
            rw [if_pos ?hw]
            case hw => kernel_rfl
            refine wp_append_own _ _ _ 24 rfl w3.heap.size 29 i0 (.agg #[.int .i64 0, .int .i64 0]) 2 16 Tryd.underlying24 hi hz0 hz1 hz2 rfl (by decide) _ _ _ rfl r40 ad (ln - k) (c - k) (gcells (l.drop k)) rfl hlt11 (fun j u hu => ?_) (gcells_one _) (by unfold maxLen; omega) (by omega) p4 ?_
            · have hne : ¬ c = k := HNK.out j u hu
              rw [if_neg hne] at had
              cases had
              have := (s4.cell (p := ⟨g, k * 2 + j, none⟩) Lg3).trans (HC3.out _ u (gcells_drop l k j u (by rw [HLN.out]; omega) hu))
              rw [add_at]; exact this
            intro v44 V5 r44 hgr _
            have s5 : Below w3.heap.size w3 V5 := Below.grown s4 hgr p4 (fun j hj => (r40.lt j hj).1)
            clear hgr r40
            refine hK.out _ _ s5 ?_
            clear hK K
            intro _
            refine wpAnyH_ready (rs := [12]) (by kernel_rfl) (by simp) ?_
            refine AllReadyH.cons rfl (fun K hK => ?_) AllReadyH.nil
            rw [if_pos ?hw]
            case hw => kernel_rfl
            go_simp
            refine hK.out _ _ s5 ?_
            clear hK K
            intro _
            refine wpAnyH_done (by kernel_rfl) ?_ _
            go_wp2_with fail
            go_ret
            refine ⟨v44, rfl, row_end r44 (by omega) HLE.out HGE.out (by omega), Blw.after HB3.out s5⟩
    · obtain rfl : k = ln := by omega
      have HKP := Lib.hid (show posG (z1, z2) l = k by have := HP.out; omega)
      have HI := Lib.hid (insG_new (z := (z1, z2)) (l := l) (by rw [HKP.out, List.getElem?_eq_none (by rw [HLN.out]; omega)]; simp))
      rw [HKP.out] at HI
      have d0 := b0
      have d1 := b1
      clear b0 b1
      go_upto_region 2 with fail
      have hNE : ∀ w, Nonempty (BelowW w) := BelowW.none
      refine wp_region_below (by kernel_rfl) (by kernel_rfl) ?_
      repeat
        (with_reducible refine wpQuiet_step ?_
         intro K hK
         go_simp
         first
           | (refine hK _ ?_; clear hK K)
           | (apply Exists.intro
              refine ⟨fun xW => ?_, hK _ ?_⟩
              (fail)
              clear hK K))
      with_reducible refine wpQuiet_nil ?_
      rintro _ ⟨⟨w2, hb2⟩, rfl⟩
      try dsimp only
      rename_i w2
      have d0' := keepcell hb2 d0
      have d1' := keepcell hb2 d1
      have HC2 := Lib.hid (fun j u (hu : (gcells l)[j]? = some u) => keepcell hb2 (HCW.out j u hu))
      have HB2 := Lib.hid (Blw.after HBW.out hb2)
      have L2 := hb2.size
      clear d0 d1 hb2 hNE HCW HBW
      go_upto_region 4 with fail
      have hNE : ∀ w, Nonempty (BelowW w) := BelowW.none
      refine wp_region_below (by kernel_rfl) (by kernel_rfl) ?_
      repeat
        (with_reducible refine wpQuiet_step ?_
         intro K hK
         go_simp
         first
           | (refine hK _ ?_; clear hK K)
           | (apply Exists.intro
              refine ⟨fun xW => ?_, hK _ ?_⟩
              (fail)
              clear hK K))
      with_reducible refine wpQuiet_nil ?_
      rintro _ ⟨⟨w2, hb2⟩, rfl⟩
      try dsimp only
      rename_i w3
      have f0 := keepcell hb2 d0'
      have f1 := keepcell hb2 d1'
      have HC3 := Lib.hid (fun j u (hu : (gcells l)[j]? = some u) => keepcell hb2 (HC2.out j u hu))
      have HB3 := Lib.hid (Blw.after HB2.out hb2)
      have L3 := hb2.size
      clear d0' d1' hb2 hNE HC2 HB2
      go_upto_region 6 with fail
      have hd6 : Below w3.heap.size w3 w3.drew := (Below.refl _ _).drew
      refine wp_region_held_drew (S := fun w' => Below w3.heap.size w3 w') (by kernel_rfl) hd6 ?_
      intro hS0
      have zV : w3.drew.heap.size = w3.heap.size := rfl
      generalize w3.drew = V0 at *
      clear hd6
      have hkl : k ≤ k := by omega
      have hkc : ¬ c < k := by omega
      obtain ⟨ad, had⟩ : ∃ ad : Addr, (if c = k then some (⟨g, 0, none⟩ : Addr) else some ⟨g, k * 2, none⟩) = some ad := by split <;> exact ⟨_, rfl⟩
      refine wpAnyH_take (i := 1) (v := ?_) rfl (by kernel_rfl) (by kernel_rfl) (by kernel_rfl) (fun _ _ _ h => h) (Or.inl ⟨by rfl, ?_⟩) hS0 ?_
      case refine_1 => exact .slice (some ⟨g, 0, none⟩) k c
      · intro wq hSw; go_simp
      refine wpAnyH_take (i := 2) (v := ?_) rfl (by kernel_rfl) (by kernel_rfl) (by kernel_rfl) (fun _ _ _ h => h) (Or.inl ⟨by rfl, ?_⟩) hS0 ?_
      case refine_1 => exact .int .i64 (k : Nat)
      · intro wq hSw; go_simp
      refine wpAnyH_take (i := 3) (v := ?_) rfl (by kernel_rfl) (by kernel_rfl) (by kernel_rfl) (fun _ _ _ h => h) (Or.inl ⟨by rfl, ?_⟩) hS0 ?_
      case refine_1 => exact .slice (some ⟨g, 0, none⟩) k c
      · intro wq hSw; first | (go_simp; done) | (go_simp; intro h; exact absurd h hkc)
      refine wpAnyH_take (i := 5) (v := ?_) rfl (by kernel_rfl) (by kernel_rfl) (by kernel_rfl) (fun _ _ _ h => h) (Or.inl ⟨by rfl, ?_⟩) hS0 ?_
      case refine_1 => exact .agg #[.int .i64 z1, .int .i64 z2]
      · intro wq hSw; have q0 := keepcell hSw f0; have q1 := keepcell hSw f1; go_simp
      refine wpAnyH_take (i := 8) (v := ?_) rfl (by kernel_rfl) (by kernel_rfl) (by kernel_rfl) (fun _ _ _ h => h) (Or.inl ⟨by rfl, ?_⟩) hS0 ?_
      case refine_1 => exact .slice (some ⟨g, 0, none⟩) k c
      · intro wq hSw; go_simp
      refine wpAnyH_take (i := 9) (v := ?_) rfl (by kernel_rfl) (by kernel_rfl) (by kernel_rfl) (fun _ _ _ h => h) (Or.inl ⟨by rfl, ?_⟩) hS0 ?_
      case refine_1 => exact .int .i64 (k : Nat)
      · intro wq hSw; go_simp
      refine wpAnyH_take (i := 10) (v := ?_) rfl (by kernel_rfl) (by kernel_rfl) (by kernel_rfl) (fun _ _ _ h => h) (Or.inl ⟨by rfl, ?_⟩) hS0 ?_
      case refine_1 => exact .slice (some ad) (0) (c - k)
      · intro wq hSw; first | (go_simp; done) | (go_simp; rw [if_pos hkl, had]) | (go_simp; rw [had])
      have Lg3 : g < w3.heap.size := by omega
      have s0 := hS0
      have p0 := s0.size
      clear zV
      have hlt4 : (gcells (l.take k)).length = k * 2 := by rw [gcells_len, List.length_take, HLN.out, Nat.min_eq_left hkl]
      have hlt11 : (gcells (l.drop k)).length = (0) * 2 := by rw [gcells_len, List.length_drop, HLN.out]; omega
      have HNK := Lib.hid (show ∀ j u, (gcells (l.drop k))[j]? = some u → ¬ c = k from fun j u hu => by have := (List.getElem?_eq_some_iff.1 hu).1; omega)
      have HLE := Lib.hid (show (insG (z1, z2) l).length = 0 + k + 1 + (0) by rw [HI.out, List.length_append, List.length_take, List.length_cons, List.length_drop, HLN.out]; omega)
      have HGE := Lib.hid (show gcells (insG (z1, z2) l) = [] ++ gcells (l.take k) ++ [.int .i64 z1, .int .i64 z2] ++ gcells (l.drop k) by rw [HI.out]; simp [gcells])
      refine wpAnyH_ready (rs := [0, 6]) (by kernel_rfl) (by simp) ?_
      refine AllReadyH.cons rfl (fun K hK => ?_) (AllReadyH.cons rfl (fun K hK => ?_) AllReadyH.nil)
      · rw [if_pos ?hw]
        case hw => kernel_rfl
        go_wp2_with fail
        have s1 : Below w3.heap.size w3 (V0.alloc (.cells #[] 29)) := Blw.alloc s0 _
        have p1 := s1.size
        have r33 : (V0.alloc (.cells #[] 29)).ownsRow w3.heap.size 29 2 (.slice (some ⟨V0.heap.size, 0, none⟩) 0 0) 0 [] := ⟨rfl, .inr ⟨V0.heap.size, 0, #[], rfl, p0, World.alloc_heap_new V0 _, Nat.le_refl _, by unfold maxLen; omega, rfl, rfl⟩⟩
        refine hK.out _ _ s1 ?_
        clear hK K
        intro _
        generalize hV : V0.alloc (.cells #[] 29) = V1 at *
        clear hV
        refine wpAnyH_ready (rs := [4, 6]) (by kernel_rfl) (by simp) ?_
        refine AllReadyH.cons rfl (fun K hK => ?_) (AllReadyH.cons rfl (fun K hK => ?_) AllReadyH.nil)
        · rw [if_pos ?hw]
          case hw => kernel_rfl
          refine wp_append_own _ _ _ 24 rfl w3.heap.size 29 i0 (.agg #[.int .i64 0, .int .i64 0]) 2 16 Tryd.underlying24 hi hz0 hz1 hz2 rfl (by decide) _ _ _ rfl r33 ⟨g, 0, none⟩ k c (gcells (l.take k)) rfl hlt4 (fun j u hu => by have := (s1.cell (p := ⟨g, j, none⟩) Lg3).trans (HC3.out j u (gcells_take l k j u hu)); rw [add_at, Nat.zero_add]; exact this) (gcells_one _) (by unfold maxLen; omega) (by omega) p1 ?_
          intro v37 V2 r37 hgr _
          have s2 : Below w3.heap.size w3 V2 := Below.grown s1 hgr p1 (fun j hj => (r33.lt j hj).1)
          have p2 := s2.size
          clear hgr r33
          refine hK.out _ _ s2 ?_
          clear hK K
          intro _
          refine wpAnyH_ready (rs := [6]) (by kernel_rfl) (by simp) ?_
          refine AllReadyH.cons rfl (fun K hK => ?_) AllReadyH.nil
          rw [if_pos ?hw]
          case hw => kernel_rfl
          go_wp2_with fail
          have s3 : Below w3.heap.size w3 (V2.alloc (.cells #[.int .i64 z1, .int .i64 z2] 29)) := Blw.alloc s2 _
          have p3 := s3.size
          have z0c : (V2.alloc (.cells #[.int .i64 z1, .int .i64 z2] 29)).cell? ⟨V2.heap.size, 0, none⟩ = some (.int .i64 z1) := by go_simp
          have z1c : (V2.alloc (.cells #[.int .i64 z1, .int .i64 z2] 29)).cell? ⟨V2.heap.size, 1, none⟩ = some (.int .i64 z2) := by go_simp
          have r37' := r37.alloc (.cells #[.int .i64 z1, .int .i64 z2] 29)
          clear r37
          have r37 := r37'
          clear r37'
          refine hK.out _ _ s3 ?_
          clear hK K
          intro _
          generalize hV : V2.alloc (.cells #[.int .i64 z1, .int .i64 z2] 29) = V3 at *
          clear hV
          refine wpAnyH_ready (rs := [7]) (by kernel_rfl) (by simp) ?_
          refine AllReadyH.cons rfl (fun K hK => ?_) AllReadyH.nil
          rw [if_pos ?hw]
          case hw => kernel_rfl
          refine wp_append_own _ _ _ 24 rfl w3.heap.size 29 i0 (.agg #[.int .i64 0, .int .i64 0]) 2 16 Tryd.underlying24 hi hz0 hz1 hz2 rfl (by decide) _ _ _ rfl r37 ⟨V2.heap.size, 0, none⟩ 1 1 [.int .i64 z1, .int .i64 z2] rfl rfl (fun j u hu => cells_pair z0c z1c j u hu) (two_one _ _) (by unfold maxLen; omega) (by omega) p3 ?_
          intro v40 V4 r40 hgr _
          have s4 : Below w3.heap.size w3 V4 := Below.grown s3 hgr p3 (fun j hj => (r37.lt j hj).1)
          have p4 := s4.size
          clear hgr r37 z0c z1c
          refine hK.out _ _ s4 ?_
          clear hK K
          intro _
          refine wpAnyH_ready (rs := [11]) (by kernel_rfl) (by simp) ?_
          refine AllReadyH.cons rfl (fun K hK => ?_) AllReadyH.nil
          rw [if_pos ?hw]
          case hw => kernel_rfl
          refine wp_append_own _ _ _ 24 rfl w3.heap.size 29 i0 (.agg #[.int .i64 0, .int .i64 0]) 2 16 Tryd.underlying24 hi hz0 hz1 hz2 rfl (by decide) _ _ _ rfl r40 ad (0) (c - k) (gcells (l.drop k)) rfl hlt11 (fun j u hu => ?_) (gcells_one _) (by unfold maxLen; omega) (by omega) p4 ?_
          · have hne : ¬ c = k := HNK.out j u hu
            rw [if_neg hne] at had
            cases had
            have := (s4.cell (p := ⟨g, k * 2 + j, none⟩) Lg3).trans (HC3.out _ u (gcells_drop l k j u (by rw [HLN.out]; omega) hu))
            rw [add_at]; exact this
          intro v44 V5 r44 hgr _
          have s5 : Below w3.heap.size w3 V5 := Below.grown s4 hgr p4 (fun j hj => (r40.lt j hj).1)
          clear hgr r40
          refine hK.out _ _ s5 ?_
          clear hK K
          intro _
          refine wpAnyH_ready (rs := [12]) (by kernel_rfl) (by simp) ?_
          refine AllReadyH.cons rfl (fun K hK => ?_) AllReadyH.nil
          rw [if_pos ?hw]
          case hw => kernel_rfl
          go_simp
          refine hK.out _ _ s5 ?_
          clear hK K
          intro _
          refine wpAnyH_done (by kernel_rfl) ?_ _
          go_wp2_with fail
          go_ret
          refine ⟨v44, rfl, row_end r44 (by omega) HLE.out HGE.out (by omega), Blw.after HB3.out s5⟩
        · rw [if_pos ?hw]
          case hw => kernel_rfl
          go_wp2_with fail
          have s2 : Below w3.heap.size w3 (V1.alloc (.cells #[.int .i64 z1, .int .i64 z2] 29)) := Blw.alloc s1 _
          have p2 := s2.size
          have z0c : (V1.alloc (.cells #[.int .i64 z1, .int .i64 z2] 29)).cell? ⟨V1.heap.size, 0, none⟩ = some (.int .i64 z1) := by go_simp
          have z1c : (V1.alloc (.cells #[.int .i64 z1, .int .i64 z2] 29)).cell? ⟨V1.heap.size, 1, none⟩ = some (.int .i64 z2) := by go_simp
          have r33' := r33.alloc (.cells #[.int .i64 z1, .int .i64 z2] 29)
          have hbz : V1.heap.size ≠ V0.heap.size := fun e => by have := (r33.lt V0.heap.size rfl).2; omega
          clear r33
          have r33 := r33'
          clear r33'
          refine hK.out _ _ s2 ?_
          clear hK K
          intro _
          generalize hV : V1.alloc (.cells #[.int .i64 z1, .int .i64 z2] 29) = V2 at *
          clear hV
          refine wpAnyH_ready (rs := [4]) (by kernel_rfl) (by simp) ?_
          refine AllReadyH.cons rfl (fun K hK => ?_) AllReadyH.nil
          rw [if_pos ?hw]
          case hw => kernel_rfl
          refine wp_append_own _ _ _ 24 rfl w3.heap.size 29 i0 (.agg #[.int .i64 0, .int .i64 0]) 2 16 Tryd.underlying24 hi hz0 hz1 hz2 rfl (by decide) _ _ _ rfl r33 ⟨g, 0, none⟩ k c (gcells (l.take k)) rfl hlt4 (fun j u hu => by have := (s2.cell (p := ⟨g, j, none⟩) Lg3).trans (HC3.out j u (gcells_take l k j u hu)); rw [add_at, Nat.zero_add]; exact this) (gcells_one _) (by unfold maxLen; omega) (by omega) p2 ?_
          intro v37 V3 r37 hgr _
          have s3 : Below w3.heap.size w3 V3 := Below.grown s2 hgr p2 (fun j hj => (r33.lt j hj).1)
          have p3 := s3.size
          have z0' := hgr.cell z0c (fun e => hbz (Option.some.inj e))
          have z1' := hgr.cell z1c (fun e => hbz (Option.some.inj e))
          clear z0c z1c
          have z0c := z0'
          have z1c := z1'
          clear z0' z1'
          clear hgr r33
          refine hK.out _ _ s3 ?_
          clear hK K
          intro _
          refine wpAnyH_ready (rs := [7]) (by kernel_rfl) (by simp) ?_
          refine AllReadyH.cons rfl (fun K hK => ?_) AllReadyH.nil
          rw [if_pos ?hw]
          case hw => kernel_rfl
          refine wp_append_own _ _ _ 24 rfl w3.heap.size 29 i0 (.agg #[.int .i64 0, .int .i64 0]) 2 16 Tryd.underlying24 hi hz0 hz1 hz2 rfl (by decide) _ _ _ rfl r37 ⟨V1.heap.size, 0, none⟩ 1 1 [.int .i64 z1, .int .i64 z2] rfl rfl (fun j u hu => cells_pair z0c z1c j u hu) (two_one _ _) (by unfold maxLen; omega) (by omega) p3 ?_
          intro v40 V4 r40 hgr _
          have s4 : Below w3.heap.size w3 V4 := Below.grown s3 hgr p3 (fun j hj => (r37.lt j hj).1)
          have p4 := s4.size
          clear hgr r37 z0c z1c
          refine hK.out _ _ s4 ?_
          clear hK K
          intro _
          refine wpAnyH_ready (rs := [11]) (by kernel_rfl) (by simp) ?_
          refine AllReadyH.cons rfl (fun K hK => ?_) AllReadyH.nil
          rw [if_pos ?hw]
          case hw => kernel_rfl
          refine wp_append_own _ _ _ 24 rfl w3.heap.size 29 i0 (.agg #[.int .i64 0, .int .i64 0]) 2 16 Tryd.underlying24 hi hz0 hz1 hz2 rfl (by decide) _ _ _ rfl r40 ad (0) (c - k) (gcells (l.drop k)) rfl hlt11 (fun j u hu => ?_) (gcells_one _) (by unfold maxLen; omega) (by omega) p4 ?_
          · have hne : ¬ c = k := HNK.out j u hu
            rw [if_neg hne] at had
            cases had
            have := (s4.cell (p := ⟨g, k * 2 + j, none⟩) Lg3).trans (HC3.out _ u (gcells_drop l k j u (by rw [HLN.out]; omega) hu))
            rw [add_at]; exact this
          intro v44 V5 r44 hgr _
          have s5 : Below w3.heap.size w3 V5 := Below.grown s4 hgr p4 (fun j hj => (r40.lt j hj).1)
          clear hgr r40
          refine hK.out _ _ s5 ?_
          clear hK K
          intro _
          refine wpAnyH_ready (rs := [12]) (by kernel_rfl) (by simp) ?_
          refine AllReadyH.cons rfl (fun K hK => ?_) AllReadyH.nil
          rw [if_pos ?hw]
          case hw => kernel_rfl
          go_simp
          refine hK.out _ _ s5 ?_
          clear hK K
          intro _
          refine wpAnyH_done (by kernel_rfl) ?_ _
          go_wp2_with fail
          go_ret
          refine ⟨v44, rfl, row_end r44 (by omega) HLE.out HGE.out (by omega), Blw.after HB3.out s5⟩
      · rw [if_pos ?hw]
        case hw => kernel_rfl
        go_wp2_with fail
        have s1 : Below w3.heap.size w3 (V0.alloc (.cells #[.int .i64 z1, .int .i64 z2] 29)) := Blw.alloc s0 _
        have p1 := s1.size
        have z0c : (V0.alloc (.cells #[.int .i64 z1, .int .i64 z2] 29)).cell? ⟨V0.heap.size, 0, none⟩ = some (.int .i64 z1) := by go_simp
        have z1c : (V0.alloc (.cells #[.int .i64 z1, .int .i64 z2] 29)).cell? ⟨V0.heap.size, 1, none⟩ = some (.int .i64 z2) := by go_simp
        refine hK.out _ _ s1 ?_
        clear hK K
        intro _
        generalize hV : V0.alloc (.cells #[.int .i64 z1, .int .i64 z2] 29) = V1 at *
        clear hV
        refine wpAnyH_ready (rs := [0]) (by kernel_rfl) (by simp) ?_
        refine AllReadyH.cons rfl (fun K hK => ?_) AllReadyH.nil
        rw [if_pos ?hw]
        case hw => kernel_rfl
        go_wp2_with fail
        have s2 : Below w3.heap.size w3 (V1.alloc (.cells #[] 29)) := Blw.alloc s1 _
        have p2 := s2.size
        have r33 : (V1.alloc (.cells #[] 29)).ownsRow w3.heap.size 29 2 (.slice (some ⟨V1.heap.size, 0, none⟩) 0 0) 0 [] := ⟨rfl, .inr ⟨V1.heap.size, 0, #[], rfl, p1, World.alloc_heap_new V1 _, Nat.le_refl _, by unfold maxLen; omega, rfl, rfl⟩⟩
        have z0' := keepcell ((Below.refl V1.heap.size V1).alloc (Nat.le_refl _) (.cells #[] 29)) z0c
        have z1' := keepcell ((Below.refl V1.heap.size V1).alloc (Nat.le_refl _) (.cells #[] 29)) z1c
        have hbz : V0.heap.size ≠ V1.heap.size := Nat.ne_of_lt (World.block_lt_of_cell? V1 _ z0c)
        clear z0c z1c
        have z0c := z0'
        have z1c := z1'
        clear z0' z1'
        refine hK.out _ _ s2 ?_
        clear hK K
        intro _
        generalize hV : V1.alloc (.cells #[] 29) = V2 at *
        clear hV
        refine wpAnyH_ready (rs := [4]) (by kernel_rfl) (by simp) ?_
        refine AllReadyH.cons rfl (fun K hK => ?_) AllReadyH.nil
        rw [if_pos ?hw]
        case hw => kernel_rfl
        refine wp_append_own _ _ _ 24 rfl w3.heap.size 29 i0 (.agg #[.int .i64 0, .int .i64 0]) 2 16 Tryd.underlying24 hi hz0 hz1 hz2 rfl (by decide) _ _ _ rfl r33 ⟨g, 0, none⟩ k c (gcells (l.take k)) rfl hlt4 (fun j u hu => by have := (s2.cell (p := ⟨g, j, none⟩) Lg3).trans (HC3.out j u (gcells_take l k j u hu)); rw [add_at, Nat.zero_add]; exact this) (gcells_one _) (by unfold maxLen; omega) (by omega) p2 ?_
        intro v37 V3 r37 hgr _
        have s3 : Below w3.heap.size w3 V3 := Below.grown s2 hgr p2 (fun j hj => (r33.lt j hj).1)
        have p3 := s3.size
        have z0' := hgr.cell z0c (fun e => hbz (Option.some.inj e))
        have z1' := hgr.cell z1c (fun e => hbz (Option.some.inj e))
        clear z0c z1c
        have z0c := z0'
        have z1c := z1'
        clear z0' z1'
        clear hgr r33
        refine hK.out _ _ s3 ?_
        clear hK K
        intro _
        refine wpAnyH_ready (rs := [7]) (by kernel_rfl) (by simp) ?_
        refine AllReadyH.cons rfl (fun K hK => ?_) AllReadyH.nil
        rw [if_pos ?hw]
        case hw => kernel_rfl
        refine wp_append_own _ _ _ 24 rfl w3.heap.size 29 i0 (.agg #[.int .i64 0, .int .i64 0]) 2 16 Tryd.underlying24 hi hz0 hz1 hz2 rfl (by decide) _ _ _ rfl r37 ⟨V0.heap.size, 0, none⟩ 1 1 [.int .i64 z1, .int .i64 z2] rfl rfl (fun j u hu => cells_pair z0c z1c j u hu) (two_one _ _) (by unfold maxLen; omega) (by omega) p3 ?_
        intro v40 V4 r40 hgr _
        have s4 : Below w3.heap.size w3 V4 := Below.grown s3 hgr p3 (fun j hj => (r37.lt j hj).1)
        have p4 := s4.size
        clear hgr r37 z0c z1c
        refine hK.out _ _ s4 ?_
        clear hK K
        intro _
        refine wpAnyH_ready (rs := [11]) (by kernel_rfl) (by simp) ?_
        refine AllReadyH.cons rfl (fun K hK => ?_) AllReadyH.nil
        rw [if_pos ?hw]
        case hw => kernel_rfl
        refine wp_append_own _ _ _ 24 rfl w3.heap.size 29 i0 (.agg #[.int .i64 0, .int .i64 0]) 2 16 Tryd.underlying24 hi hz0 hz1 hz2 rfl (by decide) _ _ _ rfl r40 ad (0) (c - k) (gcells (l.drop k)) rfl hlt11 (fun j u hu => ?_) (gcells_one _) (by unfold maxLen; omega) (by omega) p4 ?_
        · have hne : ¬ c = k := HNK.out j u hu
          rw [if_neg hne] at had
          cases had
          have := (s4.cell (p := ⟨g, k * 2 + j, none⟩) Lg3).trans (HC3.out _ u (gcells_drop l k j u (by rw [HLN.out]; omega) hu))
          rw [add_at]; exact this
        intro v44 V5 r44 hgr _
        have s5 : Below w3.heap.size w3 V5 := Below.grown s4 hgr p4 (fun j hj => (r40.lt j hj).1)
        clear hgr r40
        refine hK.out _ _ s5 ?_
        clear hK K
        intro _
        refine wpAnyH_ready (rs := [12]) (by kernel_rfl) (by simp) ?_
        refine AllReadyH.cons rfl (fun K hK => ?_) AllReadyH.nil
        rw [if_pos ?hw]
        case hw => kernel_rfl
        go_simp
        refine hK.out _ _ s5 ?_
        clear hK K
        intro _
        refine wpAnyH_done (by kernel_rfl) ?_ _
        go_wp2_with fail
        go_ret
        refine ⟨v44, rfl, row_end r44 (by omega) HLE.out HGE.out (by omega), Blw.after HB3.out s5⟩
end Go.Proofs.YtjjpjjoadphapaaDoor

namespace Go.Proofs.YtjjpjjoadphapaaDoor
set_option linter.unusedSimpArgs false
set_option linter.unusedVariables false
open Go.RowKit
open Go.ChangeMaps Go.MapKept

def addL (L : List ZZ) (q : ZZ) : List ZZ := if q ∈ L then L else L ++ [q]
theorem addL_mem (L : List ZZ) (q x : ZZ) : x ∈ addL L q ↔ x ∈ L ∨ x = q := by
  unfold addL
  split
  · rename_i h
    exact ⟨Or.inl, fun h' => h'.elim id fun e => by rw [e]; exact h⟩
  · simp
theorem addL_nodup {L : List ZZ} (h : L.Nodup) (q : ZZ) : (addL L q).Nodup := by
  unfold addL
  split
  · exact h
  · rename_i hq
    rw [List.nodup_append]
    exact ⟨h, by simp, fun a ha b hb => by simp at hb; rw [hb]; intro e; rw [e] at ha; exact hq ha⟩
/-- the entries of a map that holds these keys, in the order in which they came -/
def enE (L : List ZZ) : List (En ZZ) := L.mapIdx fun i q => (i, q, Value.bool true)
theorem enE_snoc (L : List ZZ) (q : ZZ) : enE (L ++ [q]) = enE L ++ [(L.length, q, .bool true)] := by simp [enE]
theorem enE_len (L : List ZZ) : (enE L).length = L.length := by simp [enE]
theorem enE_keys (L : List ZZ) : (enE L).map (·.2.1) = L := by
  apply List.ext_getElem?
  intro i
  simp [enE, List.getElem?_mapIdx]
  cases L[i]? <;> rfl
theorem enE_nums (L : List ZZ) : (enE L).map (·.1) = List.range L.length := by
  apply List.ext_getElem
  · simp [enE]
  · intro i h1 h2
    simp [enE]
theorem enE_mem {L : List ZZ} {x : En ZZ} (h : x ∈ enE L) : x.1 < L.length ∧ x.2.1 ∈ L ∧ x.2.2 = .bool true := by
  simp only [enE, List.mem_mapIdx] at h
  obtain ⟨i, hi, rfl⟩ := h
  exact ⟨hi, List.getElem_mem hi, rfl⟩
theorem enE_has (L : List ZZ) (q : ZZ) : hasE (enE L) q = decide (q ∈ L) := by
  rw [Bool.eq_iff_iff, hasE_iff, decide_eq_true_iff]
  constructor
  · rintro ⟨x, hx, rfl⟩
    exact (enE_mem hx).2.1
  · intro h
    rw [← enE_keys L] at h
    obtain ⟨x, hx, e⟩ := List.mem_map.1 h
    exact ⟨x, hx, e.symm⟩
def FoundAt (L : List ZZ) (w : World) (b : Nat) : Prop := w.heap[b]? = some (.map (mkA encG (enE L)) L.length)
def foundW (L : List ZZ) (w : World) (b : Nat) : World := setBlock w b (.map (mkA encG (enE L)) L.length)
theorem found_put {L : List ZZ} {w : World} {b : Nat} (q : ZZ) (h : FoundAt L w b) :
    (Instr.mapUpdate 37 (.map (some b)) (encG q) (.bool true)).run Tryd.prog w = .ok () (foundW (addL L q) w b) := by
  unfold foundW addL
  by_cases hq : q ∈ L
  · rw [if_pos hq]
    exact sameE Tryd.underlying37 keyG w h trivial (fun _ _ => trivial) (by rw [enE_has]; exact decide_eq_true hq) (.bool true) (fun x hx => (enE_mem hx).2.2)
  · rw [if_neg hq]
    have := newE Tryd.underlying37 keyG w h trivial (fun _ _ => trivial) (by rw [enE_has]; exact decide_eq_false hq) (.bool true)
    rw [← enE_snoc] at this
    rw [this, List.length_append]
    rfl
theorem foundW_at {L L' : List ZZ} {w : World} {b : Nat} (h : FoundAt L w b) : FoundAt L' (foundW L' w b) b := heap_setBlock_same h _
theorem foundW_grown {L L' : List ZZ} {w : World} {b : Nat} (h : FoundAt L w b) : w.grownBy (foundW L' w b) (some b) :=
  ⟨rfl, rfl, rfl, by simp [foundW, setBlock], fun k _ hk => heap_setBlock_other h _ (fun e => hk (by rw [e]))⟩
/-- all tiles that are near, sorted -/
def nearS (n : Nat) : List ZZ := ((rimF n).flatMap fun x => (outs n x.2.1).map (qn n)).foldr insG []
theorem insAll_mem (l : List ZZ) (x : ZZ) : x ∈ l.foldr insG [] ↔ x ∈ l := by
  induction l with
  | nil => simp
  | cons z r ih => rw [List.foldr_cons, insG_mem, ih]; simp
theorem insAll_srt (l : List ZZ) : SrtG (l.foldr insG []) := by
  induction l with
  | nil => exact List.Pairwise.nil
  | cons z r ih => exact insG_srt ih
theorem nearS_mem (n : Nat) (q : ZZ) : q ∈ nearS n ↔ ∃ x ∈ rimF n, ∃ p ∈ outs n x.2.1, q = qn n p := by
  unfold nearS
  rw [insAll_mem]
  simp only [List.mem_flatMap, List.mem_map]
  constructor
  · rintro ⟨x, hx, p, hp, rfl⟩; exact ⟨x, hx, p, hp, rfl⟩
  · rintro ⟨x, hx, p, hp, rfl⟩; exact ⟨x, hx, p, hp, rfl⟩
theorem nearS_len : ∀ n ∈ List.range 9, 1 ≤ (nearS n).length ∧ (nearS n).length ≤ 12 ∧ ∀ q ∈ nearS n, q.1.natAbs ≤ 200 ∧ q.2.natAbs ≤ 200 := by decide +kernel
/-- what is found, sorted, is that list -/
theorem near_sorted {n : Nat} {L : List ZZ} (hd : L.Nodup) (hm : ∀ q, q ∈ L ↔ q ∈ nearS n) : (L.mergeSort fun x y => !ltG y x) = nearS n :=
  srtG_one (sort_srtG hd) (insAll_srt _) fun x => by rw [(List.mergeSort_perm L _).mem_iff]; exact hm x
end Go.Proofs.YtjjpjjoadphapaaDoor

namespace Go.Proofs.YtjjpjjoadphapaaDoor
set_option linter.unusedSimpArgs false
set_option linter.unusedVariables false
open Go.RowKit
open Go.ChangeMaps Go.MapKept Go.WideShapes

section
variable {α : Type} {enc : α → Value}
theorem IterAt.walks {w w' : World} {b r c : Nat} {E D R : List (En α)} (h : IterAt enc w b r E c D R) (k : KeepsWalks w w') : IterAt enc w' b r E c D R := by
  obtain ⟨since, seen, c0, hb, hr, rest⟩ := h
  exact ⟨since, seen, c0, k.same _ _ hb rfl, k.same _ _ hr rfl, rest⟩
theorem IterAt.iter_walk {w : World} {b r c : Nat} {E D R : List (En α)} (h : IterAt enc w b r E c D R) : ∃ o : Obj, w.heap[r]? = some o ∧ o.isWalk = true := by
  obtain ⟨since, seen, c0, hb, hr, rest⟩ := h
  exact ⟨_, hr, rfl⟩
theorem IterAt.left {w : World} {b r c : Nat} {E D R : List (En α)} (h : IterAt enc w b r E c D R) : w.rangeLeft b r = R.length := by
  obtain ⟨since, seen, c0, hb, hr, h1, h2, h3, h4, hR, hp⟩ := h
  unfold World.rangeLeft
  rw [hb, hr]
  show (leftOf (mkA enc E) seen).size = R.length
  rw [← Array.length_toList, leftE, List.length_map, hR]
variable {P : Program} {M T el : TypeId} {F : Fence} {n : Nat} (w : World) {ops : Array Oper} {rest : List Oper} {o : Oper} {a : Act} {Q : Exit → Act → World → Prop}
theorem wpListIn_rangeE (hg : o.guard = none) (m : Operand) (hop : o.op = Op.range M m) (hM : P.underlying M = some (.map T el)) (b c : Nat) (E : List (En α)) (hm : a.eval m = .map (some b)) (hb : w.heap[b]? = some (.map (mkA enc E) c)) (hc : ∀ x ∈ E, x.1 < c) (hn : (E.map (·.1)).Nodup)
    (hK : ∀ w', IterAt enc w' b w.heap.size E c [] E → w.grownBy w' none → w'.heap.size = w.heap.size + 1 → wpListIn F n P ops Q rest (a.put o.dst (.pointer (some ⟨w.heap.size, 0, none⟩))) w') :
    wpListIn F n P ops Q (o :: rest) a w := by
  refine wpListIn_plain hg fun K' hK' => ?_
  obtain ⟨hrun, r1⟩ := startE (P := P) (M := M) (T := T) (el := el) (enc := enc) hM w hb hc hn
  unfold Oper.wpIn
  refine ⟨?_, ?_⟩
  · simp [Oper.about, hop]
  · rw [Oper.semAt_plain F _ _ (by rw [hop]; intro c hc'; cases hc')]
    simp [execOp, hop, hm, hrun, Result.andThen]
    exact hK' _ _ (hK _ r1 (World.grownBy_alloc w _ none) (by simp))
theorem wpListIn_nextE (hg : o.guard = none) (it : Operand) (hop : o.op = Op.next it false) (b r c : Nat) (E D R : List (En α)) (hit : a.eval it = .pointer (some ⟨r, 0, none⟩)) (h : IterAt enc w b r E c D R)
    (hDone : R = [] → D.Perm E → wpListIn F n P ops Q rest (a.put o.dst (.tuple #[.bool false])) w)
    (hMore : ∀ (x : En α) (w' : World) (R' : List (En α)), x ∈ R → IterAt enc w' b r E c (D ++ [x]) R' → R'.length < R.length → R.Perm (x :: R') → w.grownBy w' (some r) → w'.heap.size = w.heap.size →
      (Instr.entry (.pointer (some ⟨r, 0, none⟩))).run P w' = .ok (.tuple #[enc x.2.1, x.2.2]) w' → wpListIn F n P ops Q rest (a.put o.dst (.tuple #[.bool true, enc x.2.1, x.2.2])) w') :
    wpListIn F n P ops Q (o :: rest) a w := by
  refine wpListIn_plain hg fun K' hK' => ?_
  unfold Oper.wpIn
  refine ⟨by simp [Oper.about, hop], ?_⟩
  rw [Oper.semAt_plain F _ _ (by rw [hop]; intro c hc'; cases hc')]
  rcases stepE (P := P) h o.type with ⟨h0, hl, hrun⟩ | ⟨x, hx, w', R', hrun, hi, hlt, hp, hgr, hsz, hen⟩
  · simp [execOp, hop, hit, hrun, Result.andThen]
    exact hK' _ _ (hDone h0 hl)
  · simp [execOp, hop, hit, hrun, Result.andThen]
    exact hK' _ _ (hMore x w' R' hx hi hlt hp hgr hsz hen)
end
end Go.Proofs.YtjjpjjoadphapaaDoor

namespace Go.Proofs.YtjjpjjoadphapaaDoor
set_option linter.unusedSimpArgs false
set_option linter.unusedVariables false
open Go.RowKit

attribute [local go_sem] Oper.semAt_some

theorem keysG_c (mb : Option Nat) (w : World) : Calls Tryd.prog 16 #[.map mb] w fun e w' => e = .returned (.func (.func 33) #[] #[.pointer (some ⟨w.heap.size, 0, none⟩)]) ∧ w' = w.alloc (.cells #[.map mb] 37) := by
  go_enter Tryd.func16, Tryd.ntmps16
  go_wp2
  go_ret
  exact ⟨rfl, rfl⟩
set_option maxRecDepth 100000 in
set_option maxHeartbeats 2000000 in
theorem keysG1_in (n : Nat) (hn : 1 ≤ n) (l Bm b c : Nat) (E : List (En (Int × Int))) (J Jx : List (Int × Int) → World → Prop)
    (hY : ∀ pre x W, J pre W → pre.length < E.length → YieldAt Fence.wide (n - 1) Tryd.prog l #[encG x] W fun e W' => (e = .returned (.bool true) ∧ J (pre ++ [x]) W' ∧ KeepsWalks W W') ∨ (e = .returned (.bool false) ∧ Jx (pre ++ [x]) W'))
    (W : World) (hJ : AbidesFrom W.heap.size J) (hm : W.cell? ⟨Bm, 0, none⟩ = some (.map (some b))) (hb : W.heap[b]? = some (.map (mkA encG E) c)) (hc : ∀ x ∈ E, x.1 < c) (hd : (E.map (·.1)).Nodup) (h0 : J [] W) :
    CallsIn Fence.wide n Tryd.prog 33 #[.func (.yield l) #[] #[], .pointer (some ⟨Bm, 0, none⟩)] W fun e W' => (∃ v, e = .returned v) ∧ ((∃ ss : List (Int × Int), ss.Perm (E.map (·.2.1)) ∧ J ss W') ∨ ∃ pre, True ∧ Jx pre W') := by
  refine callsIn_of_wp Tryd.func33 rfl trivial ?_ rfl
  simp only [Tryd.ntmps33, List.size_toArray, List.length_cons, List.length_nil, Nat.reduceAdd, Nat.reduceSub, Array.replicate_succ, Array.replicate_zero, List.push_toArray, List.append_toArray, List.nil_append, List.cons_append]
  gi_wp2_with (first
    | (gi_at_range; refine wpListIn_rangeE (M := 37) (enc := encG) _ rfl _ rfl Tryd.underlying37 b c E rfl hb hc hd ?_; intro w0 hit0 hg0 hs0)
    | gi_in)
  go_frame
  gi_loopw [3] (fun _ wr => ∃ (D R : List (En (Int × Int))), IterAt encG wr b W.heap.size E c D R ∧ J (D.map (·.2.1)) wr)
    (fun _ wr => wr.rangeLeft b W.heap.size)
  case atStart =>
    exact ⟨[], E, hit0, hJ [] W w0 none h0 hg0 (fun r e => by cases e)⟩
  case round =>
    obtain ⟨D, R, hit, hJs⟩ := hrel
    gi_wp2_with (first
      | (gi_at_next; refine wpListIn_nextE (enc := encG) _ rfl _ rfl b W.heap.size c E D R rfl hit ?_ ?_)
      | gi_in)
    · intro hR hp
      gi_wp2
      go_end0
      exact ⟨⟨_, rfl⟩, .inl ⟨D.map (·.2.1), hp.map _, hJs⟩⟩
    · intro nb xa xb v w2 R' hx hit2 hlt hperm hg2 hs2 hen
      have hJ2 := hJ _ wr w2 (some W.heap.size) hJs hg2 (fun r e => by cases e; exact ⟨Nat.le_refl _, hit.iter_walk⟩)
      have hJ3 := hJ _ w2 (w2.alloc (.cells #[.int .i64 xa, .int .i64 xb] 29)) none hJ2 (World.grownBy_alloc w2 _ none) (fun r e => by cases e)
      have hit3 := hit2.walks (KeepsWalks.alloc w2 (.cells #[.int .i64 xa, .int .i64 xb] 29))
      have hlen : (D.map (·.2.1)).length < E.length := by
        have := hit.perm.length_eq
        rw [List.length_append] at this
        rw [List.length_map]
        omega
      obtain ⟨fn, tmps, assign, body, hy, hR⟩ := hY _ (xa, xb) _ hJ3 hlen
      clear hs2
      have eG : encG (xa, xb) = .agg #[.int .i64 xa, .int .i64 xb] := rfl
      rw [eG] at hen hy ⊢
      gi_wp2
      refine hR.mono ?_
      rintro e W3 (⟨rfl, hJ4, hk3⟩ | ⟨rfl, hJx⟩)
      · have hit4 := hit3.walks hk3
        gi_wp2
        go_roundw
        case rel => exact ⟨_, R', hit4, by rw [List.map_append]; exact hJ4⟩
        case measure => rw [hit4.left, hit.left]; exact hlt
      · gi_wp2
        refine bodyPost_ret (results_none rfl _ _ _) rfl ?_
        exact ⟨⟨_, rfl⟩, .inr ⟨_, trivial, hJx⟩⟩
/-- the keys, each once, in some order -/
theorem keysG_stops (n : Nat) (hn : 1 ≤ n) (Bm b c : Nat) (E : List (En (Int × Int))) (w : World) (hm : w.cell? ⟨Bm, 0, none⟩ = some (.map (some b))) (hb : w.heap[b]? = some (.map (mkA encG E) c)) (hc : ∀ x ∈ E, x.1 < c) (hd : (E.map (·.1)).Nodup) :
    SeqStopsK Fence.wide n Tryd.prog 33 #[.pointer (some ⟨Bm, 0, none⟩)] (fun x => #[encG x]) KeepsWalks (fun ss => ss.Perm (E.map (·.2.1))) (fun _ => True) E.length w := fun l J Jx W hW hJ _ hY h0 =>
  keysG1_in n hn l Bm b c E J Jx hY W hJ ((hW.cell (p := ⟨Bm, 0, none⟩) (World.block_lt_of_cell? w _ hm)).trans hm) ((hW.block b (Array.getElem?_eq_some_iff.1 hb).1).trans hb) hc hd h0
end Go.Proofs.YtjjpjjoadphapaaDoor

namespace Go.Proofs.YtjjpjjoadphapaaDoor
set_option linter.unusedSimpArgs false
set_option linter.unusedVariables false
open Go.RowKit Go.Shelf

attribute [local go_sem] Oper.semAt_some

def cG (z : Int × Int) : List Value := [.int .i64 z.1, .int .i64 z.2]
def rowG (l : List (Int × Int)) : List Value := l.flatMap cG
theorem rowG_snoc (l : List (Int × Int)) (z : Int × Int) : rowG (l ++ [z]) = rowG l ++ cG z := by simp [rowG]
theorem infoGk : (Tryd.prog.info? 29).map (fun i => (i.zero, i.size, i.bytes)) = some (some (.agg #[.int .i64 0, .int .i64 0]), 2, 16) := by kernel_rfl
theorem cell_two_new (w : World) (x y : Value) (t : TypeId) : ∀ j u, [x, y][j]? = some u → (w.alloc (.cells #[x, y] t)).cell? ((⟨w.heap.size, 0, none⟩ : Addr).add j) = some u := by
  intro j u hj
  match j, hj with
  | 0, hj => simp at hj; subst hj; simp [Addr.add]
  | 1, hj => simp at hj; subst hj; simp [Addr.add]
  | j + 2, hj => simp at hj
theorem two1k (x y : Value) (hx : x.oneCell' = true) (hy : y.oneCell' = true) : ∀ u ∈ [x, y], u.oneCell' = true := by
  intro u hu
  simp at hu
  rcases hu with rfl | rfl
  · exact hx
  · exact hy
def ApI (w : World) (pre : List (Int × Int)) (W : World) : Prop := (∃ v, Boxed W w.heap.size 24 v ∧ W.ownsRow w.heap.size 29 2 v pre.length (rowG pre) ∧ (v = .slice none 0 0 ↔ pre = [])) ∧ Below w.heap.size w W
theorem apI_own (w : World) {B : Nat} (h : w.heap.size ≤ B) : OwnFrom B (ApI w) :=
  OwnFrom.and (Own.from (holdsRow_own w.heap.size w.heap.size 24 29 2 (fun pre : List (Int × Int) => pre.length) (fun pre => rowG pre) (fun pre v => (v = .slice none 0 0 ↔ pre = []))) _) (ownFrom_below (Nat.le_refl _) h)
def ApX (sv : Value) (w : World) (x : Int × Int) (a : Act) (W : World) : Prop :=
  ∃ b5 : Nat, a = ⟨#[.slice none 0 0, sv, .pointer (some ⟨w.heap.size, 0, none⟩), undef, .slice none 0 0, .pointer (some ⟨b5, 0, none⟩), sv, encG x, undef, undef, undef, undef, undef], []⟩ ∧ W.heap[b5]? = some (.cells #[.int .i64 x.1, .int .i64 x.2] 29 (0, 0))
set_option maxRecDepth 100000 in
set_option maxHeartbeats 2000000 in
theorem appendSeqG_c (gf : Nat) (lb : Array Value) (S : List (Int × Int) → Prop) (N : Nat) (hN : N ≤ 1000000) (w : World) (eg : ∀ args w, (callFunc gf args).run Tryd.prog w = .ok (.enter gf args) w)
    (hseq : SeqStopsK Fence.wide 5 Tryd.prog gf lb (fun x => #[encG x]) KeepsWalks S (fun _ => True) N w) :
    Calls Tryd.prog 49 #[.slice none 0 0, .func (.func gf) #[] lb] w fun e w' => ∃ (v : Value) (ss : List (Int × Int)), e = .returned v ∧ S ss ∧ w'.ownsRow w.heap.size 29 2 v ss.length (rowG ss) ∧ (v = .slice none 0 0 ↔ ss = []) ∧ Below w.heap.size w w' := by
  obtain ⟨i0, hi, hz0, hz1, hz2⟩ := info_parts infoGk
  refine (callsIn_wide (n := 6)).1 ?_
  refine callsIn_of_wp_marks Tryd.func49 rfl trivial ?_ rfl
  simp only [Tryd.ntmps49, List.size_toArray, List.length_cons, List.length_nil, Nat.reduceAdd, Nat.reduceSub, Array.replicate_succ, Array.replicate_zero, List.push_toArray, List.append_toArray, List.nil_append, List.cons_append]
  gi_wp2
  have bO := Boxed.new w 24 (.slice none 0 0)
  have hb0 : Below w.heap.size w (w.alloc (.cells #[.slice none 0 0] 24)) := (Below.refl _ _).alloc (Nat.le_refl _) _
  refine wpIn_rangeFunc_ownH rfl (by omega) (gf := gf) (lb := lb) rfl trivial eg hseq walksK_t walksK_b hb0 (fun _ => rfl)
    (ApI w) (fun _ _ _ => False) ?hI (fun _ _ _ _ _ hs _ _ => hs) ⟨⟨_, bO, ⟨rfl, .inl ⟨rfl, rfl⟩⟩, by simp⟩, hb0⟩
    (ApX (.func (.func gf) #[] lb) w) ?hAx ?assign ?body ?done (fun _ _ _ _ _ _ h _ => h.elim)
  case hI => exact apI_own w (by simp)
  case hAx =>
    intro x a' _ W W' row ⟨b5, e, hb⟩ hg hr
    refine ⟨b5, e, (hg.block b5 (Array.getElem?_eq_some_iff.1 hb).1 (fun e' => ?_)).trans hb⟩
    obtain ⟨-, o, ho, hc⟩ := hr b5 e'.symm
    rw [hb] at ho; cases ho; cases hc
  case assign =>
    intro l pre x W K hI hK
    obtain ⟨xa, xb⟩ := x
    have eG : encG (xa, xb) = .agg #[.int .i64 xa, .int .i64 xb] := rfl
    have hK2 := hK _ (W.alloc (.cells #[.int .i64 xa, .int .i64 xb] 29)) ((KeepsOthers.alloc W _).from _) (KeepsWalks.alloc W _) ((apI_own w (Nat.le_refl _)).alloc _ hI) ⟨W.heap.size, rfl, World.alloc_heap_new W _⟩
    rw [eG] at hK2 ⊢
    gi_wp2
    exact hK2
  case body =>
    rintro l pre ⟨xa, xb⟩ a' W hl hlr ⟨⟨v, hv, hrow, hnil⟩, hB⟩ ⟨b5, rfl, hb5⟩ hlt
    have eG : encG (xa, xb) = .agg #[.int .i64 xa, .int .i64 xb] := rfl
    have hc := hv.cell
    have hWs := hB.size
    have hvl := hv.lt
    have c0 : W.cell? ⟨b5, 0, none⟩ = some (.int .i64 xa) := by simp [World.cell?, hb5]
    have c1 : W.cell? ⟨b5, 1, none⟩ = some (.int .i64 xb) := by simp [World.cell?, hb5]
    rw [eG]
    gi_wp2_with (gi_at_builtin; refine wpListIn_append_own _ rfl _ _ 24 rfl w.heap.size 29 i0 (.agg #[.int .i64 0, .int .i64 0]) 2 16 Tryd.underlying24 hi hz0 hz1 hz2 rfl (by decide) _ _ _ rfl (hrow.alloc _) ⟨W.heap.size, 0, none⟩ 1 1 [.int .i64 xa, .int .i64 xb] rfl rfl (cell_two_new _ _ _ _) (two1k _ _ rfl rfl) (by unfold maxLen; omega) (by omega) (by simp; omega) ?_; intro v' w3 hown' hgrow' hn3; obtain ⟨g', cap', rfl⟩ := ownsRow_succ hown'; obtain ⟨hv1, hv2, hr2, hk2, hb2⟩ := hv.appended (by decide) hrow (by omega) (by omega) hown' hgrow'; have hc1 := hv1.cell; have hf1 := hv1.frozen)
    refine ⟨hk2.from _, hk2.walks, ⟨⟨_, hv2, ?_, by simp⟩, hB.trans hb2⟩⟩
    rw [rowG_snoc, List.length_append]
    exact hr2
  case done =>
    rintro D ss W hD hS ⟨⟨v, hv, hrow, hnil⟩, hB⟩ hK
    have hc := hv.cell
    have hne : v.ownBlock ≠ some D := by
      rcases hrow.2 with ⟨rfl, _⟩ | ⟨g, cap, cur, rfl, _, hgb, _⟩
      · simp [Value.ownBlock]
      · intro e
        simp only [Value.ownBlock, Option.some.injEq] at e
        subst e
        rw [hK] at hgb
        cases hgb
    gi_wp2
    refine ⟨by simp, .inl ⟨_, _, rfl, run_takeDeferred hK, ?_⟩⟩
    exact ⟨_, results_tmp rfl _ _ _, v, ss, rfl, hS, hrow.kept (grownBy_putObj' W D _) (.inr hne), hnil, hB.trans (belowK_b (w := w) (Nat.le_refl _) W D _ _ (by simp at hD; omega) hK rfl rfl)⟩
theorem collectG_c (gf : Nat) (lb : Array Value) (S : List (Int × Int) → Prop) (N : Nat) (hN : N ≤ 1000000) (w : World) (eg : ∀ args w, (callFunc gf args).run Tryd.prog w = .ok (.enter gf args) w)
    (hseq : SeqStopsK Fence.wide 5 Tryd.prog gf lb (fun x => #[encG x]) KeepsWalks S (fun _ => True) N w) :
    Calls Tryd.prog 31 #[.func (.func gf) #[] lb] w fun e w' => ∃ (v : Value) (ss : List (Int × Int)), e = .returned v ∧ S ss ∧ w'.ownsRow w.heap.size 29 2 v ss.length (rowG ss) ∧ (v = .slice none 0 0 ↔ ss = []) ∧ Below w.heap.size w w' := by
  have H := appendSeqG_c gf lb S N hN w eg hseq
  clear hseq
  go_enter Tryd.func31, Tryd.ntmps31
  go_wp2_with fail
  refine H.mono ?_
  rintro e W1 ⟨v, ss, rfl, hS, hrow, hnil, hB⟩
  go_wp2_with fail
  go_ret
  exact ⟨v, ss, rfl, hS, hrow, hnil, hB⟩
end Go.Proofs.YtjjpjjoadphapaaDoor

namespace Go.Proofs
open Go.Shelf Go.RowKit Go.Lib Go.Sort
shelf_lay_g SlLaysF0.n6 Slsf 6 at Tryd 32 as Tryd.sortG
shelf_lay Lays.n125 Nm 125 at Tryd as Tryd.bitsLen2
end Go.Proofs
namespace Go.Proofs.YtjjpjjoadphapaaDoor
set_option linter.unusedSimpArgs false
set_option linter.unusedVariables false
open Go.Shelf Go.RowKit Go.Lib Go.Sort

/-- a Gaussian number's two cells -/
def cellsG (x : Int × Int) : List Value := [.int .i64 x.1, .int .i64 x.2]
theorem ltOf_G : ltOf cmpG = ltG := by funext x y; exact cmpG_lt x y
theorem layG (blk off size : Nat) (w : World) : CmpLays Tryd.prog 17 #[] cellsG 2 cmpG blk off size w :=
  fun _ _ _ _ x y => byParts_c x y _
theorem lenG (n : Nat) (W : World) (h : n ≤ 12) : Calls Tryd.prog 51 #[.int .u64 n] W fun e w' => (∃ l : Int, e = .returned (.int .i64 l)) ∧ w' = W :=
  (Any.bits_Len Tryd.bitsLen2 n W (by omega) (by omega)).mono fun _ _ ⟨he, hw⟩ => ⟨⟨_, he⟩, hw⟩
/-- the numbers of the row, sorted -/
theorem sortG_c (blk off cap : Nat) (d : Array (Int × Int)) (w : World) (hH : HoldsK cellsG 2 w blk off d) (hblk : blk < w.heap.size) (h12 : d.size ≤ 12) :
    Calls Tryd.prog 32 #[.slice (some ⟨blk, off, none⟩) d.size cap, .func (.func 17) #[] #[]] w fun e w' =>
      e = .returned (.tuple #[]) ∧ ∃ d' n os, d'.toList = d.toList.mergeSort (fun x y => !ltG y x) ∧ d'.size = d.size ∧ w' = sortWorldK cellsG 2 w blk off n d' os := by
  have eg : ∀ args w, (callFunc 17 args).run Tryd.prog w = .ok (.enter 17 args) w := enters_of Tryd.func17 (by kernel_rfl) rfl
  have h := AnyQ.slices_SortFunc_small_sorted Tryd.sortG 2 (fun w => by change (isAgg 29).run _ w = _; go_simp) (fun w => by change (Go.sizeOf 29).run _ w = _; go_simp) cellsG (fun _ => rfl) (fun x v hv => by simp [cellsG] at hv; rcases hv with rfl | rfl <;> rfl) cmpG 17 #[] (by rw [ltOf_G]; exact swoG) blk off cap d w eg (layG blk off d.size w) hH hblk h12 lenG
  refine h.mono ?_
  rintro e w' ⟨he, d', n, os, hp, hs, hw⟩
  rw [ltOf_G] at hs
  exact ⟨he, d', n, os, sorted_unique_holds (lt := ltG) swoG ltG_total d d' hp hs, hp.1, hw⟩
end Go.Proofs.YtjjpjjoadphapaaDoor

namespace Go.Proofs.YtjjpjjoadphapaaDoor
set_option linter.unusedSimpArgs false
set_option linter.unusedVariables false
open Go.Shelf Go.RowKit Go.Lib Go.Sort

theorem rowG_len (l : List (Int × Int)) : (rowG l).length = l.length * 2 := by
  induction l with
  | nil => rfl
  | cons z l ih =>
    show (cG z ++ rowG l).length = _
    rw [List.length_append, ih]
    simp [cG]; omega
theorem rowG_get : ∀ (l : List (Int × Int)) (t : Nat), t < l.length * 2 → (rowG l)[t]? = some ((cellsG l[t / 2]!)[t % 2]!)
  | [], t, h => by simp at h
  | z :: l, 0, _ => rfl
  | z :: l, 1, _ => rfl
  | z :: l, t + 2, h => by
    have ih := rowG_get l t (by simp at h; omega)
    have e1 : (t + 2) / 2 = t / 2 + 1 := by omega
    have e2 : (t + 2) % 2 = t % 2 := by omega
    rw [e1, e2]
    show (rowG l)[t]? = _
    rw [ih]
    simp
theorem flat_get (d : Array (Int × Int)) (t : Nat) (h : t < d.size * 2) : (rowG d.toList)[t]? = some (flatK cellsG 2 d)[t]! := by
  rw [get_flatK cellsG 2 d t h, rowG_get d.toList t (by simpa using h)]
  have h2 : t / 2 < d.size := by omega
  rw [getElem!_pos d (t / 2) h2, getElem!_pos d.toList (t / 2) (by simpa using h2)]
  simp
theorem holdsG {w : World} {g : Nat} {cur : Array Value} {e : TypeId} (d : Array (Int × Int)) (hb : w.heap[g]? = some (.cells cur e (0, 0))) (ht : cur.toList.take (d.size * 2) = rowG d.toList) : HoldsK cellsG 2 w g 0 d := by
  intro j hj
  have hj' : j < d.size * 2 := by simpa using hj
  refine ⟨?_, by simp [World.frozen?, hb]⟩
  have h1 := flat_get d j hj'
  rw [← ht, List.getElem?_take_of_lt hj', Array.getElem?_toList] at h1
  simp only [World.cell?, hb, Nat.zero_add]
  simpa using h1
theorem heap_sortedG {w : World} {g n : Nat} {os : Array Obj} {cur : Array Value} {e : TypeId} {fr : Nat × Nat} (d : Array (Int × Int)) (hb : w.heap[g]? = some (.cells cur e fr)) :
    (sortWorldK cellsG 2 w g 0 n d os).heap[g]? = some (.cells (putCells id 0 (flatK cellsG 2 d) cur) e fr) := by
  have hg : g < w.heap.size := (Array.getElem?_eq_some_iff.1 hb).1
  unfold sortWorldK putRowK
  rw [heap_grow_old _ _ (by simpa using hg)]
  simp [putRow, mapBlock, Sort.ahead, Array.getElem?_modify, hb, onCells]
theorem grownBy_sortedG {w : World} {g n : Nat} {os : Array Obj} (d : Array (Int × Int)) : w.grownBy (sortWorldK cellsG 2 w g 0 n d os) (some g) := by
  unfold sortWorldK putRowK
  refine ⟨rfl, rfl, rfl, by simp, fun k hk hne => ?_⟩
  rw [heap_grow_old _ _ (by simpa using hk)]
  have : g ≠ k := fun e => hne (by rw [e])
  simp [putRow, mapBlock, Sort.ahead, Array.getElem?_modify, this]
theorem take_putG (cur : Array Value) (d : Array (Int × Int)) (h : d.size * 2 ≤ cur.size) : (putCells id 0 (flatK cellsG 2 d) cur).toList.take (d.size * 2) = rowG d.toList := by
  apply List.ext_getElem?
  intro j
  by_cases hj : j < d.size * 2
  · rw [List.getElem?_take_of_lt hj, Array.getElem?_toList, flat_get d j hj]
    simp [putCells, hj, show j < cur.size by omega]
  · rw [List.getElem?_take_eq_none (by omega), List.getElem?_eq_none (by rw [rowG_len]; simp; omega)]
theorem ownsRow_sortedG {w : World} {base g cap n len : Nat} {e : TypeId} {os : Array Obj} {cur : Array Value} {d : Array (Int × Int)} (hl : d.size = len) (hbase : base ≤ g) (hb : w.heap[g]? = some (.cells cur e (0, 0)))
    (h1 : len ≤ cap) (h2 : cap ≤ maxLen) (h3 : cur.size = cap * 2) :
    (sortWorldK cellsG 2 w g 0 n d os).ownsRow base e 2 (.slice (some ⟨g, 0, none⟩) len cap) len (rowG d.toList) :=
  ⟨by rw [rowG_len]; simp [hl], .inr ⟨g, cap, _, rfl, hbase, heap_sortedG _ hb, h1, h2, by simp [putCells, h3], by rw [← hl]; exact take_putG cur d (by omega)⟩⟩
/-- a new slice that holds what the function gave, sorted -/
theorem sortedFuncG_c (gf : Nat) (lb : Array Value) (S : List (Int × Int) → Prop) (hS : ∀ ss, S ss → 1 ≤ ss.length ∧ ss.length ≤ 12) (N : Nat) (hN : N ≤ 1000000) (w : World) (eg : ∀ args w, (callFunc gf args).run Tryd.prog w = .ok (.enter gf args) w)
    (hseq : SeqStopsK Fence.wide 5 Tryd.prog gf lb (fun x => #[encG x]) KeepsWalks S (fun _ => True) N w) :
    Calls Tryd.prog 15 #[.func (.func gf) #[] lb, .func (.func 17) #[] #[]] w fun e w' => ∃ (v : Value) (ss : List (Int × Int)), e = .returned v ∧ S ss ∧ w'.ownsRow w.heap.size 29 2 v ss.length (rowG (ss.mergeSort fun x y => !ltG y x)) ∧ Below w.heap.size w w' := by
  have H := collectG_c gf lb S N hN w eg hseq
  clear hseq
  go_enter Tryd.func15, Tryd.ntmps15
  go_wp2_with fail
  refine H.mono ?_
  rintro e W ⟨v, ss, rfl, hs, hrow, hnil, hb⟩
  obtain ⟨hs1, hs2⟩ := hS ss hs
  rcases hrow.2 with ⟨rfl, hz⟩ | ⟨gb, cap, cur, rfl, hbase, hgb, r1, r2, r3, r4⟩
  · omega
  · have hH := holdsG ss.toArray hgb (by simpa using r4)
    have hgl : gb < W.heap.size := (Array.getElem?_eq_some_iff.1 hgb).1
    have cS := sortG_c gb 0 cap ss.toArray W hH hgl (by simpa using hs2)
    rw [show ss.toArray.size = ss.length by simp] at cS
    clear H hH
    go_wp2_with fail
    refine cS.mono ?_
    rintro e W2 ⟨rfl, d', nn, os, hd, hl, rfl⟩
    go_wp2_with fail
    go_ret
    refine ⟨_, ss, rfl, hs, ?_, hb.grown (grownBy_sortedG _) hb.size (fun j hj => by cases hj; exact hbase)⟩
    have := ownsRow_sortedG (n := nn) (os := os) (d := d') (len := ss.length) (by simpa using hl) hbase hgb r1 r2 r3
    rw [hd] at this
    simpa using this
end Go.Proofs.YtjjpjjoadphapaaDoor

namespace Go.Proofs.YtjjpjjoadphapaaDoor
set_option linter.unusedSimpArgs false
set_option linter.unusedVariables false
open Go.RowKit Ieee
open Go.ChangeMaps Go.MapKept

theorem ownsRow_base {w : World} {B B' : Nat} {e : TypeId} {sz n : Nat} {v : Value} {xs : List Value} (h : w.ownsRow B e sz v n xs) (hle : B' ≤ B) : w.ownsRow B' e sz v n xs :=
  ⟨h.1, h.2.imp id fun ⟨g, cap, cur, e1, hb, r⟩ => ⟨g, cap, cur, e1, Nat.le_trans hle hb, r⟩⟩
theorem gb_trans {A B C : World} {row : Option Nat} (h : A.grownBy B row) (k : B.grownBy C row) : A.grownBy C row :=
  ⟨k.os.trans h.os, k.tape.trans h.tape, k.output.trans h.output, Nat.le_trans h.size k.size, fun i hi hne => (k.block i (Nat.lt_of_lt_of_le hi h.size) hne).trans (h.block i hi hne)⟩
theorem gb_below {A B : World} (row : Option Nat) (h : Below A.heap.size A B) : A.grownBy B row := ⟨h.os, h.tape, h.output, h.size, fun i hi _ => h.block i hi⟩
theorem outs_big {n : Nat} {z p : ZZ} (hz : z.1.natAbs ≤ 200 ∧ z.2.natAbs ≤ 200) (h : p ∈ outs n z) : p.1.natAbs ≤ 300 ∧ p.2.natAbs ≤ 300 := by
  unfold outs at h
  have := (List.mem_filter.1 h).1
  simp only [nrT, List.mem_cons, List.not_mem_nil, or_false] at this
  rcases this with rfl | rfl | rfl | rfl <;> exact ⟨by dsimp only; omega, by dsimp only; omega⟩
theorem okT_lvl {n : Nat} {p : ZZ} (hn : n ≤ 8) (hp : p.1.natAbs ≤ 300 ∧ p.2.natAbs ≤ 300) : okT (n : Int) p.1 p.2 = true := by
  have h1 : inR 0 12 (n : Int) = true := by simp only [inR, Bool.and_eq_true, decide_eq_true_eq]; omega
  have h2 : inB 1000000 p.1 p.2 = true := by simp only [inB, inR, Bool.and_eq_true, decide_eq_true_eq]; omega
  unfold okT
  rw [h1, h2]; rfl
def NrRel (n b r bf : Nat) (w : World) (m : Nat) (wr : World) : Prop :=
  ∃ D R L, R.length = m ∧ IterAt encP wr b r (rimF n) (2 ^ n) D R ∧ TileAt n wr w.heap.size ∧ FoundAt L wr bf ∧ L.Nodup ∧ (∀ q, q ∈ L ↔ ∃ x ∈ D, ∃ p ∈ outs n x.2.1, q = qn n p) ∧ Below w.heap.size w wr
def NiRel (n bf ln : Nat) (O L : List ZZ) (w5 : World) (m : Nat) (v : Value) (wr : World) : Prop :=
  ∃ k L', k + m = ln ∧ v = .int .i64 (k : Nat) ∧ w5.grownBy wr (some bf) ∧ FoundAt L' wr bf ∧ L'.Nodup ∧ (∀ q, q ∈ L' ↔ q ∈ L ∨ ∃ p ∈ O.take k, q = qn n p)
noncomputable def nearT (a : Int) : List ZZ := if inR 0 8 a = true then nearS a.toNat else []
def NearPost (a : Int) (w : World) (e : Ending) (w' : World) : Prop :=
  ∃ v, e = .returned (.tuple #[v, .bool (inR 0 8 a)]) ∧ w'.ownsRow w.heap.size 29 2 v (nearT a).length (rowG (nearT a)) ∧ Below w.heap.size w w'
set_option maxRecDepth 100000 in
set_option maxHeartbeats 2000000 in
theorem iTileNear_c (a : Int) (w : World) (hT : Two w) (h6 : 2 < w.heap.size) : Calls Tryd.prog 5 #[.int .i64 a] w (NearPost a w) := by
  have hmm := @run_makeMap Tryd.prog
  go_enter Tryd.func5, Tryd.ntmps5
  go_wp2_with fail
  refine (tileOf_c a w hT h6).mono ?_
  rintro e w1 (⟨h1, rfl, hb⟩ | ⟨h1, rfl, hm, hb⟩)
  · have HE := Lib.hid (show nearT a = [] by unfold nearT; rw [h1]; rfl)
    have H1 := Lib.hid h1
    clear h1
    go_wp2_with fail
    go_ret2
    exact ⟨_, by rw [H1.out]; rfl, by rw [HE.out]; exact ⟨rfl, .inl ⟨rfl, rfl⟩⟩, hb⟩
  · have H1 := inR_le h1
    have HH := Lib.hid h1
    have HE := Lib.hid (show nearT a = nearS a.toNat by unfold nearT; rw [h1]; rfl)
    have hn : a.toNat ≤ 8 := by omega
    have ha : a = (a.toNat : Int) := by omega
    generalize a.toNat = n at *
    subst ha
    have HM := Lib.hid hm
    have HB := Lib.hid hb
    have L1 : w.heap.size < w1.heap.size := (Array.getElem?_eq_some_iff.1 hm).1
    clear h1 hm hb
    go_upto_region 5 with fail
    generalize hW : World.alloc _ _ = wm
    have hF0 : FoundAt [] wm w1.heap.size := by rw [← hW]; exact (MapKept.heap_alloc _ _).1
    have hBm : Below w1.heap.size w1 wm := by rw [← hW]; (first | ((repeat' with_reducible first | assumption | exact Below.refl _ _ | apply Blw.alloc | apply Blw.drew | apply Blw.drewN | (refine Blw.after ?_ (by assumption)) | (refine Blw.set ?_ (by first | (dsimp only; omega) | (simp; omega)) _)); done) | (repeat' (first | assumption | exact Below.refl _ _ | apply Blw.alloc | apply Blw.drew | apply Blw.drewN | (refine Blw.after ?_ (by assumption)) | (refine Blw.set ?_ (by first | (dsimp only; omega) | (simp; done) | (simp; omega)) _))))
    have Lm : w1.heap.size < wm.heap.size := (Array.getElem?_eq_some_iff.1 hF0).1
    have HMm := Lib.hid (show TileAt n wm w.heap.size from (hBm.block _ L1).trans HM.out)
    have HBm := Lib.hid (Blw.after HB.out hBm)
    have HF0 := Lib.hid hF0
    clear hW hF0 hBm HM HB hmm
    go_wp2_with fail
    refine (rimOf_c n w.heap.size wm hn HMm.out).mono ?_
    rintro e w2 ⟨rfl, hr2, hb2⟩
    have HM2 := Lib.hid (show TileAt n w2 w.heap.size from (hb2.block _ (by omega)).trans HMm.out)
    have HF2 := Lib.hid (show FoundAt [] w2 w1.heap.size from (hb2.block _ Lm).trans HF0.out)
    have HR2 := Lib.hid hr2
    have HB2 := Lib.hid (Blw.after HBm.out hb2)
    have L2 : wm.heap.size < w2.heap.size := (Array.getElem?_eq_some_iff.1 hr2).1
    have hsub := Lib.hid (show (rimF n).Sublist (tlE n (2 ^ n)) from List.filter_sublist)
    clear hr2 hb2 HMm HBm HF0
    go_wp2_with (first | (at_range; refine wpList_rangeE (M := 34) (enc := encP) _ rfl _ rfl Tryd.underlying34 wm.heap.size (2 ^ n) (rimF n) rfl HR2.out (fun x hx => by obtain ⟨i, hi, rfl⟩ := tlE_mem.1 (hsub.out.subset hx); exact hi) ((hsub.out.map _).nodup (tlE_nodup _ _)) ?_; intro w3 hit hg3 hs3) | fail)
    go_frame
    have HB3 := Lib.hid (show Below w.heap.size w w3 from Below.grown HB2.out hg3 HB2.out.size (fun k hk => by cases hk))
    have HM3 := Lib.hid (show TileAt n w3 w.heap.size from (hg3.block _ (by omega) (by simp)).trans HM2.out)
    have HF3 := Lib.hid (show FoundAt [] w3 w1.heap.size from (hg3.block _ (by omega) (by simp)).trans HF2.out)
    have S0 := Lib.hid (show NrRel n wm.heap.size w2.heap.size w1.heap.size w (rimF n).length w3 from ⟨[], _, [], rfl, hit, HM3.out, HF3.out, List.nodup_nil, fun q => by simp, HB3.out⟩)
    clear hit hg3 hs3 HM2 HF2 HB2 HM3 HF3 HB3
    go_loopg [] (rimF n).length (fun m wr => NrRel n wm.heap.size w2.heap.size w1.heap.size w m wr)
    case atStart => exact S0.out
    case round =>
      clear S0
      obtain ⟨D, R, L, hR, hit, hm, hf, hd, hmem, hBw⟩ := hrel
      obtain ⟨Lbr, Lr, hrb⟩ := hit.lt
      have Lc : w.heap.size < wr.heap.size := (Array.getElem?_eq_some_iff.1 hm).1
      have Lf : w1.heap.size < wr.heap.size := (Array.getElem?_eq_some_iff.1 hf).1
      have HI := Lib.hid hit
      have HX := Lib.hid (And.intro hm (And.intro hf hBw))
      have HD := Lib.hid (And.intro hd hmem)
      have HR := Lib.hid hR
      clear hit hm hf hBw hR hd hmem
      go_wp2_with (first | (at_next; refine wpList_nextE (enc := encP) _ rfl _ rfl wm.heap.size w2.heap.size (2 ^ n) (rimF n) D R rfl HI.out ?_ ?_) | fail)
      · intro hR0 hp
        have hnear : ∀ q, q ∈ L ↔ q ∈ nearS n := fun q => by
          rw [HD.out.2 q, nearS_mem]
          constructor
          · rintro ⟨x, hx, h⟩; exact ⟨x, hp.mem_iff.1 hx, h⟩
          · rintro ⟨x, hx, h⟩; exact ⟨x, hp.mem_iff.2 hx, h⟩
        have HSO := Lib.hid (near_sorted HD.out.1 hnear)
        clear hR0 hp
        obtain ⟨hm, hf, hBw⟩ := HX.out
        have hll : L.length = (nearS n).length := by rw [← HSO.out, List.length_mergeSort]
        have hln := nearS_len n (by simp; omega)
        have hS : ∀ ss : List ZZ, ss.Perm L → 1 ≤ ss.length ∧ ss.length ≤ 12 := fun ss h => by rw [h.length_eq, hll]; exact ⟨hln.1, hln.2.1⟩
        have hST : ∀ ss : List ZZ, ss.Perm L → (ss.mergeSort fun x y => !ltG y x) = nearS n := fun ss h => near_sorted (h.nodup_iff.2 HD.out.1) (fun q => h.mem_iff.trans (hnear q))
        have hl2 : L.length ≤ 1000000 := by omega
        have HSS := Lib.hid (And.intro hS hST)
        have HFX := Lib.hid hf
        have HBX := Lib.hid hBw
        have HLL := Lib.hid hll
        clear hnear hm hf hBw hll hln hS hST HX HSO HI
        go_wp2_with fail
        refine (keysG_c (some w1.heap.size) wr).mono ?_
        rintro e wk ⟨rfl, hwk⟩
        have hBk : Below wr.heap.size wr wk := by rw [hwk]; (first | ((repeat' with_reducible first | assumption | exact Below.refl _ _ | apply Blw.alloc | apply Blw.drew | apply Blw.drewN | (refine Blw.after ?_ (by assumption)) | (refine Blw.set ?_ (by first | (dsimp only; omega) | (simp; omega)) _)); done) | (repeat' (first | assumption | exact Below.refl _ _ | apply Blw.alloc | apply Blw.drew | apply Blw.drewN | (refine Blw.after ?_ (by assumption)) | (refine Blw.set ?_ (by first | (dsimp only; omega) | (simp; done) | (simp; omega)) _))))
        have hck : wk.cell? ⟨wr.heap.size, 0, none⟩ = some (.map (some w1.heap.size)) := by rw [hwk]; go_simp
        have hseq := keysG_stops 5 (by omega) wr.heap.size w1.heap.size L.length (enE L) wk hck ((hBk.block _ Lf).trans HFX.out) (fun x hx => (enE_mem hx).1) (by rw [enE_nums]; exact List.nodup_range)
        rw [enE_keys, enE_len] at hseq
        have HBk := Lib.hid (Blw.after HBX.out hBk)
        have HSQ := Lib.hid (sortedFuncG_c 33 #[.pointer (some ⟨wr.heap.size, 0, none⟩)] (fun ss => ss.Perm L) HSS.out.1 L.length hl2 wk (enters_of Tryd.func33 (by kernel_rfl) rfl) hseq)
        clear hwk hBk hck hseq HBX HFX hl2
        go_wp2_with fail
        refine HSQ.out.mono ?_
        rintro e wz ⟨v, ss, rfl, hss, hrow, hbz⟩
        have HBz := Lib.hid (Blw.after HBk.out hbz)
        have HRZ := Lib.hid (show wz.ownsRow w.heap.size 29 2 v (nearT (n : Int)).length (rowG (nearT (n : Int))) by
          rw [HSS.out.2 ss hss] at hrow
          rw [HE.out, ← HLL.out, ← hss.length_eq]
          exact ownsRow_base hrow HBk.out.size)
        clear hss hrow hbz HSQ
        go_wp2_with fail
        go_ret2
        exact ⟨_, by rw [HH.out]; rfl, HRZ.out, HBz.out⟩
      · intro i X Y v w4 R' hx hit4 hlt hperm hg4 hs4 hen
        have hxin := HI.out.mem hx
        obtain ⟨i', hi, he⟩ := tlE_mem.1 (hsub.out.subset hxin)
        simp only [Prod.mk.injEq] at he
        obtain ⟨rfl, hz, rfl⟩ := he
        obtain ⟨hm, hf, hBw⟩ := HX.out
        have ht := tp_in hn hi
        rw [← hz] at ht
        have HNE := Lib.hid (show outs n (X, Y) ≠ [] by have := (List.mem_filter.1 hxin).2; simpa using this)
        have HM4 := Lib.hid (show TileAt n w4 w.heap.size from (hg4.block _ Lc (by first | (simp; done) | (simp; omega))).trans hm)
        have HF4 := Lib.hid (show FoundAt L w4 w1.heap.size from (hg4.block _ Lf (by first | (simp; done) | (simp; omega))).trans hf)
        have HO := Lib.hid (outside_c n w.heap.size (X, Y) w4 hn ⟨Nat.le_trans ht.1 (by omega), Nat.le_trans ht.2 (by omega)⟩ HM4.out)
        have HBIG := Lib.hid (fun p (hp : p ∈ outs n (X, Y)) => outs_big ht hp)
        have HDM := Lib.hid (show ∀ q, (∃ x ∈ D ++ [(i, (X, Y), Value.int .i64 (i : Int))], ∃ p ∈ outs n x.2.1, q = qn n p) ↔ ((∃ x ∈ D, ∃ p ∈ outs n x.2.1, q = qn n p) ∨ ∃ p ∈ outs n (X, Y), q = qn n p) from fun q => by
          constructor
          · rintro ⟨x, hx, h⟩
            rcases List.mem_append.1 hx with hx | hx
            · exact Or.inl ⟨x, hx, h⟩
            · simp only [List.mem_cons, List.not_mem_nil, or_false] at hx; subst hx; exact Or.inr h
          · rintro (⟨x, hx, h⟩ | h)
            · exact ⟨x, List.mem_append_left _ hx, h⟩
            · exact ⟨(i, (X, Y), Value.int .i64 (i : Int)), List.mem_append_right _ (by simp), h⟩)
        have hB4 := Lib.hid (show Below w.heap.size w w4 from Below.grown hBw hg4 hBw.size (fun k hk => by cases hk; omega))
        have HIT := Lib.hid hit4
        have HLT := Lib.hid hlt
        have Lc4 : w.heap.size < w4.heap.size := by omega
        have Lf4 : w1.heap.size < w4.heap.size := by omega
        clear hx hxin hit4 hlt hperm hg4 hBw hm hf ht hz hi HX
        go_wp2_with fail
        refine HO.out.mono ?_
        rintro e w5 ⟨v, rfl, hown, hb5⟩
        have HIT5 := Lib.hid (HIT.out.below hb5)
        have HB5 := Lib.hid (Blw.after hB4.out hb5)
        have HM5 := Lib.hid (show TileAt n w5 w.heap.size from (hb5.block _ Lc4).trans HM4.out)
        have HF5 := Lib.hid (show FoundAt L w5 w1.heap.size from (hb5.block _ Lf4).trans HF4.out)
        rcases hown.2 with ⟨rfl, h0⟩ | ⟨g, cap, cur, rfl, hbase, hgb, r1, r2, r3, r4⟩
        · exact absurd (List.eq_nil_of_length_eq_zero h0) HNE.out
        · have HC := Lib.hid (show ∀ j p, (outs n (X, Y))[j]? = some p → w5.cell? ⟨g, j, none⟩ = some (encP p) from fun j p hp => by
            have hj : j < (outs n (X, Y)).length := (List.getElem?_eq_some_iff.1 hp).1
            have e1 : (cur.toList.take ((outs n (X, Y)).length * 1))[j]? = some (encP p) := by rw [r4, List.getElem?_map, hp]; rfl
            rw [List.getElem?_take_of_lt (by omega), Array.getElem?_toList] at e1
            simp only [World.cell?, hgb]
            simpa using e1)
          have Lg : g < w5.heap.size := (Array.getElem?_eq_some_iff.1 hgb).1
          have hgf : g ≠ w1.heap.size := by omega
          have HOE := Lib.hid (show ∀ p, p ∈ outs n (X, Y) ↔ p ∈ (outs n (X, Y)).take (outs n (X, Y)).length by intro p; rw [List.take_length])
          have L5 := hb5.size
          clear hown hb5 hbase hgb r1 r2 r3 r4 HO HNE hen hs4 HM4 HF4
          have hol := outs_len n (X, Y)
          generalize outs n (X, Y) = O at *
          obtain ⟨ln, hln⟩ : ∃ ln, O.length = ln := ⟨_, rfl⟩
          rw [hln] at HOE hol ⊢
          have HLN := Lib.hid hln
          clear hln
          go_wp2_with fail
          go_loopg [32] ln (fun m v wr => NiRel n w1.heap.size ln O L w5 m v wr)
          case atStart => exact ⟨0, L, by omega, rfl, gb_below _ (Below.refl _ _), HF5.out, HD.out.1, fun q => by simp⟩
          case round =>
            obtain ⟨k, L', hk, rfl, hgr, hf', hd', hm'⟩ := hrel
            have Lfr : w1.heap.size < wr.heap.size := (Array.getElem?_eq_some_iff.1 hf').1
            by_cases hlt : k < ln
            · have hkO : k < O.length := by rw [HLN.out]; exact hlt
              obtain ⟨p, hp⟩ : ∃ p, O[k]? = some p := ⟨_, List.getElem?_eq_getElem hkO⟩
              have hpb := HBIG.out p (List.mem_of_getElem? hp)
              have ck := (World.cell?_of_block (w := w5) (a := ⟨g, k, none⟩) (hgr.block g Lg (by simpa using hgf))).trans (HC.out k p hp)
              have Lgr : g < wr.heap.size := Nat.lt_of_lt_of_le Lg hgr.size
              have HTK := Lib.hid (show O.take (k + 1) = O.take k ++ [p] by rw [List.take_add_one, hp]; rfl)
              have HSP := Lib.hid (fun W => iTileSplit_c (n : Int) p.1 p.2 W)
              rw [spV_yes (okT_lvl hn hpb), Int.toNat_natCast] at HSP
              have HGA := Lib.hid (fun W => gaussAt_c p W ⟨by omega, by omega⟩)
              obtain ⟨q, hq⟩ : ∃ q, q = qn n (p.1, p.2) := ⟨_, rfl⟩
              rw [← hq] at HSP
              have HQ := Lib.hid (show q = qn n p from hq)
              clear hq
              generalize rn n (p.1, p.2) = r at *
              obtain ⟨q1, q2⟩ := q
              have HG := Lib.hid hgr
              have HX := Lib.hid (And.intro hd' hm')
              have HF := Lib.hid hf'
              clear hgr hf' hd' hm' hp hpb hkO
              go_wp2_with fail
              refine (HGA.out wr).mono ?_
              rintro e wa ⟨rfl, hba⟩
              have HFa := Lib.hid (show FoundAt L' wa w1.heap.size from (hba.block _ Lfr).trans HF.out)
              have HGa := Lib.hid (gb_trans HG.out (gb_below _ hba))
              have Lfa : w1.heap.size < wa.heap.size := Nat.lt_of_lt_of_le Lfr hba.size
              clear hba ck HG HF
              go_wp2_with fail
              refine (HSP.out wa).mono ?_
              rintro e wb ⟨rfl, hbb⟩
              have HFb := Lib.hid (show FoundAt L' wb w1.heap.size from (hbb.block _ Lfa).trans HFa.out)
              have HGb := Lib.hid (gb_trans HGa.out (gb_below _ hbb))
              have Lfb : w1.heap.size < wb.heap.size := Nat.lt_of_lt_of_le Lfa hbb.size
              clear hbb HFa HGa
              go_upto_region 12 with fail
              generalize hW : World.alloc _ _ = wc
              have z0 : wc.cell? ⟨wb.heap.size, 0, none⟩ = some (.int .i64 q1) := by rw [← hW]; clear hW; go_simp
              have z1 : wc.cell? ⟨wb.heap.size, 1, none⟩ = some (.int .i64 q2) := by rw [← hW]; clear hW; go_simp
              have hbc : Below wb.heap.size wb wc := by rw [← hW]; (first | ((repeat' with_reducible first | assumption | exact Below.refl _ _ | apply Blw.alloc | apply Blw.drew | apply Blw.drewN | (refine Blw.after ?_ (by assumption)) | (refine Blw.set ?_ (by first | (dsimp only; omega) | (simp; omega)) _)); done) | (repeat' (first | assumption | exact Below.refl _ _ | apply Blw.alloc | apply Blw.drew | apply Blw.drewN | (refine Blw.after ?_ (by assumption)) | (refine Blw.set ?_ (by first | (dsimp only; omega) | (simp; done) | (simp; omega)) _))))
              have hfc : FoundAt L' wc w1.heap.size := (hbc.block _ Lfb).trans HFb.out
              have HGc := Lib.hid (gb_trans HGb.out (gb_below _ hbc))
              have hu : (Instr.mapUpdate 37 (.map (some w1.heap.size)) (.agg #[.int .i64 q1, .int .i64 q2]) (.bool true)).run Tryd.prog wc = .ok () (foundW (addL L' (q1, q2)) wc w1.heap.size) := found_put (q1, q2) hfc
              have HFd := Lib.hid (foundW_at (L' := addL L' (q1, q2)) hfc)
              have HGd := Lib.hid (gb_trans HGc.out (foundW_grown (L' := addL L' (q1, q2)) hfc))
              generalize foundW (addL L' (q1, q2)) wc w1.heap.size = wd at *
              clear hW hbc hfc HGc HGb HFb
              go_wp2_with fail
              go_roundg (gk - 1)
              case measure => omega
              case rel => exact ⟨k + 1, addL L' (q1, q2), by omega, by go_num, HGd.out, HFd.out, addL_nodup HX.out.1 _, fun q => by
                rw [addL_mem, HX.out.2 q, HTK.out]
                simp only [List.mem_append, List.mem_cons, List.not_mem_nil, or_false]
                constructor
                · rintro ((h | ⟨p', h1, h2⟩) | h)
                  · exact Or.inl h
                  · exact Or.inr ⟨p', Or.inl h1, h2⟩
                  · exact Or.inr ⟨p, Or.inr rfl, by rw [h]; exact HQ.out⟩
                · rintro (h | ⟨p', h1 | h1, h2⟩)
                  · exact Or.inl (Or.inl h)
                  · exact Or.inl (Or.inr ⟨p', h1, h2⟩)
                  · subst h1; exact Or.inr (by rw [h2]; exact HQ.out.symm)⟩
            · obtain rfl : k = ln := by omega
              have HIT6 := Lib.hid (HIT5.out.kept hgr (by simp; omega) (by simp; omega))
              have HM6 := Lib.hid (show TileAt n wr w.heap.size from (hgr.block _ (by omega) (by simp; omega)).trans HM5.out)
              have HB6 := Lib.hid (show Below w.heap.size w wr from Below.grown HB5.out hgr HB5.out.size (fun k hk => by cases hk; omega))
              have HMM := Lib.hid (show ∀ q, q ∈ L' ↔ ∃ x ∈ D ++ [(i, (X, Y), Value.int .i64 (i : Int))], ∃ p ∈ outs n x.2.1, q = qn n p from fun q => by
                rw [hm' q, HD.out.2 q, HDM.out q]
                constructor
                · rintro (h | ⟨p, h1, h2⟩)
                  · exact Or.inl h
                  · exact Or.inr ⟨p, (HOE.out p).2 h1, h2⟩
                · rintro (h | ⟨p, h1, h2⟩)
                  · exact Or.inl h
                  · exact Or.inr ⟨p, (HOE.out p).1 h1, h2⟩)
              have HF6 := Lib.hid (And.intro hf' hd')
              clear hgr hf' hd' hm' HIT5 HM5 HB5 HDM HOE
              go_wp2_with fail
              go_roundg R'.length
              case measure => have := HLT.out; have := HR.out; omega
              case rel => exact ⟨_, R', L', rfl, HIT6.out, HM6.out, HF6.out.1, HF6.out.2, HMM.out, HB6.out⟩
end Go.Proofs.YtjjpjjoadphapaaDoor

namespace Go.Proofs.YtjjpjjoadphapaaDoor
set_option linter.unusedSimpArgs false
set_option linter.unusedVariables false
open Go.RowKit Ieee

theorem insG_len (z : ZZ) (l : List ZZ) : (insG z l).length ≤ l.length + 1 := by
  induction l with
  | nil => simp [insG]
  | cons y r ih => unfold insG; split; · simp; omega
                   split <;> simp
theorem near_all {n : Nat} {L : List ZZ} (hs : SrtG L) (hm : ∀ q, q ∈ L ↔ ∃ j, j < 2 ^ n ∧ ∃ p ∈ outs n (tp n j), q = qn n p) : L = nearS n := by
  refine srtG_one hs (insAll_srt _) fun q => ?_
  rw [hm q]
  refine Iff.trans ?_ (nearS_mem n q).symm
  constructor
  · rintro ⟨j, hj, p, hp, rfl⟩
    refine ⟨(j, tp n j, .int .i64 (j : Int)), List.mem_filter.2 ⟨tlE_mem.2 ⟨j, hj, rfl⟩, ?_⟩, p, hp, rfl⟩
    simp only [Bool.not_eq_true', decide_eq_false_iff_not]
    intro e
    rw [e] at hp
    cases hp
  · rintro ⟨x, hx, p, hp, rfl⟩
    obtain ⟨j, hj, rfl⟩ := tlE_mem.1 (List.mem_filter.1 hx).1
    exact ⟨j, hj, p, hp, rfl⟩
def NsRel (n N B : Nat) (w : World) (m : Nat) (v i : Value) (wr : World) : Prop :=
  ∃ k L, k + m = N ∧ i = .int .i64 (k : Nat) ∧ RowG B v L wr ∧ SrtG L ∧ L.length ≤ 4 * k ∧ (∀ q, q ∈ L ↔ ∃ j, j < k ∧ ∃ p ∈ outs n (tp n j), q = qn n p) ∧ Below w.heap.size w wr
def NkRel (n B : Nat) (z : ZZ) (L : List ZZ) (w : World) (m : Nat) (v i : Value) (wr : World) : Prop :=
  ∃ k L', k + m = 4 ∧ i = .int .i64 (k : Nat) ∧ RowG B v L' wr ∧ SrtG L' ∧ L'.length ≤ L.length + k ∧ (∀ q, q ∈ L' ↔ q ∈ L ∨ ∃ p ∈ outsN n z k, q = qn n p) ∧ Below w.heap.size w wr
theorem RowG.keep {B : Nat} {v : Value} {L : List ZZ} {w w' : World} (h : RowG B v L w) (hb : Below w.heap.size w w') : RowG B v L w' := by
  obtain ⟨g, c, rfl, hr⟩ := h
  exact ⟨g, c, rfl, own_below hr hb⟩
def SnearPost (a : Int) (w : World) (e : Ending) (w' : World) : Prop :=
  ∃ v, e = .returned (.tuple #[v, .bool (inR 0 8 a)]) ∧ RowG w.heap.size v (nearT a) w' ∧ Below w.heap.size w w'
set_option maxRecDepth 100000 in
set_option maxHeartbeats 2000000 in
theorem sTileNear_c (a : Int) (w : World) : Calls Tryd.prog 6 #[.int .i64 a] w (SnearPost a w) := by
  go_enter Tryd.func6, Tryd.ntmps6
  go_wp2_with fail
  refine (sTilePoints_c a w).mono ?_
  rintro e w1 ⟨v0, rfl, ⟨a0, c0, rfl, hg0, -⟩, hb1⟩
  rcases Bool.eq_false_or_eq_true (inR 0 8 a) with hr | hr
  · have H1 := inR_le hr
    have HRR := Lib.hid hr
    have HE := Lib.hid (show nearT a = nearS a.toNat by unfold nearT; rw [hr]; rfl)
    have HL := Lib.hid (show ptsT a = (List.range (2 ^ a.toNat)).map (tp a.toNat) by unfold ptsT; rw [if_pos hr]; exact allT_tp (by omega))
    obtain ⟨n, rfl⟩ : ∃ n : Nat, a = (n : Int) := ⟨a.toNat, by omega⟩
    rw [Int.toNat_natCast] at HL HE
    have hn : n ≤ 8 := by omega
    have p8 := pow8 hn
    have hLl : (ptsT n).length = 2 ^ n := by rw [HL.out, List.length_map, List.length_range]
    rw [← hLl] at p8
    have HLl := Lib.hid hLl
    have HGet := Lib.hid (fun i (hi : i < (ptsT n).length) => show (ptsT n)[i]? = some (tp n i) by
      rw [HL.out, List.getElem?_map, List.getElem?_range (by rw [hLl] at hi; exact hi)]; rfl)
    have HB1 := Lib.hid hb1
    have HG := Lib.hid hg0
    rw [hr]
    clear hr hLl HL hb1 hg0
    generalize ptsT (n : Int) = T at *
    go_upto_region 3 with fail
    generalize hW : World.alloc _ _ = wv
    have hBv : Below w1.heap.size w1 wv := by rw [← hW]; (first | ((repeat' with_reducible first | assumption | exact Below.refl _ _ | apply Blw.alloc | apply Blw.drew | apply Blw.drewN | (refine Blw.after ?_ (by assumption)) | (refine Blw.set ?_ (by first | (dsimp only; omega) | (simp; omega)) _)); done) | (repeat' (first | assumption | exact Below.refl _ _ | apply Blw.alloc | apply Blw.drew | apply Blw.drewN | (refine Blw.after ?_ (by assumption)) | (refine Blw.set ?_ (by first | (dsimp only; omega) | (simp; done) | (simp; omega)) _))))
    have hRv : RowG w1.heap.size (.slice (some ⟨w1.heap.size, 0, none⟩) 0 0) [] wv := ⟨w1.heap.size, 0, rfl, rfl, .inr ⟨w1.heap.size, 0, #[], rfl, Nat.le_refl _, by rw [← hW]; exact World.alloc_heap_new w1 _, Nat.le_refl _, by unfold maxLen; omega, rfl, rfl⟩⟩
    have S1 := Lib.hid (show NsRel n T.length w1.heap.size w1 T.length (.slice (some ⟨w1.heap.size, 0, none⟩) 0 0) (.int .i64 0) wv from ⟨0, [], by omega, rfl, hRv, List.Pairwise.nil, by simp, fun q => by simp, hBv⟩)
    clear hW hBv hRv
    go_wp2_with fail
    go_loopg [6, 7] T.length (fun m v i wr => NsRel n T.length w1.heap.size w1 m v i wr)
    case atStart => exact S1.out
    case round =>
      clear S1
      obtain ⟨j, L, hj, rfl, hrow, hsrt, hlen, hmem, hBr⟩ := hrel
      have HBr := Lib.hid hBr
      have HJ := Lib.hid hj
      have HROW := Lib.hid hrow
      have HSM := Lib.hid (And.intro hsrt hmem)
      have HLEN := Lib.hid hlen
      obtain ⟨gk0, hgk0⟩ : ∃ gk0, gk0 = gk := ⟨_, rfl⟩
      have HGK := Lib.hid hgk0
      obtain ⟨gv, cv, rfl, -⟩ := hrow
      clear hsrt hlen hmem
      by_cases hlt : j < T.length
      · have hget := HGet.out j hlt
        have hi : j < 2 ^ n := by rw [← HLl.out]; exact hlt
        have ht := tp_in hn hi
        rcases HG.out.keep hBr with h0 | ⟨g, rfl, hg⟩
        · subst h0; simp at hlt
        obtain ⟨d0, d1⟩ := hg j _ _ (show T[j]? = some ((tp n j).1, (tp n j).2) from hget)
        have Lg : g < wr.heap.size := World.block_lt_of_cell? wr _ d0
        have HN := Lib.hid (fun w => l6tNear_c (tp n j).1 (tp n j).2 w ⟨Nat.le_trans ht.1 (by omega), Nat.le_trans ht.2 (by omega)⟩)
        have HNI := Lib.hid (nrT_in ht)
        have HMJ := Lib.hid (show ∀ q, ((∃ i, i < j ∧ ∃ p ∈ outs n (tp n i), q = qn n p) ∨ ∃ p ∈ outs n (tp n j), q = qn n p) ↔ ∃ i, i < j + 1 ∧ ∃ p ∈ outs n (tp n i), q = qn n p from fun q => by
          constructor
          · rintro (⟨i, h1, h⟩ | h)
            · exact ⟨i, by omega, h⟩
            · exact ⟨j, by omega, h⟩
          · rintro ⟨i, h1, h⟩
            rcases Nat.lt_or_ge i j with h2 | h2
            · exact Or.inl ⟨i, h2, h⟩
            · obtain rfl : i = j := by omega
              exact Or.inr h)
        clear hg hget hi hBr hj hgk0 ht
        generalize htp : tp n j = z at *
        clear htp
        obtain ⟨X, Y⟩ := z
        dsimp only at *
        go_wp2_with fail
        refine (HN.out _).mono ?_
        rintro e w2 ⟨g2, rfl, hnr, hb2⟩
        have HNR := Lib.hid hnr
        have HB2 := Lib.hid (Blw.after HBr.out hb2)
        have HR2 := Lib.hid (HROW.out.keep hb2)
        clear hnr hb2 d0 d1
        have S0 := Lib.hid (show NkRel n w1.heap.size (X, Y) L w2 4 (.slice (some ⟨gv, 0, none⟩) L.length cv) (.int .i64 0) w2 from ⟨0, L, by omega, rfl, HR2.out, HSM.out.1, by omega, fun q => by simp [outsN], Below.refl _ _⟩)
        go_wp2_with fail
        go_loopg [6, 9] 4 (fun m v i wr => NkRel n w1.heap.size (X, Y) L w2 m v i wr)
        case atStart => exact S0.out
        case round =>
          clear S0
          obtain ⟨q, L', hq, rfl, hrow', hsrt', hlen', hmem', hBq⟩ := hrel
          have HBq := Lib.hid hBq
          have HQ := Lib.hid hq
          have HROW2 := Lib.hid hrow'
          have HSM2 := Lib.hid (And.intro hsrt' hmem')
          have HLEN2 := Lib.hid hlen'
          obtain ⟨gv', cv', rfl, -⟩ := hrow'
          clear hsrt' hlen' hmem'
          by_cases hlt2 : q < 4
          · obtain ⟨p, hp⟩ : ∃ p, (nrT (X, Y))[q]? = some p := ⟨(nrT (X, Y))[q]'hlt2, List.getElem?_eq_getElem hlt2⟩
            obtain ⟨x1, y1⟩ := p
            have hpi := HNI.out _ (List.mem_of_getElem? hp)
            dsimp only at hpi
            have hnr2 := HNR.out.keep hBq
            obtain ⟨d0, d1⟩ := hnr2 q x1 y1 hp
            have Lg2 : g2 < wr.heap.size := World.block_lt_of_cell? wr _ d0
            have HT := Lib.hid (fun W => l6tTail_c x1 y1 n W (by omega) ⟨⟨by omega, by omega⟩, ⟨by omega, by omega⟩⟩)
            obtain ⟨⟨Q1, Q2⟩, hQ⟩ : ∃ Q, Q = qn n (x1, y1) := ⟨_, rfl⟩
            rw [← hQ] at HT
            generalize rn n (x1, y1) = R0 at *
            obtain ⟨r1, r2⟩ := R0
            dsimp only at HT
            clear hBq hq hpi
            have hyes : ∀ hz : (Q1, Q2) ≠ (0, 0), ∀ u, u ∈ insG (Q1, Q2) L' ↔ u ∈ L ∨ ∃ p ∈ outsN n (X, Y) (q + 1), u = qn n p := fun hz u => by
              rw [insG_mem, HSM2.out.2 u, outsN_out hp (by rw [← hQ]; exact hz)]
              simp only [List.mem_append, List.mem_cons, List.not_mem_nil, or_false]
              constructor
              · rintro (h | h | ⟨p, h1, h2⟩)
                · exact Or.inr ⟨(x1, y1), Or.inr rfl, by rw [h, hQ]⟩
                · exact Or.inl h
                · exact Or.inr ⟨p, Or.inl h1, h2⟩
              · rintro (h | ⟨p, h1 | h1, h2⟩)
                · exact Or.inr (Or.inl h)
                · exact Or.inr (Or.inr ⟨p, h1, h2⟩)
                · subst h1; exact Or.inl (by rw [h2, hQ])
            have HYES := Lib.hid hyes
            have HNO := Lib.hid (show (Q1, Q2) = (0, 0) → outsN n (X, Y) (q + 1) = outsN n (X, Y) q from fun h => outsN_in hp (by rw [← hQ]; exact h))
            clear hyes hp hQ
            by_cases h1 : Q1 = 0
            · subst h1
              by_cases h2 : Q2 = 0
              · subst h2
                have HE2 := Lib.hid (HNO.out rfl)
                clear HYES HNO
                go_wp2_with fail
                refine (HT.out _).mono ?_
                rintro e w3 ⟨rfl, hb3⟩
                go_upto_region 11 with fail
                generalize hW : World.alloc _ _ = w4
                have y0 : w4.cell? ⟨w3.heap.size, 0, none⟩ = some (.int .i64 0) := by rw [← hW]; clear hW; go_simp
                have y1' : w4.cell? ⟨w3.heap.size, 1, none⟩ = some (.int .i64 0) := by rw [← hW]; clear hW; go_simp
                have hb4 : Below w3.heap.size w3 w4 := by rw [← hW]; (first | ((repeat' with_reducible first | assumption | exact Below.refl _ _ | apply Blw.alloc | apply Blw.drew | apply Blw.drewN | (refine Blw.after ?_ (by assumption)) | (refine Blw.set ?_ (by first | (dsimp only; omega) | (simp; omega)) _)); done) | (repeat' (first | assumption | exact Below.refl _ _ | apply Blw.alloc | apply Blw.drew | apply Blw.drewN | (refine Blw.after ?_ (by assumption)) | (refine Blw.set ?_ (by first | (dsimp only; omega) | (simp; done) | (simp; omega)) _))))
                have HB4 := Lib.hid (Blw.after (Blw.after HBq.out hb3) hb4)
                have HR4 := Lib.hid ((HROW2.out.keep hb3).keep hb4)
                have z4 : w1.heap.size ≤ w4.heap.size := by have := HB2.out.size; have := HB4.out.size; omega
                clear hW hb3 hb4 d0 d1 hnr2
                go_wp2_with fail
                go_roundg (gk - 1)
                case measure => have := HQ.out; omega
                case rel => exact ⟨q + 1, L', by have := HQ.out; omega, by go_num, HR4.out, HSM2.out.1, by have := HLEN2.out; omega, fun u => by rw [HE2.out]; exact HSM2.out.2 u, HB4.out⟩
              · have h3 : (Q2 == 0) = false := by simp [h2]
                have HMO := Lib.hid (HYES.out (by simp [h2]))
                clear HYES HNO
                go_wp2_with fail
                refine (HT.out _).mono ?_
                rintro e w3 ⟨rfl, hb3⟩
                go_upto_region 11 with fail
                generalize hW : World.alloc _ _ = w4
                have y0 : w4.cell? ⟨w3.heap.size, 0, none⟩ = some (.int .i64 0) := by rw [← hW]; clear hW; go_simp
                have y1' : w4.cell? ⟨w3.heap.size, 1, none⟩ = some (.int .i64 Q2) := by rw [← hW]; clear hW; go_simp
                have hb4 : Below w3.heap.size w3 w4 := by rw [← hW]; (first | ((repeat' with_reducible first | assumption | exact Below.refl _ _ | apply Blw.alloc | apply Blw.drew | apply Blw.drewN | (refine Blw.after ?_ (by assumption)) | (refine Blw.set ?_ (by first | (dsimp only; omega) | (simp; omega)) _)); done) | (repeat' (first | assumption | exact Below.refl _ _ | apply Blw.alloc | apply Blw.drew | apply Blw.drewN | (refine Blw.after ?_ (by assumption)) | (refine Blw.set ?_ (by first | (dsimp only; omega) | (simp; done) | (simp; omega)) _))))
                have HB4 := Lib.hid (Blw.after (Blw.after HBq.out hb3) hb4)
                have HR4 := Lib.hid ((HROW2.out.keep hb3).keep hb4)
                have z4 : w1.heap.size ≤ w4.heap.size := by have := HB2.out.size; have := HB4.out.size; omega
                clear hW hb3 hb4 d0 d1 hnr2
                go_wp2_with fail
                refine (l6tInsert_c w1.heap.size _ L' (0, Q2) w4 (by have := HLEN.out; have := HLEN2.out; omega) z4 HR4.out).mono ?_
                rintro e w5 ⟨v5, rfl, hrow5, hb5⟩
                obtain HR5 := Lib.hid hrow5
                obtain ⟨g5, c5, rfl, -⟩ := hrow5
                have HB5 := Lib.hid (Blw.after HB4.out hb5)
                clear hb5 y0 y1'
                go_wp2_with fail
                go_roundg (gk - 1)
                case measure => have := HQ.out; omega
                case rel => exact ⟨q + 1, insG (0, Q2) L', by have := HQ.out; omega, by go_num, HR5.out, insG_srt HSM2.out.1, by have := insG_len (0, Q2) L'; have := HLEN2.out; omega, HMO.out, HB5.out⟩
            · have h3 : (Q1 == 0) = false := by simp [h1]
              have HMO := Lib.hid (HYES.out (by simp [h1]))
              clear HYES HNO
              go_wp2_with fail
              refine (HT.out _).mono ?_
              rintro e w3 ⟨rfl, hb3⟩
              go_upto_region 11 with fail
              generalize hW : World.alloc _ _ = w4
              have y0 : w4.cell? ⟨w3.heap.size, 0, none⟩ = some (.int .i64 Q1) := by rw [← hW]; clear hW; go_simp
              have y1' : w4.cell? ⟨w3.heap.size, 1, none⟩ = some (.int .i64 Q2) := by rw [← hW]; clear hW; go_simp
              have hb4 : Below w3.heap.size w3 w4 := by rw [← hW]; (first | ((repeat' with_reducible first | assumption | exact Below.refl _ _ | apply Blw.alloc | apply Blw.drew | apply Blw.drewN | (refine Blw.after ?_ (by assumption)) | (refine Blw.set ?_ (by first | (dsimp only; omega) | (simp; omega)) _)); done) | (repeat' (first | assumption | exact Below.refl _ _ | apply Blw.alloc | apply Blw.drew | apply Blw.drewN | (refine Blw.after ?_ (by assumption)) | (refine Blw.set ?_ (by first | (dsimp only; omega) | (simp; done) | (simp; omega)) _))))
              have HB4 := Lib.hid (Blw.after (Blw.after HBq.out hb3) hb4)
              have HR4 := Lib.hid ((HROW2.out.keep hb3).keep hb4)
              have z4 : w1.heap.size ≤ w4.heap.size := by have := HB2.out.size; have := HB4.out.size; omega
              clear hW hb3 hb4 d0 d1 hnr2
              go_wp2_with fail
              refine (l6tInsert_c w1.heap.size _ L' (Q1, Q2) w4 (by have := HLEN.out; have := HLEN2.out; omega) z4 HR4.out).mono ?_
              rintro e w5 ⟨v5, rfl, hrow5, hb5⟩
              obtain HR5 := Lib.hid hrow5
              obtain ⟨g5, c5, rfl, -⟩ := hrow5
              have HB5 := Lib.hid (Blw.after HB4.out hb5)
              clear hb5 y0 y1'
              go_wp2_with fail
              go_roundg (gk - 1)
              case measure => have := HQ.out; omega
              case rel => exact ⟨q + 1, insG (Q1, Q2) L', by have := HQ.out; omega, by go_num, HR5.out, insG_srt HSM2.out.1, by have := insG_len (Q1, Q2) L'; have := HLEN2.out; omega, HMO.out, HB5.out⟩
          · obtain rfl : q = 4 := by omega
            have HBz := Lib.hid (Blw.after HB2.out hBq)
            have hq0 : gk = 0 := by omega
            have HMF := Lib.hid (show ∀ u, u ∈ L' ↔ ∃ i, i < j + 1 ∧ ∃ p ∈ outs n (tp n i), u = qn n p from fun u => by
              rw [HSM2.out.2 u, HSM.out.2 u]; exact HMJ.out u)
            clear hBq hq
            go_wp2
            go_roundg (gk0 - 1)
            case measure => have := HGK.out; have := HJ.out; omega
            case rel => exact ⟨j + 1, L', by have := HGK.out; have := HJ.out; omega, by go_num, HROW2.out, HSM2.out.1, by have := HLEN.out; have := HLEN2.out; omega, HMF.out, HBz.out⟩
      · obtain rfl : j = T.length := by omega
        have hBz := HBr.out
        have HF := Lib.hid (near_all (n := n) HSM.out.1 (fun q => by rw [HSM.out.2 q, HLl.out]))
        have HRF := Lib.hid (show RowG w.heap.size (.slice (some ⟨gv, 0, none⟩) L.length cv) (nearT (n : Int)) wr by
          rw [HE.out, ← HF.out]
          obtain ⟨g, c, e, hr⟩ := HROW.out
          exact ⟨g, c, e, ownsRow_base hr HB1.out.size⟩)
        have HBZ := Lib.hid (Blw.after HB1.out hBz)
        clear hBz hBr hj hgk0
        go_wp2
        go_ret2
        exact ⟨_, by rw [HRR.out]; rfl, HRF.out, HBZ.out⟩
  · have HE := Lib.hid (show nearT a = [] by unfold nearT; rw [hr]; rfl)
    have HRR := Lib.hid hr
    have HL : ptsT a = [] := by unfold ptsT; rw [if_neg (by rw [hr]; decide)]
    have HB1 := Lib.hid hb1
    rw [hr, HL]
    clear hr hb1 hg0 HL
    go_upto_region 3 with fail
    generalize hW : World.alloc _ _ = wv
    have hBv : Below w1.heap.size w1 wv := by rw [← hW]; (first | ((repeat' with_reducible first | assumption | exact Below.refl _ _ | apply Blw.alloc | apply Blw.drew | apply Blw.drewN | (refine Blw.after ?_ (by assumption)) | (refine Blw.set ?_ (by first | (dsimp only; omega) | (simp; omega)) _)); done) | (repeat' (first | assumption | exact Below.refl _ _ | apply Blw.alloc | apply Blw.drew | apply Blw.drewN | (refine Blw.after ?_ (by assumption)) | (refine Blw.set ?_ (by first | (dsimp only; omega) | (simp; done) | (simp; omega)) _))))
    have hRv : RowG w1.heap.size (.slice (some ⟨w1.heap.size, 0, none⟩) 0 0) [] wv := ⟨w1.heap.size, 0, rfl, rfl, .inr ⟨w1.heap.size, 0, #[], rfl, Nat.le_refl _, by rw [← hW]; exact World.alloc_heap_new w1 _, Nat.le_refl _, by unfold maxLen; omega, rfl, rfl⟩⟩
    have HRF := Lib.hid (show RowG w.heap.size (.slice (some ⟨w1.heap.size, 0, none⟩) 0 0) (nearT a) wv by
      rw [HE.out]
      obtain ⟨g, c, e, hr⟩ := hRv
      exact ⟨g, c, e, ownsRow_base hr HB1.out.size⟩)
    have HBZ := Lib.hid (Blw.after HB1.out hBv)
    clear hW hBv hRv
    go_wp2_with fail
    go_loopg [6, 7] 0 (fun m v i wr => v = .slice (some ⟨w1.heap.size, 0, none⟩) 0 0 ∧ i = .int .i64 0 ∧ wr = wv)
    case atStart => exact ⟨rfl, rfl, rfl⟩
    case round =>
      obtain ⟨rfl, rfl, rfl⟩ := hrel
      go_wp2
      go_ret2
      exact ⟨_, by rw [HRR.out]; rfl, HRF.out, HBZ.out⟩
end Go.Proofs.YtjjpjjoadphapaaDoor

namespace Go.Proofs.YtjjpjjoadphapaaDoor
set_option linter.unusedSimpArgs false
set_option linter.unusedVariables false
open Go.ChangeShapes Go.WideShapes Go.ChangeAt Go.RowKit Go.Joins

section
variable {H : Type} {enc : TypeId × Value → H} {P : Program} {w : World} {base : Nat} {spare : Nat → Bool} {held : Bool} {fuel : Nat} {t : TypeId} {cs : List Value}
theorem rd_int {k : IntKind} {n : Int} {p : List MemPlace} (ht : P.underlying t = some (.int k)) (h : DataW.trod enc P w base spare held fuel t cs = some (.lit (.int k n), p)) : cs = [.int k n] := by
  obtain ⟨m, e1, e2, _⟩ := DataW.trod_int ht h
  simp only [Prod.mk.injEq, DataW.lit.injEq, Lit.int.injEq, true_and] at e2
  rw [e1, e2.1]
theorem rd_str {l : List UInt8} {p : List MemPlace} (ht : P.underlying t = some .string) (h : DataW.trod enc P w base spare held fuel t cs = some (.lit (.string l), p)) : cs = [.string (bs l)] := by
  obtain ⟨s, e1, e2, _⟩ := DataW.trod_string ht h
  simp only [Prod.mk.injEq, DataW.lit.injEq, Lit.string.injEq] at e2
  rw [e1, e2.1]
  rw [show s.data.toList = toL s from rfl, bs_toL]
theorem rd_struct {fs : Array Field} {ds : List (DataW H)} {p : List MemPlace} (ht : P.underlying t = some (.struct fs)) (h : DataW.trod enc P w base spare held fuel t cs = some (.agg ds, p)) {i : Nat} {f : Field} {d : DataW H} (hf : fs[i]? = some f) (hd : ds[i]? = some d) {ft : TypeId} {fo c : Nat} (e1 : f.type = ft) (e2 : f.offset = fo) (e3 : P.cellsOf ft = c) :
    ∃ m q, DataW.trod enc P w base spare held m ft ((cs.drop fo).take c) = some (d, q) := by
  subst e1 e2 e3
  obtain ⟨xs, n, _, e, _, _, hx⟩ := DataW.trod_struct ht h
  simp only [Prod.mk.injEq, DataW.agg.injEq] at e
  have h1 := hx i f hf
  rw [e.1, List.getElem?_map] at hd
  cases hxi : xs[i]? with
  | none => rw [hxi] at hd; simp at hd
  | some x =>
    rw [hxi] at hd h1
    simp only [Option.map_some, Option.some.injEq] at hd
    exact ⟨n, x.2, by rw [h1, ← hd]⟩
theorem rd_array {n : Nat} {e : TypeId} {ds : List (DataW H)} {p : List MemPlace} (ht : P.underlying t = some (.array n e)) (h : DataW.trod enc P w base spare held fuel t cs = some (.agg ds, p)) {i : Nat} {d : DataW H} (hi : i < n) (hd : ds[i]? = some d) :
    ∃ m q, DataW.trod enc P w base spare held m e ((cs.drop (i * P.cellsOf e)).take (P.cellsOf e)) = some (d, q) := by
  obtain ⟨xs, m, _, e, _, _, hx⟩ := DataW.trod_array ht h
  simp only [Prod.mk.injEq, DataW.agg.injEq] at e
  have h1 := hx i hi
  rw [e.1, List.getElem?_map] at hd
  cases hxi : xs[i]? with
  | none => rw [hxi] at hd; simp at hd
  | some x =>
    rw [hxi] at hd h1
    simp only [Option.map_some, Option.some.injEq] at hd
    exact ⟨m, x.2, by rw [h1, ← hd]⟩
theorem at_of_one {l : List Value} {a n k : Nat} {v : Value} (h : (((l.drop a).take n).drop k).take 1 = [v]) (hk : k < n) : l[a + k]? = some v := by
  have e : ((((l.drop a).take n).drop k).take 1)[0]? = some v := by rw [h]; rfl
  rw [List.getElem?_take, if_pos (by omega), List.getElem?_drop, List.getElem?_take, if_pos (by omega), List.getElem?_drop] at e
  simpa using e
theorem drop_take (l : List Value) (a n b m : Nat) (h : b + m ≤ n) : (((l.drop a).take n).drop b).take m = (l.drop (a + b)).take m := by
  apply List.ext_getElem?
  intro i
  simp only [List.getElem?_take, List.getElem?_drop]
  by_cases hi : i < m
  · rw [if_pos hi, if_pos hi, if_pos (by omega), Nat.add_assoc]
  · rw [if_neg hi, if_neg hi]
end
end Go.Proofs.YtjjpjjoadphapaaDoor

namespace Go.Proofs.YtjjpjjoadphapaaDoor
set_option linter.unusedSimpArgs false
set_option linter.unusedVariables false
open Go.ChangeShapes Go.WideShapes Go.ChangeAt Go.RowKit Go.Joins

theorem d64At : Tryd.prog.globalNamed "math/bits.deBruijn64tab" = some 2 := by kernel_rfl
theorem d64Type : (Tryd.prog.globals[2]?).map (·.type) = some 139 := by kernel_rfl
theorem cellsU8 : Tryd.prog.cellsOf 5 = 1 := by kernel_rfl
set_option maxRecDepth 10000 in
theorem two_second {W : World} {x : String × DataW Unit} {r : List (String × DataW Unit)} (h : laidMetH Tryd.prog (x :: ("math/bits.deBruijn64tab", Rows.laid_math_bits_deBruijn64tab) :: r) W) (hp : ∀ W, laidMetH Tryd.prog (x :: ("math/bits.deBruijn64tab", Rows.laid_math_bits_deBruijn64tab) :: r) W = laidMet Tryd.prog (x :: ("math/bits.deBruijn64tab", Rows.laid_math_bits_deBruijn64tab) :: r) W) : Two W := by
  rw [hp] at h
  have h2 := h.tail
  obtain ⟨ps, ⟨g, t, cs, fuel, p, q, hg, ht, hv, hd, _, _⟩, _, _⟩ := h2
  obtain rfl := Option.some.inj (d64At.symm.trans hg)
  obtain rfl := Option.some.inj (d64Type.symm.trans ht)
  have hds : ∃ ds, (Rows.laid_math_bits_deBruijn64tab : DataW Unit) = .agg ds ∧ ds[1]? = some (.lit (.int .u8 1)) := ⟨_, rfl, rfl⟩
  obtain ⟨ds, e, e1⟩ := hds
  rw [e] at hd
  obtain ⟨m, q, h1⟩ := rd_array Tryd.underlying139 hd (i := 1) (by decide) e1
  rw [cellsU8] at h1
  have a := rd_int Tryd.underlying5 h1
  have a1 : cs.toList[1]? = some (.int .u8 1) := by
    have e : ((cs.toList.drop (1 * 1)).take 1)[0]? = some (.int .u8 1) := by rw [a]; rfl
    rw [List.getElem?_take, if_pos (by omega), List.getElem?_drop] at e
    simpa using e
  have hat : ∀ (i : Nat) (v : Value), cs.toList[i]? = some v → W.cell? ⟨2, i, none⟩ = some v := fun i v hi => by
    rw [World.var?_cell d64At hv i]; simpa using hi
  exact hat 1 _ a1
theorem Two.pos {w : World} (h : Two w) : 2 < w.heap.size := World.block_lt_of_cell? w _ h
end Go.Proofs.YtjjpjjoadphapaaDoor

namespace Go.Proofs.YtjjpjjoadphapaaDoor
set_option linter.unusedSimpArgs false
set_option linter.unusedVariables false
open Go.ChangeShapes Go.WideShapes Go.ChangeAt Go.RowKit Go.Joins

theorem own_of_row {B : Nat} {v : Value} {l : List ZZ} {w : World} (h : w.ownsRow B 29 2 v l.length (gcells l)) : OwnG B v l w := by
  rcases h.2 with ⟨rfl, h0⟩ | ⟨g, cap, cur, rfl, hb, hgb, r1, r2, r3, r4⟩
  · have : l = [] := List.eq_nil_of_length_eq_zero h0
    subst this
    exact ⟨none, 0, rfl, Or.inl rfl, Or.inl rfl⟩
  · exact ⟨_, cap, rfl, Or.inr ⟨g, rfl, fun k x y hk => ⟨row_cells h _ _ (gcells_at l k x y hk).1, row_cells h _ _ (gcells_at l k x y hk).2⟩⟩, Or.inr ⟨g, rfl, hb, (Array.getElem?_eq_some_iff.1 hgb).1, fun j => by simp [World.frozen?, hgb]⟩⟩
theorem nearT_len (a : Int) : (nearT a).length ≤ 1000 := by
  unfold nearT
  split
  · rename_i h
    have := inR_le h
    have := (nearS_len a.toNat (by simp; omega)).2.1
    omega
  · simp
def NPost (a : Int) (w : World) (e : Ending) (w' : World) : Prop := ∃ v, e = .returned (.tuple #[v, .bool (inR 0 8 a)]) ∧ OwnG w.heap.size v (nearT a) w' ∧ Below w.heap.size w w'
theorem iNear_c (a : Int) (w : World) (hT : Two w) (h6 : 2 < w.heap.size) : Calls Tryd.prog 5 #[.int .i64 a] w (NPost a w) :=
  (iTileNear_c a w hT h6).mono fun _ _ ⟨v, h1, h2, h3⟩ => ⟨v, h1, own_of_row h2, h3⟩
theorem sNear_c (a : Int) (w : World) : Calls Tryd.prog 6 #[.int .i64 a] w (NPost a w) :=
  (sTileNear_c a w).mono fun _ _ ⟨v, h1, ⟨g, c, e, h2⟩, h3⟩ => ⟨v, h1, by subst e; exact own_of_row h2, h3⟩
end Go.Proofs.YtjjpjjoadphapaaDoor

namespace Go.Proofs.YtjjpjjoadphapaaDoor
set_option linter.unusedSimpArgs false
set_option linter.unusedVariables false
open Go.RowKit

def EqGRel (l : List (Int × Int)) (w : World) (m : Nat) (i : Value) (wr : World) : Prop := ∃ k : Nat, k + m = l.length ∧ i = .int .i64 k ∧ Below w.heap.size w wr
set_option maxRecDepth 100000 in
set_option maxHeartbeats 4000000 in
theorem sameGauss_c (a a' : Option Addr) (c c' : Nat) (l : List (Int × Int)) (w : World) (hl : l.length ≤ 1000) (h : GSl a l w) (h' : GSl a' l w) : Calls Tryd.prog 7 #[.slice a l.length c, .slice a' l.length c'] w fun e w' => e = .returned (.bool true) ∧ Below w.heap.size w w' := by
  have H1 := Lib.hid h
  have H2 := Lib.hid h'
  clear h h'
  go_enter Tryd.func7, Tryd.ntmps7
  go_wp2_with fail
  go_loopg [5] l.length (fun m i wr => EqGRel l w m i wr)
  case atStart => exact ⟨0, by omega, rfl, Below.refl _ _⟩
  case round =>
    obtain ⟨k, hk, rfl, hB⟩ := hrel
    by_cases hlt : k < l.length
    · obtain ⟨x, y, hxy⟩ : ∃ x y, l[k]? = some (x, y) := ⟨l[k].1, l[k].2, by rw [List.getElem?_eq_getElem hlt]⟩
      have HG1 := H1.out.keep hB
      have HG2 := H2.out.keep hB
      rcases HG1 with h0 | ⟨g, rfl, hg⟩
      · subst h0; simp at hlt
      rcases HG2 with h0 | ⟨g', rfl, hg'⟩
      · subst h0; simp at hlt
      obtain ⟨c0, c1⟩ := hg k x y hxy
      obtain ⟨d0, d1⟩ := hg' k x y hxy
      have Lg : g < wr.heap.size := World.block_lt_of_cell? wr _ c0
      have Lg' : g' < wr.heap.size := World.block_lt_of_cell? wr _ d0
      clear hg hg' hxy
      go_wp2_with fail
      refine region_slots (fun _ => True) [] [(17, .is (.slice (some ⟨g, 0, none⟩) l.length c)), (18, .is (.int .i64 k)), (19, .is (.pointer (some ⟨g, k * 2, none⟩))), (20, .is (pr x y)), (21, .is (.slice (some ⟨g', 0, none⟩) l.length c')), (22, .is (.int .i64 k)), (23, .is (.pointer (some ⟨g', k * 2, none⟩))), (24, .is (pr x y)), (25, .is (.bool false))] (by kernel_rfl) (by kernel_rfl) (by kernel_rfl) (fun _ _ => trivial) (fun _ _ _ _ _ _ h => h) ?_
      simp only [Steps, List.contains_cons, List.contains_nil, Nat.reduceBEq, Nat.reduceAdd, Bool.or_false, Bool.false_or, Bool.or_true, Bool.true_or, Bool.false_eq_true, if_false, if_true]
      refine ⟨?_, ?_, ?_, ?_, ?_, ?_, ?_, ?_, ?_, ?_⟩
      · intro u w2 hH hd K hK
        simp only [setU, upd, List.map_cons, List.map_nil, List.contains_cons, List.contains_nil, Nat.reduceBEq, Nat.reduceAdd, Bool.or_false, Bool.false_or, Bool.or_true, Bool.true_or, Bool.false_eq_true, if_false, if_true, ite_true, ite_false, Nat.reduceEqDiff, beq_self_eq_true] at hK ⊢
        go_wp2_with (fail)
        exact hK _ _ (by (first | ((repeat' with_reducible first | assumption | exact Below.refl _ _ | apply Blw.alloc | apply Blw.drew | apply Blw.drewN | (refine Blw.after ?_ (by assumption)) | (refine Blw.set ?_ (by first | (dsimp only; omega) | (simp; omega)) _)); done) | (repeat' (first | assumption | exact Below.refl _ _ | apply Blw.alloc | apply Blw.drew | apply Blw.drewN | (refine Blw.after ?_ (by assumption)) | (refine Blw.set ?_ (by first | (dsimp only; omega) | (simp; done) | (simp; omega)) _))))) rfl
      · intro u w2 hH hd K hK
        simp only [setU, upd, List.map_cons, List.map_nil, List.contains_cons, List.contains_nil, Nat.reduceBEq, Nat.reduceAdd, Bool.or_false, Bool.false_or, Bool.or_true, Bool.true_or, Bool.false_eq_true, if_false, if_true, ite_true, ite_false, Nat.reduceEqDiff, beq_self_eq_true] at hK ⊢
        go_wp2_with (fail)
        exact hK _ _ (by (first | ((repeat' with_reducible first | assumption | exact Below.refl _ _ | apply Blw.alloc | apply Blw.drew | apply Blw.drewN | (refine Blw.after ?_ (by assumption)) | (refine Blw.set ?_ (by first | (dsimp only; omega) | (simp; omega)) _)); done) | (repeat' (first | assumption | exact Below.refl _ _ | apply Blw.alloc | apply Blw.drew | apply Blw.drewN | (refine Blw.after ?_ (by assumption)) | (refine Blw.set ?_ (by first | (dsimp only; omega) | (simp; done) | (simp; omega)) _))))) rfl
      · intro u w2 hH hd K hK
        have f17 : u 17 = (.slice (some ⟨g, 0, none⟩) l.length c) := hd 17 (by kernel_rfl)
        have f18 : u 18 = (.int .i64 k) := hd 18 (by kernel_rfl)
        simp only [setU, upd, List.map_cons, List.map_nil, List.contains_cons, List.contains_nil, Nat.reduceBEq, Nat.reduceAdd, Bool.or_false, Bool.false_or, Bool.or_true, Bool.true_or, Bool.false_eq_true, if_false, if_true, ite_true, ite_false, Nat.reduceEqDiff, beq_self_eq_true] at hK ⊢
        rw [f17, f18] at hK ⊢
        clear f17 f18
        go_wp2_with (fail)
        exact hK _ _ (by (first | ((repeat' with_reducible first | assumption | exact Below.refl _ _ | apply Blw.alloc | apply Blw.drew | apply Blw.drewN | (refine Blw.after ?_ (by assumption)) | (refine Blw.set ?_ (by first | (dsimp only; omega) | (simp; omega)) _)); done) | (repeat' (first | assumption | exact Below.refl _ _ | apply Blw.alloc | apply Blw.drew | apply Blw.drewN | (refine Blw.after ?_ (by assumption)) | (refine Blw.set ?_ (by first | (dsimp only; omega) | (simp; done) | (simp; omega)) _))))) rfl
      · intro u w2 hH hd K hK
        have f19 : u 19 = (.pointer (some ⟨g, k * 2, none⟩)) := hd 19 (by kernel_rfl)
        simp only [setU, upd, List.map_cons, List.map_nil, List.contains_cons, List.contains_nil, Nat.reduceBEq, Nat.reduceAdd, Bool.or_false, Bool.false_or, Bool.or_true, Bool.true_or, Bool.false_eq_true, if_false, if_true, ite_true, ite_false, Nat.reduceEqDiff, beq_self_eq_true] at hK ⊢
        rw [f19] at hK ⊢
        clear f19
        go_wp2_with (fail)
        exact hK _ _ (by (first | ((repeat' with_reducible first | assumption | exact Below.refl _ _ | apply Blw.alloc | apply Blw.drew | apply Blw.drewN | (refine Blw.after ?_ (by assumption)) | (refine Blw.set ?_ (by first | (dsimp only; omega) | (simp; omega)) _)); done) | (repeat' (first | assumption | exact Below.refl _ _ | apply Blw.alloc | apply Blw.drew | apply Blw.drewN | (refine Blw.after ?_ (by assumption)) | (refine Blw.set ?_ (by first | (dsimp only; omega) | (simp; done) | (simp; omega)) _))))) rfl
      · intro u w2 hH hd K hK
        simp only [setU, upd, List.map_cons, List.map_nil, List.contains_cons, List.contains_nil, Nat.reduceBEq, Nat.reduceAdd, Bool.or_false, Bool.false_or, Bool.or_true, Bool.true_or, Bool.false_eq_true, if_false, if_true, ite_true, ite_false, Nat.reduceEqDiff, beq_self_eq_true] at hK ⊢
        go_wp2_with (fail)
        exact hK _ _ (by (first | ((repeat' with_reducible first | assumption | exact Below.refl _ _ | apply Blw.alloc | apply Blw.drew | apply Blw.drewN | (refine Blw.after ?_ (by assumption)) | (refine Blw.set ?_ (by first | (dsimp only; omega) | (simp; omega)) _)); done) | (repeat' (first | assumption | exact Below.refl _ _ | apply Blw.alloc | apply Blw.drew | apply Blw.drewN | (refine Blw.after ?_ (by assumption)) | (refine Blw.set ?_ (by first | (dsimp only; omega) | (simp; done) | (simp; omega)) _))))) rfl
      · intro u w2 hH hd K hK
        simp only [setU, upd, List.map_cons, List.map_nil, List.contains_cons, List.contains_nil, Nat.reduceBEq, Nat.reduceAdd, Bool.or_false, Bool.false_or, Bool.or_true, Bool.true_or, Bool.false_eq_true, if_false, if_true, ite_true, ite_false, Nat.reduceEqDiff, beq_self_eq_true] at hK ⊢
        go_wp2_with (fail)
        exact hK _ _ (by (first | ((repeat' with_reducible first | assumption | exact Below.refl _ _ | apply Blw.alloc | apply Blw.drew | apply Blw.drewN | (refine Blw.after ?_ (by assumption)) | (refine Blw.set ?_ (by first | (dsimp only; omega) | (simp; omega)) _)); done) | (repeat' (first | assumption | exact Below.refl _ _ | apply Blw.alloc | apply Blw.drew | apply Blw.drewN | (refine Blw.after ?_ (by assumption)) | (refine Blw.set ?_ (by first | (dsimp only; omega) | (simp; done) | (simp; omega)) _))))) rfl
      · intro u w2 hH hd K hK
        have f21 : u 21 = (.slice (some ⟨g', 0, none⟩) l.length c') := hd 21 (by kernel_rfl)
        have f22 : u 22 = (.int .i64 k) := hd 22 (by kernel_rfl)
        simp only [setU, upd, List.map_cons, List.map_nil, List.contains_cons, List.contains_nil, Nat.reduceBEq, Nat.reduceAdd, Bool.or_false, Bool.false_or, Bool.or_true, Bool.true_or, Bool.false_eq_true, if_false, if_true, ite_true, ite_false, Nat.reduceEqDiff, beq_self_eq_true] at hK ⊢
        rw [f21, f22] at hK ⊢
        clear f21 f22
        go_wp2_with (fail)
        exact hK _ _ (by (first | ((repeat' with_reducible first | assumption | exact Below.refl _ _ | apply Blw.alloc | apply Blw.drew | apply Blw.drewN | (refine Blw.after ?_ (by assumption)) | (refine Blw.set ?_ (by first | (dsimp only; omega) | (simp; omega)) _)); done) | (repeat' (first | assumption | exact Below.refl _ _ | apply Blw.alloc | apply Blw.drew | apply Blw.drewN | (refine Blw.after ?_ (by assumption)) | (refine Blw.set ?_ (by first | (dsimp only; omega) | (simp; done) | (simp; omega)) _))))) rfl
      · intro u w2 hH hd K hK
        have f23 : u 23 = (.pointer (some ⟨g', k * 2, none⟩)) := hd 23 (by kernel_rfl)
        simp only [setU, upd, List.map_cons, List.map_nil, List.contains_cons, List.contains_nil, Nat.reduceBEq, Nat.reduceAdd, Bool.or_false, Bool.false_or, Bool.or_true, Bool.true_or, Bool.false_eq_true, if_false, if_true, ite_true, ite_false, Nat.reduceEqDiff, beq_self_eq_true] at hK ⊢
        rw [f23] at hK ⊢
        clear f23
        go_wp2_with (fail)
        exact hK _ _ (by (first | ((repeat' with_reducible first | assumption | exact Below.refl _ _ | apply Blw.alloc | apply Blw.drew | apply Blw.drewN | (refine Blw.after ?_ (by assumption)) | (refine Blw.set ?_ (by first | (dsimp only; omega) | (simp; omega)) _)); done) | (repeat' (first | assumption | exact Below.refl _ _ | apply Blw.alloc | apply Blw.drew | apply Blw.drewN | (refine Blw.after ?_ (by assumption)) | (refine Blw.set ?_ (by first | (dsimp only; omega) | (simp; done) | (simp; omega)) _))))) rfl
      · intro u w2 hH hd K hK
        have f20 : u 20 = (pr x y) := hd 20 (by kernel_rfl)
        have f24 : u 24 = (pr x y) := hd 24 (by kernel_rfl)
        simp only [setU, upd, List.map_cons, List.map_nil, List.contains_cons, List.contains_nil, Nat.reduceBEq, Nat.reduceAdd, Bool.or_false, Bool.false_or, Bool.or_true, Bool.true_or, Bool.false_eq_true, if_false, if_true, ite_true, ite_false, Nat.reduceEqDiff, beq_self_eq_true] at hK ⊢
        rw [f20, f24] at hK ⊢
        clear f20 f24
        go_wp2_with (fail)
        exact hK _ _ (by (first | ((repeat' with_reducible first | assumption | exact Below.refl _ _ | apply Blw.alloc | apply Blw.drew | apply Blw.drewN | (refine Blw.after ?_ (by assumption)) | (refine Blw.set ?_ (by first | (dsimp only; omega) | (simp; omega)) _)); done) | (repeat' (first | assumption | exact Below.refl _ _ | apply Blw.alloc | apply Blw.drew | apply Blw.drewN | (refine Blw.after ?_ (by assumption)) | (refine Blw.set ?_ (by first | (dsimp only; omega) | (simp; done) | (simp; omega)) _))))) rfl
      intro u w2 hH hF hne
      have hH1 := hH.1
      have hH2 := hH.2.2.2
      simp only [allFacts, SlotFact.h] at hF
      obtain ⟨f17, f18, f19, f20, f21, f22, f23, f24, f25, -⟩ := hF
      simp only [setU, upd, List.map_cons, List.map_nil, List.contains_cons, List.contains_nil, Nat.reduceBEq, Nat.reduceAdd, Bool.or_false, Bool.false_or, Bool.or_true, Bool.true_or, Bool.false_eq_true, if_false, if_true, ite_true, ite_false, Nat.reduceEqDiff, beq_self_eq_true]
      rw [f17, f18, f19, f20, f21, f22, f23, f24, f25]
      clear f17 f18 f19 f20 f21 f22 f23 f24 f25 hne
      refine wpListS_true ?_
      go_wp2
      go_roundg (gk - 1)
      case measure => omega
      case rel => exact ⟨k + 1, by omega, by go_num, by (first | ((repeat' with_reducible first | assumption | exact Below.refl _ _ | apply Blw.alloc | apply Blw.drew | apply Blw.drewN | (refine Blw.after ?_ (by assumption)) | (refine Blw.set ?_ (by first | (dsimp only; omega) | (simp; omega)) _)); done) | (repeat' (first | assumption | exact Below.refl _ _ | apply Blw.alloc | apply Blw.drew | apply Blw.drewN | (refine Blw.after ?_ (by assumption)) | (refine Blw.set ?_ (by first | (dsimp only; omega) | (simp; done) | (simp; omega)) _))))⟩
    · go_wp2
      go_ret
      exact ⟨rfl, hB⟩
end Go.Proofs.YtjjpjjoadphapaaDoor

namespace Go.Proofs.YtjjpjjoadphapaaDoor
set_option linter.unusedSimpArgs false
set_option linter.unusedVariables false
open Go.RowKit

/-- the bytes of a slice lie in w -/
def Bytes (sv : Value) (len : Nat) (w : World) : Prop :=
  ∃ a cap, sv = .slice a len cap ∧ (len = 0 ∨ ∃ b off, a = some ⟨b, off, none⟩ ∧ ∀ i, i < len → ∃ z : Int, w.cell? ⟨b, off + i, none⟩ = some (.int .u8 z) ∧ 0 ≤ z ∧ z ≤ 255)

/-- the reader in block rb stands at p -/
def Rd (rb : Nat) (sv : Value) (p : Int) (w : World) : Prop :=
  w.cell? ⟨rb, 0, none⟩ = some sv ∧ w.cell? ⟨rb, 1, none⟩ = some (.int .i64 p) ∧ w.frozen? ⟨rb, 0, none⟩ = false ∧ w.frozen? ⟨rb, 1, none⟩ = false

theorem xor_i64_nat (a b : Nat) (ha : a < 9223372036854775808) (hb : b < 9223372036854775808) : bits .xor .i64 (a : Int) (b : Int) = ((a ^^^ b : Nat) : Int) := by
  have hx : a ^^^ b < 2 ^ 63 := Nat.xor_lt_two_pow (by omega) (by omega)
  have h1 : (BitVec.ofInt 64 (a : Int)).toNat = a := by
    rw [BitVec.ofInt_natCast, BitVec.toNat_ofNat]; exact Nat.mod_eq_of_lt (by omega)
  have h2 : (BitVec.ofInt 64 (b : Int)).toNat = b := by
    rw [BitVec.ofInt_natCast, BitVec.toNat_ofNat]; exact Nat.mod_eq_of_lt (by omega)
  show IntKind.i64.wrap ((BitVec.ofInt 64 (a : Int) ^^^ BitVec.ofInt 64 (b : Int)).toNat : Int) = _
  rw [BitVec.toNat_xor, h1, h2, IntKind.wrap_i64]
  omega
theorem xor_i64_pos {a b : Int} (ha : 0 ≤ a ∧ a ≤ 1000000000000) (hb : 0 ≤ b ∧ b ≤ 1000000000000) : 0 ≤ bits .xor .i64 a b := by
  obtain ⟨x, rfl⟩ := Int.eq_ofNat_of_zero_le ha.1
  obtain ⟨y, rfl⟩ := Int.eq_ofNat_of_zero_le hb.1
  rw [xor_i64_nat x y (by omega) (by omega)]
  omega
theorem tmod_pick {x n : Int} (hx : 0 ≤ x) (hn : 1 ≤ n) : 0 ≤ x.tmod n ∧ x.tmod n < n := by
  rw [Int.tmod_eq_emod_of_nonneg hx]
  exact ⟨Int.emod_nonneg _ (by omega), Int.emod_lt_of_pos _ (by omega)⟩

/-- what a pick does: a number below n; block rb alone has changed, and there the place -/
def Picked (n : Int) (rb : Nat) (p : Int) (w : World) (e : Ending) (w' : World) : Prop :=
  ∃ (k : Int) (m : Nat), 0 ≤ k ∧ (k < n ∨ k = 0) ∧ e = .returned (.int .i64 k) ∧ w' = (w.setCell ⟨rb, 1, none⟩ (.int .i64 (p + 1))).drewN m

set_option maxHeartbeats 2000000 in
theorem pick_none (rb : Nat) (a : Option Addr) (cap : Nat) (p n : Int) (w : World) (h : Rd rb (.slice a 0 cap) p w) (hp : 0 ≤ p ∧ p ≤ 1000000) (hn : 1 ≤ n) :
    Calls Tryd.prog 22 #[.pointer (some ⟨rb, 0, none⟩), .int .i64 n] w (Picked n rb p w) := by
  obtain ⟨c0, c1, f0, f1⟩ := h
  obtain ⟨p1, p2⟩ := hp
  go_enter Tryd.func22, Tryd.ntmps22
  go_wp2
  go_ret
  exact ⟨0, 0, by omega, Or.inr rfl, rfl, rfl⟩

set_option maxHeartbeats 2000000 in
theorem pick_in (rb b off len cap : Nat) (p n z : Int) (w : World) (h : Rd rb (.slice (some ⟨b, off, none⟩) len cap) p w) (hp : 0 ≤ p ∧ p < len) (hl : len ≤ 2000) (hn : 1 ≤ n) (hn2 : n ≤ 1000000) (hb : b ≠ rb)
    (hz : w.cell? ⟨b, off + p.toNat, none⟩ = some (.int .u8 z)) (hz1 : 0 ≤ z) (hz2 : z ≤ 255) :
    Calls Tryd.prog 22 #[.pointer (some ⟨rb, 0, none⟩), .int .i64 n] w (Picked n rb p w) := by
  obtain ⟨c0, c1, f0, f1⟩ := h
  obtain ⟨p1, p2⟩ := hp
  have hlen : ((len : Int) == 0) = false := by simp; omega
  go_enter Tryd.func22, Tryd.ntmps22
  go_wp2
  go_ret
  have e1 := Int.emod_nonneg z (show n ≠ 0 by omega)
  have e2 := Int.emod_lt_of_pos z (show 0 < n by omega)
  exact ⟨z % n, 0, e1, Or.inl e2, rfl, rfl⟩

set_option maxHeartbeats 4000000 in
theorem pick_out (rb b off len cap : Nat) (p n z1 z2 : Int) (w : World) (h : Rd rb (.slice (some ⟨b, off, none⟩) len cap) p w) (hp : (len : Int) ≤ p ∧ p ≤ 1000000) (hl : len ≤ 2000) (hl0 : 1 ≤ len) (hn : 1 ≤ n) (hn2 : n ≤ 1000000) (hb : b ≠ rb)
    (hz : w.cell? ⟨b, off + (p % (len : Int)).toNat, none⟩ = some (.int .u8 z1)) (hz1 : 0 ≤ z1 ∧ z1 ≤ 255)
    (hy : w.cell? ⟨b, off + ((p * 7 + 3) % (len : Int)).toNat, none⟩ = some (.int .u8 z2)) (hy1 : 0 ≤ z2 ∧ z2 ≤ 255) :
    Calls Tryd.prog 22 #[.pointer (some ⟨rb, 0, none⟩), .int .i64 n] w (Picked n rb p w) := by
  obtain ⟨c0, c1, f0, f1⟩ := h
  obtain ⟨p1, p2⟩ := hp
  obtain ⟨y1, y2⟩ := hz1
  obtain ⟨y3, y4⟩ := hy1
  have hlen : ((len : Int) == 0) = false := by simp; omega
  have a1 := Int.emod_nonneg p (show (len : Int) ≠ 0 by omega)
  have a2 := Int.emod_lt_of_pos p (show 0 < (len : Int) by omega)
  have a3 := Int.emod_nonneg (p * 7 + 3) (show (len : Int) ≠ 0 by omega)
  have a4 := Int.emod_lt_of_pos (p * 7 + 3) (show 0 < (len : Int) by omega)
  have a5 : 0 ≤ p / (len : Int) := Int.ediv_nonneg (by omega) (by omega)
  have a6 : p / (len : Int) ≤ p := Int.ediv_le_self _ (by omega)
  go_enter Tryd.func22, Tryd.ntmps22
  go_wp2
  go_quiet (fail)
  go_wp2
  go_ret
  have t := tmod_pick (x := bits .xor .i64 (z1 * 131 + z2 * 1117 + p * 29 + p / (len : Int) * 53) ((z1 * 131 + z2 * 1117 + p * 29 + p / (len : Int) * 53) / 64)) (n := n) (xor_i64_pos ⟨by omega, by omega⟩ ⟨by omega, by omega⟩) hn
  exact ⟨_, _, t.1, Or.inl t.2, rfl, rfl⟩

/-- the bytes that the reader reads, in the world in which they lay; block rb is another -/
def Src (sv : Value) (rb : Nat) (w : World) : Prop :=
  ∃ (a : Option Addr) (len cap : Nat), sv = .slice a len cap ∧ len ≤ 2000 ∧ (len = 0 ∨ ∃ b off, a = some ⟨b, off, none⟩ ∧ b ≠ rb ∧ ∀ i, i < len → ∃ z : Int, w.cell? ⟨b, off + i, none⟩ = some (.int .u8 z) ∧ 0 ≤ z ∧ z ≤ 255)

theorem pick_c (rb : Nat) (sv : Value) (p n : Int) (w : World) (hs : Src sv rb w) (h : Rd rb sv p w) (hp : 0 ≤ p ∧ p ≤ 1000000) (hn : 1 ≤ n ∧ n ≤ 1000000) :
    Calls Tryd.prog 22 #[.pointer (some ⟨rb, 0, none⟩), .int .i64 n] w (Picked n rb p w) := by
  obtain ⟨a, len, cap, rfl, hl, hs⟩ := hs
  by_cases h0 : len = 0
  · subst h0
    exact pick_none rb a cap p n w h hp hn.1
  · have hpos : 0 < (len : Int) := Int.natCast_pos.2 (Nat.pos_of_ne_zero h0)
    have a0 : (len : Int) ≠ 0 := Int.ne_of_gt hpos
    have a1 := Int.emod_nonneg p a0
    have a2 := Int.emod_lt_of_pos p hpos
    have a3 := Int.emod_nonneg (p * 7 + 3) a0
    have a4 := Int.emod_lt_of_pos (p * 7 + 3) hpos
    have i1 : (p % (len : Int)).toNat < len := by clear hs; omega
    have i2 : ((p * 7 + 3) % (len : Int)).toNat < len := by clear hs; omega
    have i3 : 1 ≤ len := Nat.pos_of_ne_zero h0
    have i4 : p < len → p.toNat < len := by clear hs; intro h; omega
    obtain ⟨b, off, rfl, hb, hz⟩ := hs.resolve_left h0
    by_cases hlt : p < len
    · obtain ⟨z, z1, z2, z3⟩ := hz p.toNat (i4 hlt)
      exact pick_in rb b off len cap p n z w h ⟨hp.1, hlt⟩ hl hn.1 hn.2 hb z1 z2 z3
    · obtain ⟨z, z1, z2, z3⟩ := hz (p % (len : Int)).toNat i1
      obtain ⟨y, y1, y2, y3⟩ := hz ((p * 7 + 3) % (len : Int)).toNat i2
      exact pick_out rb b off len cap p n z y w h ⟨Int.not_lt.1 hlt, hp.2⟩ hl i3 hn.1 hn.2 hb z1 ⟨z2, z3⟩ y1 ⟨y2, y3⟩

/-- block rb alone may have changed, and new blocks may be there -/
def Moved (rb : Nat) (w w' : World) : Prop :=
  w.heap.size ≤ w'.heap.size ∧ (∀ b o, b < w.heap.size → b ≠ rb → w'.cell? ⟨b, o, none⟩ = w.cell? ⟨b, o, none⟩) ∧ (∀ b o, b < w.heap.size → b ≠ rb → w'.frozen? ⟨b, o, none⟩ = w.frozen? ⟨b, o, none⟩) ∧
    ∀ W0 : World, Below W0.heap.size W0 w → W0.heap.size ≤ rb → Below W0.heap.size W0 w'
theorem Moved.refl (rb : Nat) (w : World) : Moved rb w w := ⟨Nat.le_refl _, fun _ _ _ _ => rfl, fun _ _ _ _ => rfl, fun _ h _ => h⟩
theorem Moved.trans {rb : Nat} {w w1 w2 : World} (h : Moved rb w w1) (k : Moved rb w1 w2) : Moved rb w w2 :=
  ⟨Nat.le_trans h.1 k.1, fun b o hb hn => (k.2.1 b o (Nat.lt_of_lt_of_le hb h.1) hn).trans (h.2.1 b o hb hn), fun b o hb hn => (k.2.2.1 b o (Nat.lt_of_lt_of_le hb h.1) hn).trans (h.2.2.1 b o hb hn), fun W0 h0 hr => k.2.2.2 W0 (h.2.2.2 W0 h0 hr) hr⟩
theorem Moved.below {rb : Nat} {w w1 w2 : World} (h : Moved rb w w1) (k : Below w1.heap.size w1 w2) : Moved rb w w2 :=
  ⟨Nat.le_trans h.1 k.size, fun b o hb hn => (k.cell (p := ⟨b, o, none⟩) (Nat.lt_of_lt_of_le hb h.1)).trans (h.2.1 b o hb hn), fun b o hb hn => (k.frozen (p := ⟨b, o, none⟩) (Nat.lt_of_lt_of_le hb h.1)).trans (h.2.2.1 b o hb hn),
    fun W0 h0 hr => Blw.after (h.2.2.2 W0 h0 hr) k⟩
theorem Moved.set {rb : Nat} {w w1 : World} (h : Moved rb w w1) {a : Addr} (ha : w.heap.size ≤ a.block) (hr : rb < w.heap.size) (u : Value) : Moved rb w (w1.setCell a u) :=
  ⟨by simpa [World.setCell] using h.1, fun b o hb hn => (World.cell?_of_block (w := w1) (a := ⟨b, o, none⟩) (Below.heap_setCell _ _ _ _ (by show b ≠ a.block; omega))).trans (h.2.1 b o hb hn),
    fun b o hb hn => (World.frozen?_of_block (w := w1) (a := ⟨b, o, none⟩) (Below.heap_setCell _ _ _ _ (by show b ≠ a.block; omega))).trans (h.2.2.1 b o hb hn), fun W0 h0 hr0 => Blw.set (h.2.2.2 W0 h0 hr0) (by omega) u⟩
theorem Moved.alloc {rb : Nat} {w w1 : World} (h : Moved rb w w1) (o : Obj) : Moved rb w (w1.alloc o) := h.below ((Below.refl _ _).alloc (Nat.le_refl _) _)
theorem Moved.drewN {rb : Nat} {w w1 : World} (m : Nat) (h : Moved rb w w1) : Moved rb w (w1.drewN m) := h.below (Blw.drewN m (Below.refl _ _))
theorem Moved.drew {rb : Nat} {w w1 : World} (h : Moved rb w w1) : Moved rb w w1.drew := h.below (Below.refl _ _).drew

theorem Rd.keep {rb : Nat} {sv : Value} {p : Int} {w w' : World} (h : Rd rb sv p w) (hb : Below w.heap.size w w') : Rd rb sv p w' := by
  obtain ⟨c0, c1, f0, f1⟩ := h
  have hl := World.block_lt_of_cell? w _ c0
  exact ⟨keepcell hb c0, keepcell hb c1, ((bcell hb).2 _ _ hl).trans f0, ((bcell hb).2 _ _ hl).trans f1⟩
theorem Src.keep {rb : Nat} {sv : Value} {w w' : World} (h : Src sv rb w) (hb : Below w.heap.size w w') : Src sv rb w' := by
  obtain ⟨a, len, cap, rfl, hl, hs⟩ := h
  refine ⟨a, len, cap, rfl, hl, hs.imp id ?_⟩
  rintro ⟨b, off, rfl, hn, hz⟩
  refine ⟨b, off, rfl, hn, fun i hi => ?_⟩
  obtain ⟨z, z1, z2⟩ := hz i hi
  exact ⟨z, keepcell hb z1, z2⟩

/-- what a pick leaves: the reader one place on, and block rb alone changed -/
def Drawn (X : Value → Prop) (q : Int) (rb : Nat) (sv : Value) (p : Int) (w : World) (e : Ending) (w' : World) : Prop :=
  ∃ (v : Value) (p' : Int), X v ∧ e = .returned v ∧ p ≤ p' ∧ p' ≤ p + q ∧ Rd rb sv p' w' ∧ Src sv rb w' ∧ Moved rb w w'
def IntTo (n : Int) (v : Value) : Prop := ∃ k : Int, v = .int .i64 k ∧ 0 ≤ k ∧ (k < n ∨ k = 0)

theorem pick_d (rb : Nat) (sv : Value) (p n : Int) (w : World) (hs : Src sv rb w) (h : Rd rb sv p w) (hp : 0 ≤ p ∧ p ≤ 1000000) (hn : 1 ≤ n ∧ n ≤ 1000000) :
    Calls Tryd.prog 22 #[.pointer (some ⟨rb, 0, none⟩), .int .i64 n] w (Drawn (IntTo n) 1 rb sv p w) := by
  refine (pick_c rb sv p n w hs h hp hn).mono fun e w' hP => ?_
  obtain ⟨k, m, h1, h2, rfl, rfl⟩ := hP
  have hc : ∀ b o, b ≠ rb → ((w.setCell ⟨rb, 1, none⟩ (.int .i64 (p + 1))).drewN m).cell? ⟨b, o, none⟩ = w.cell? ⟨b, o, none⟩ := fun b o hb => World.cell?_of_block (w := w) (a := ⟨b, o, none⟩) (Below.heap_setCell _ _ _ _ hb)
  have hf : ∀ b o, b ≠ rb → ((w.setCell ⟨rb, 1, none⟩ (.int .i64 (p + 1))).drewN m).frozen? ⟨b, o, none⟩ = w.frozen? ⟨b, o, none⟩ := fun b o hb => World.frozen?_of_block (w := w) (a := ⟨b, o, none⟩) (Below.heap_setCell _ _ _ _ hb)
  obtain ⟨c0, c1, f0, f1⟩ := h
  refine ⟨_, p + 1, ⟨k, rfl, h1, h2⟩, rfl, by omega, by omega, ⟨by go_simp, by go_simp, by go_simp, by go_simp⟩, ?_, by simp [World.drewN, World.setCell], fun b o _ hb => hc b o hb, fun b o _ hb => hf b o hb, fun W0 hb h0 => Blw.drewN _ (Blw.set hb h0 _)⟩
  obtain ⟨a, len, cap, rfl, hl, hs⟩ := hs
  refine ⟨a, len, cap, rfl, hl, hs.imp id ?_⟩
  rintro ⟨b, off, rfl, hb, hz⟩
  exact ⟨b, off, rfl, hb, fun i hi => by rw [hc _ _ hb]; exact hz i hi⟩

/-- the law's argument: a list of bytes that lies in w -/
def Code (v : Value) (w : World) : Prop :=
  ∃ (a : Option Addr) (len cap : Nat), v = .slice a len cap ∧ len ≤ cap ∧ len ≤ 1048576 ∧ (len = 0 ∨ ∃ b off, a = some ⟨b, off, none⟩ ∧ ∀ i, i < len → ∃ z : Int, w.cell? ⟨b, off + i, none⟩ = some (.int .u8 z) ∧ 0 ≤ z ∧ z ≤ 255)
theorem Code.keep {v : Value} {w w' : World} (h : Code v w) (hb : Below w.heap.size w w') : Code v w' := by
  obtain ⟨a, len, cap, rfl, h1, h2, h3⟩ := h
  refine ⟨a, len, cap, rfl, h1, h2, h3.imp id ?_⟩
  rintro ⟨b, off, rfl, hz⟩
  refine ⟨b, off, rfl, fun i hi => ?_⟩
  obtain ⟨z, z1, z2⟩ := hz i hi
  exact ⟨z, keepcell hb z1, z2⟩
/-- what l6Open gives: a reader at the beginning, in a new block -/
def Opened (w : World) (e : Ending) (w' : World) : Prop :=
  ∃ sv, e = .returned (.pointer (some ⟨w.heap.size, 0, none⟩)) ∧ Rd w.heap.size sv 0 w' ∧ Src sv w.heap.size w' ∧ w'.heap.size = w.heap.size + 1 ∧ Below w.heap.size w w'
theorem l6Open_c (v : Value) (w : World) (h : Code v w) : Calls Tryd.prog 9 #[v] w (Opened w) := by
  obtain ⟨a, len, cap, rfl, h1, h2, h3⟩ := h
  by_cases h0 : len = 0
  · subst h0
    go_enter Tryd.func9, Tryd.ntmps9
    go_wp2
    go_ret
    refine ⟨.slice a 0 cap, rfl, ⟨by go_simp, by go_simp, by rw [frozen?_alloc_cells]; simp [World.frozen?], by rw [frozen?_alloc_cells]; simp [World.frozen?]⟩, ⟨a, 0, cap, rfl, by omega, Or.inl rfl⟩, by simp, (Below.refl _ _).alloc (Nat.le_refl _) _⟩
  · obtain ⟨b, off, rfl, hz⟩ := h3.resolve_left h0
    have hl : b < w.heap.size := by
      obtain ⟨z, z1, -⟩ := hz 0 (by omega)
      exact World.block_lt_of_cell? w _ z1
    have HZ := Lib.hid hz
    clear hz
    have key : ∀ n, n ≤ len → ∀ i, i < n → ∃ z : Int, (w.alloc (.cells #[.slice (some ⟨b, off, none⟩) n cap, .int .i64 0] 56)).cell? ⟨b, off + i, none⟩ = some (.int .u8 z) ∧ 0 ≤ z ∧ z ≤ 255 := by
      intro n hn i hi
      obtain ⟨z, z1, z2⟩ := HZ.out i (by omega)
      exact ⟨z, keepcell ((Below.refl _ _).alloc (Nat.le_refl _) _) z1, z2⟩
    by_cases hb : 2000 < len
    · go_enter Tryd.func9, Tryd.ntmps9
      go_wp2
      go_ret
      exact ⟨.slice (some ⟨b, off, none⟩) 2000 cap, rfl, ⟨by go_simp, by go_simp, by rw [frozen?_alloc_cells]; simp [World.frozen?], by rw [frozen?_alloc_cells]; simp [World.frozen?]⟩, ⟨_, 2000, cap, rfl, by omega, Or.inr ⟨b, off, rfl, by omega, key 2000 (by omega)⟩⟩, by simp, (Below.refl _ _).alloc (Nat.le_refl _) _⟩
    · go_enter Tryd.func9, Tryd.ntmps9
      go_wp2
      go_ret
      exact ⟨.slice (some ⟨b, off, none⟩) len cap, rfl, ⟨by go_simp, by go_simp, by rw [frozen?_alloc_cells]; simp [World.frozen?], by rw [frozen?_alloc_cells]; simp [World.frozen?]⟩, ⟨_, len, cap, rfl, by omega, Or.inr ⟨b, off, rfl, by omega, key len (by omega)⟩⟩, by simp, (Below.refl _ _).alloc (Nat.le_refl _) _⟩

theorem Moved.cell {rb : Nat} {w w' : World} (h : Moved rb w w') {b o : Nat} {v : Value} (hb : b < w.heap.size) (hn : b ≠ rb) (hv : w.cell? ⟨b, o, none⟩ = some v) : w'.cell? ⟨b, o, none⟩ = some v := (h.2.1 b o hb hn).trans hv
theorem Moved.froz {rb : Nat} {w w' : World} (h : Moved rb w w') {b o : Nat} {v : Bool} (hb : b < w.heap.size) (hn : b ≠ rb) (hv : w.frozen? ⟨b, o, none⟩ = v) : w'.frozen? ⟨b, o, none⟩ = v := (h.2.2.1 b o hb hn).trans hv
theorem Src.moved {sv : Value} {rb : Nat} {w w' : World} (h : Src sv rb w) (k : Moved rb w w') : Src sv rb w' := by
  obtain ⟨a, len, cap, rfl, hl, hs⟩ := h
  refine ⟨a, len, cap, rfl, hl, hs.imp id ?_⟩
  rintro ⟨b, off, rfl, hn, hz⟩
  refine ⟨b, off, rfl, hn, fun i hi => ?_⟩
  obtain ⟨z, z1, z2⟩ := hz i hi
  exact ⟨z, k.cell (World.block_lt_of_cell? w _ z1) hn z1, z2⟩
theorem Rd.set {rb : Nat} {sv : Value} {p : Int} {w : World} (h : Rd rb sv p w) {a : Addr} (ha : a.block ≠ rb) (u : Value) : Rd rb sv p (w.setCell a u) := by
  have hc : ∀ o, (w.setCell a u).cell? ⟨rb, o, none⟩ = w.cell? ⟨rb, o, none⟩ := fun o => World.cell?_of_block (w := w) (a := ⟨rb, o, none⟩) (Below.heap_setCell _ _ _ _ (Ne.symm ha))
  have hf : ∀ o, (w.setCell a u).frozen? ⟨rb, o, none⟩ = w.frozen? ⟨rb, o, none⟩ := fun o => World.frozen?_of_block (w := w) (a := ⟨rb, o, none⟩) (Below.heap_setCell _ _ _ _ (Ne.symm ha))
  exact ⟨(hc 0).trans h.1, (hc 1).trans h.2.1, (hf 0).trans h.2.2.1, (hf 1).trans h.2.2.2⟩

/-- some Gauss, a little wider than the model's bound -/
def GaussV (v : Value) : Prop := ∃ x y : Int, v = .agg #[.int .i64 x, .int .i64 y] ∧ (-1000001 ≤ x ∧ x ≤ 1000001) ∧ (-1000001 ≤ y ∧ y ≤ 1000001)
end Go.Proofs.YtjjpjjoadphapaaDoor

namespace Go.Proofs.YtjjpjjoadphapaaDoor
set_option linter.unusedSimpArgs false
set_option linter.unusedVariables false
open Go.RowKit

/-- what a draw of one Gauss leaves -/
def One (w : World) (e : Ending) (w' : World) : Prop :=
  ∃ x y : Int, e = .returned (.agg #[.int .i64 x, .int .i64 y]) ∧ (-1000001 ≤ x ∧ x ≤ 1000001) ∧ (-1000001 ≤ y ∧ y ≤ 1000001) ∧ Below w.heap.size w w'

end Go.Proofs.YtjjpjjoadphapaaDoor

namespace Go.Proofs.YtjjpjjoadphapaaDoor
set_option linter.unusedSimpArgs false
set_option linter.unusedVariables false
open Go.RowKit

theorem Own2.moved {rb : Nat} {w w' : World} {b : Nat} {x y : Int} (h : Own2 w b x y) (m : Moved rb w w') (hn : b ≠ rb) : Own2 w' b x y :=
  ⟨m.cell h.lt hn h.c0, m.cell h.lt hn h.c1, m.froz h.lt hn h.f0, m.froz h.lt hn h.f1⟩
def LevV (v : Value) : Prop := ∃ k : Int, v = .int .i64 k ∧ (-8 ≤ k ∧ k ≤ 13)
set_option maxHeartbeats 2000000 in
theorem l92Level_c (rb : Nat) (sv : Value) (p : Int) (w : World) (hs : Src sv rb w) (h : Rd rb sv p w) (hp : 0 ≤ p ∧ p ≤ 1000) :
    Calls Tryd.prog 8 #[.pointer (some ⟨rb, 0, none⟩)] w (Drawn LevV 3 rb sv p w) := by
  have hrb : rb < w.heap.size := World.block_lt_of_cell? w _ h.1
  go_enter Tryd.func8, Tryd.ntmps8
  go_wp2_with fail
  refine (pick_d rb sv p 7 w hs h ⟨by omega, by omega⟩ ⟨by omega, by omega⟩).mono ?_
  rintro e W1 ⟨v, p1, ⟨a, rfl, a0, a1⟩, rfl, r0, r1, h1, hs1, m1⟩
  have M1 := Lib.hid m1
  go_wp2_with fail
  refine (pick_d rb sv p1 20 W1 hs1 h1 ⟨by omega, by omega⟩ ⟨by omega, by omega⟩).mono ?_
  rintro e W2 ⟨v, p2, ⟨b, rfl, b0, b1⟩, rfl, s0, s1, h2, hs2, m2⟩
  have M2 := Lib.hid m2
  have hq : b.tdiv 19 = 0 ∨ b.tdiv 19 = 1 := by rw [Int.tdiv_eq_ediv_of_nonneg b0]; omega
  have H1 := Lib.hid h1
  clear hs h m1 m2 hs1 h1
  rcases hq with hq | hq
  all_goals
    have hw : IntKind.i64.wrap (b.tdiv 19) = b.tdiv 19 := IntWalk.i64_in _ (by omega)
    go_wp2_with fail
    refine (pick_d rb sv p2 20 W2 hs2 h2 ⟨by omega, by omega⟩ ⟨by omega, by omega⟩).mono ?_
    rintro e W3 ⟨v, p3, ⟨c, rfl, c0, c1⟩, rfl, t0, t1, h3, hs3, m3⟩
    have HF := Lib.hid (And.intro h3 (And.intro hs3 (M1.out.trans (M2.out.trans m3))))
    have hr : c.tdiv 19 = 0 ∨ c.tdiv 19 = 1 := by rw [Int.tdiv_eq_ediv_of_nonneg c0]; omega
    clear hs2 h2 h3 hs3 m3
    rcases hr with hr | hr
    all_goals
      go_wp2_with fail
      go_ret
      exact ⟨_, p3, ⟨_, rfl, by omega⟩, rfl, by omega, by omega, HF.out.1, HF.out.2.1, HF.out.2.2⟩
/-- what a draw of a level leaves -/
def OneLev (w : World) (e : Ending) (w' : World) : Prop := ∃ k : Int, e = .returned (.int .i64 k) ∧ (-8 ≤ k ∧ k ≤ 13) ∧ Below w.heap.size w w'
theorem drawTileNear_c (v : Value) (w : World) (h : Code v w) : Calls Tryd.prog 4 #[v] w (OneLev w) := by
  go_enter Tryd.func4, Tryd.ntmps4
  go_wp2_with fail
  refine (l6Open_c v w h).mono ?_
  rintro e W1 ⟨sv, rfl, hr, hs, hz, hb⟩
  go_wp2_with fail
  refine (l92Level_c w.heap.size sv 0 W1 hs hr ⟨by omega, by omega⟩).mono ?_
  rintro e W2 ⟨v', p', ⟨k, rfl, hk⟩, rfl, -, -, -, -, m⟩
  have hB2 : Below w.heap.size w W2 := m.2.2.2 w hb (Nat.le_refl _)
  go_wp2_with fail
  go_ret
  exact ⟨k, rfl, hk, hB2⟩
/-- what a draw of a level and a Gauss leaves -/
def LevG (w : World) (e : Ending) (w' : World) : Prop :=
  ∃ k x y : Int, e = .returned (.tuple #[.int .i64 k, .agg #[.int .i64 x, .int .i64 y]]) ∧ (-8 ≤ k ∧ k ≤ 13) ∧ (-1000001 ≤ x ∧ x ≤ 1000001) ∧ (-1000001 ≤ y ∧ y ≤ 1000001) ∧ Below w.heap.size w w'
end Go.Proofs.YtjjpjjoadphapaaDoor

namespace Go.Proofs.YtjjpjjoadphapaaDoor
set_option linter.unusedSimpArgs false
set_option linter.unusedVariables false
open Go.ChangeShapes Go.WideShapes Go.ChangeAt Go.RowKit Go.Joins

theorem laidOut : laidOutB Tryd.prog = true := by kernel_rfl
theorem cellsB : Tryd.prog.cellsOf 5 = 1 := by kernel_rfl

theorem code_of {H : Type} {enc : TypeId × Value → H} {W : World} {a : Option Addr} {len cap : Nat} {d : DataW H} {p : List MemPlace}
    (h : DataW.Trod enc Tryd.prog W 0 (fun _ => true) true 22 (.slice a len cap) d p) (hl : len ≤ 1048576) : Code (.slice a len cap) W := by
  obtain ⟨fuel, hf⟩ := h
  rcases open_ints Tryd.underlying22 Tryd.underlying5 cellsB hf with ⟨hcs, hx⟩ | ⟨a', len', cap', zs, hcs, _, h1, h2, hz, hx, hcell, hwz⟩
  · simp [Value.cells] at hcs
    obtain ⟨rfl, rfl, rfl⟩ := hcs
    exact ⟨none, 0, 0, rfl, Nat.le_refl _, by omega, Or.inl rfl⟩
  · simp [Value.cells] at hcs
    obtain ⟨rfl, rfl, rfl⟩ := hcs
    simp only [if_true] at hz
    refine ⟨_, _, _, rfl, h1, hl, ?_⟩
    by_cases h0 : len = 0
    · exact Or.inl h0
    right
    obtain ⟨b, off, s⟩ := a'
    obtain rfl : s = none := by simpa [Addr.add] using World.cell?_spot (hcell 0 (by omega))
    refine ⟨b, off, rfl, fun i hi => ⟨zs.getD i 0, ?_, ?_⟩⟩
    · have h := hcell i (by omega)
      rwa [add_plain] at h
    · have hm : zs.getD i 0 ∈ zs := by
        have : zs.getD i 0 = zs[i]'(by omega) := by simp [List.getD, show i < zs.length by omega]
        rw [this]; exact List.getElem_mem _
      have hw := hwz _ hm
      have e1 : IntKind.u8.min = 0 := rfl
      have e2 : IntKind.u8.max = 255 := rfl
      simp only [Lit.wf, Bool.and_eq_true, decide_eq_true_eq] at hw
      omega
end Go.Proofs.YtjjpjjoadphapaaDoor
