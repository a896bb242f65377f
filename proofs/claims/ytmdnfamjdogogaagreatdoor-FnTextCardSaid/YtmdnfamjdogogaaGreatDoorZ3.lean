/- Merged texts: Zp Zq Zg Zk Zt Zu Zv Zy Po Same Zs Float Gm2 Zz BaseD Hs BaseP. No law is stated here. -/
import Derived.Shelf.Pu.ToError
import Derived.Deep.Cut
import Derived.StillTailTactics
import Derived.Deep.DeepCutAuto
import Derived.RegionCalls
import Derived.Deep.RegionHeld
import Derived.Lib.Join
import Derived.Laws.ComplexArith
import Derived.WalkKit
import Derived.Laws.FloatArith
import Derived.Test.YtmdnfamjdogogaaGreatDoorTie
import Derived.Test.YtmdnfamjdogogaaGreatDoorCards
import Derived.ProofKit
import Derived.OpenShut
import Derived.ChangeSame
import Derived.JoinedOf
import Derived.JoinedAt
import Derived.RowKit3
import Derived.Lib.SmallJoins
import Derived.LaidMore
import Derived.Lay
import Derived.SevenTiedAt
import Derived.Stop.Joined
import Derived.HandedShaped
import Derived.Stop.LaidErr
import Derived.Shelf.Vars
import Derived.ChangeSlices
import Derived.Carry
import Derived.Test.YtmdnfamjdogogaaGreatDoorZ2
namespace Go.Proofs.YtmdnfamjdogogaaGreatDoor
set_option linter.unusedSimpArgs false
set_option linter.unusedVariables false
open Go.RowKit Ieee

def IfV (ev : Value) : Prop := ev = .nilIface ∨ ∃ te pe, ev = .iface te pe
def GCell (g : Nat) (w : World) : Prop := ∃ ev, w.cell? ⟨g, 0, none⟩ = some ev ∧ IfV ev
/-- what the library's variables hold -/
def Gl (w : World) : Prop := Tz w ∧ (∃ m, w.cell? ⟨1, 0, none⟩ = some (.int .i64 m)) ∧ GCell 2 w ∧ GCell 3 w
theorem GCell.keep {g : Nat} {w w' : World} (h : GCell g w) (hb : Below w.heap.size w w') : GCell g w' := by
  obtain ⟨ev, h1, h2⟩ := h
  exact ⟨ev, keepcell hb h1, h2⟩
theorem Gl.keep {w w' : World} (h : Gl w) (hb : Below w.heap.size w w') : Gl w' := by
  obtain ⟨h1, ⟨m, h2⟩, h3, h4⟩ := h
  exact ⟨h1.keep h1.pos hb, ⟨m, keepcell hb h2⟩, h3.keep hb, h4.keep hb⟩
theorem toErr_c (fn s : ByteArray) (k : Nat) (w : World) (hs : s.size ≤ 2000000) (hG : Gl w) (hk : k = 1 ∨ k = 2) :
    Calls Tryz.prog 53 #[.string fn, .string s, .int .i64 16, .int .i64 32, .iface 106 (.int .i64 (k : Int))] w fun e w' => (∃ ev, e = .returned ev) ∧ Below w.heap.size w w' := by
  obtain ⟨-, -, ⟨e1, a1, a2⟩, ⟨e2, b1, b2⟩⟩ := hG
  rcases hk with rfl | rfl
  · exact (AnyPu.strconv_toError_range Tryz.laysPu17 fn s 16 32 e2 w (by omega) b1 b2).mono fun e w' ⟨N, h1, _, _, h2⟩ => ⟨⟨_, h1⟩, h2⟩
  · exact (AnyPu.strconv_toError_syntax Tryz.laysPu17 fn s 16 32 e1 w (by omega) a1 a2).mono fun e w' ⟨N, h1, _, _, h2⟩ => ⟨⟨_, h1⟩, h2⟩
def P64Post (s : ByteArray) (w : World) (e : Ending) (w' : World) : Prop := ∃ ev, e = .returned (.tuple #[.int .u64 (puG (toL s)).1, ev]) ∧ Below w.heap.size w w'
set_option maxRecDepth 100000 in
set_option maxHeartbeats 4000000 in
theorem pu_c (s : ByteArray) (w : World) (hs : s.size ≤ 2000000) (hG : Gl w) : Calls Tryz.prog 32 #[.string s, .int .i64 16, .int .i64 32] w (P64Post s w) := by
  have HG := Lib.hid hG
  have hc := (puG_in (toL s)).2
  clear hG
  go_enter Tryz.func32, Tryz.ntmps32
  go_wp2_with fail
  refine (puInner_c s w hs).mono ?_
  rintro e W1 ⟨rfl, hb1⟩
  have HB1 := Lib.hid hb1
  have HG1 := Lib.hid (HG.out.keep hb1)
  have FIN := Lib.hid (fun ev W (h : Below w.heap.size w W) => (show P64Post s w (.returned (.tuple #[.int .u64 (puG (toL s)).1, ev])) W from ⟨ev, rfl, h⟩))
  clear hb1 HG
  unfold puV
  generalize (puG (toL s)).2 = k at *
  generalize (puG (toL s)).1 = n at *
  rcases (show k = 0 ∨ k = 1 ∨ k = 2 by omega) with rfl | rfl | rfl
  · rw [show evOf 0 = .nilIface by rfl]
    clear hc
    go_wp2_with fail
    go_ret2
    exact FIN.out _ _ HB1.out
  · rw [show evOf 1 = .iface 106 (.int .i64 1) by rfl]
    clear hc
    go_wp2_with fail
    refine (toErr_c _ s 1 W1 hs HG1.out (Or.inl rfl)).mono ?_
    rintro e W2 ⟨⟨ev, rfl⟩, hb2⟩
    have HB2 := Lib.hid (Blw.after HB1.out hb2)
    clear hb2
    go_wp2_with fail
    go_ret2
    exact FIN.out _ _ HB2.out
  · rw [show evOf 2 = .iface 106 (.int .i64 2) by rfl]
    clear hc
    go_wp2_with fail
    refine (toErr_c _ s 2 W1 hs HG1.out (Or.inr rfl)).mono ?_
    rintro e W2 ⟨⟨ev, rfl⟩, hb2⟩
    have HB2 := Lib.hid (Blw.after HB1.out hb2)
    clear hb2
    go_wp2_with fail
    go_ret2
    exact FIN.out _ _ HB2.out
/-- the number of a word -/
def numF (l : List UInt8) : Nat := (puG l).1.toNat
theorem numF_lt (l : List UInt8) : numF l < 4294967296 := by have := (puG_in l).1; unfold numF; omega
theorem numF_ok {l : List UInt8} (h : okX l = true) : numF l = vX l := by unfold numF; rw [puG_ok h]; rfl
theorem from_run (n : Int) (w : World) : (Extern.MathFloatBits.float32frombits #[.int .u32 n]).run Tryz.prog w = .ok (.float .f32 n.toNat) w := rfl
set_option maxRecDepth 100000 in
set_option maxHeartbeats 4000000 in
theorem numberOf_c (s : ByteArray) (w : World) (hs : s.size ≤ 2000000) (hG : Gl w) : Calls Tryz.prog 18 #[.string s] w fun e w' => e = .returned (.float .f32 (numF (toL s))) ∧ Below w.heap.size w w' := by
  have HG := Lib.hid hG
  have hc := (puG_in (toL s)).1
  clear hG
  go_enter Tryz.func18, Tryz.ntmps18
  go_wp2_with fail
  refine (pu_c s w hs HG.out).mono ?_
  rintro e W1 ⟨ev, rfl, hb1⟩
  have HB1 := Lib.hid hb1
  have HV := Lib.hid (show numF (toL s) = (puG (toL s)).1.toNat from rfl)
  clear hb1
  generalize (puG (toL s)).1 = n at *
  have hw : IntKind.u32.wrap n = n := by rw [IntKind.wrap_u32']; omega
  go_wp2
  rw [run_callFunc_extern Tryz.func33 (by kernel_rfl) (by kernel_rfl) (by kernel_rfl) (e := Extern.MathFloatBits.float32frombits) (by kernel_rfl), from_run]
  simp only [Result.andThen]
  rw [Oper.upon_value]
  go_wp2
  go_ret
  exact ⟨by rw [HV.out]; rfl, HB1.out⟩
end Go.Proofs.YtmdnfamjdogogaaGreatDoor

namespace Go.Proofs.YtmdnfamjdogogaaGreatDoor
set_option linter.unusedSimpArgs false
set_option linter.unusedVariables false
open Go.RowKit Ieee

/-- the text of an entry -/
def txB (s : ByteArray) (p : Nat × Nat) (n : Nat) : ByteArray := bs (txt (toL s) p.1 p.2 n)
theorem join_txt (s : ByteArray) (x y n : Nat) : (⟨(Lib.join ([s, bs (hl 7 x), bs (hl 7 y), bs (hl 7 n)].map (·.data.toList)) (⟨#[32]⟩ : ByteArray).data.toList).toArray⟩ : ByteArray) = bs (txt (toL s) x y n) := by
  unfold bs txt
  try congr 1
  all_goals first | done | simp [Lib.join, List.intercalate, toL, List.intersperse]
theorem txB_len (s : ByteArray) (p : Nat × Nat) (n : Nat) : (txt (toL s) p.1 p.2 n).length = s.size + 27 := by
  unfold txt
  simp only [List.length_append, List.length_cons, hl_len, toL_len]
theorem joinT_c (g : Nat) (s : ByteArray) (x y n : Nat) (w : World) (hs : s.size ≤ 2000000) (hg : g < w.heap.size) (c0 : w.cell? ⟨g, 0, none⟩ = some (.string s)) (c1 : w.cell? ⟨g, 1, none⟩ = some (.string (bs (hl 7 x))))
    (c2 : w.cell? ⟨g, 2, none⟩ = some (.string (bs (hl 7 y)))) (c3 : w.cell? ⟨g, 3, none⟩ = some (.string (bs (hl 7 n)))) :
    Calls Tryz.prog 27 #[.slice (some ⟨g, 0, none⟩) 4 4, .string ⟨#[32]⟩] w fun e w' => e = .returned (.string (bs (txt (toL s) x y n))) ∧ Below w.heap.size w w' := by
  have hj := join_txt s x y n
  have h := Any.strings_Join Tryz.lays156 Tryz.Builder_Extra_156 g 0 4 [s, bs (hl 7 x), bs (hl 7 y), bs (hl 7 n)] ⟨#[32]⟩ w (by
    intro j y' hy
    match j, hy with
    | 0, hy => simp at hy; subst hy; exact c0
    | 1, hy => simp at hy; subst hy; exact c1
    | 2, hy => simp at hy; subst hy; exact c2
    | 3, hy => simp at hy; subst hy; exact c3) hg (by simp) (by simp) (by
    have e := congrArg (fun b : ByteArray => b.data.toList.length) hj
    dsimp only at e
    rw [List.toList_toArray] at e
    rw [e]
    have e2 := txB_len s (x, y) n
    have e3 : (bs (txt (toL s) x y n)).data.toList.length = (txt (toL s) x y n).length := by simp [bs]
    rw [e3, e2]; omega)
  rw [hj] at h
  exact h
set_option maxRecDepth 100000 in
set_option maxHeartbeats 8000000 in
theorem textOf_c (s : ByteArray) (p : Nat × Nat) (n : Nat) (w : World) (hs : s.size ≤ 2000000) (hp : W32 p) (hn : n < 4294967296) (hG : Gl w) : Calls Tryz.prog 12 #[encE s p n] w fun e w' => e = .returned (.string (txB s p n)) ∧ Below w.heap.size w w' := by
  have HG := Lib.hid hG
  clear hG
  go_enter Tryz.func12, Tryz.ntmps12
  go_wp2_with fail
  generalize hW : World.alloc _ _ = W0
  have N0 := Lib.hid (show BxE w.heap.size s p n W0 by rw [← hW]; exact BxE.new _ _ _ _ _)
  have hB0 : Below w.heap.size w W0 := by rw [← hW]; (first | ((repeat' with_reducible first | assumption | exact Below.refl _ _ | apply Blw.alloc | apply Blw.drew | apply Blw.drewN | (refine Blw.after ?_ (by assumption)) | (refine Blw.set ?_ (by first | (dsimp only; omega) | (simp; omega)) _)); done) | (repeat' (first | assumption | exact Below.refl _ _ | apply Blw.alloc | apply Blw.drew | apply Blw.drewN | (refine Blw.after ?_ (by assumption)) | (refine Blw.set ?_ (by first | (dsimp only; omega) | (simp; done) | (simp; omega)) _))))
  have HG0 := Lib.hid (HG.out.keep hB0)
  have HB0 := Lib.hid hB0
  clear hW hB0 HG
  obtain ⟨z0, d0, d1, d2, _⟩ := N0.out
  obtain ⟨hp1, hp2⟩ := hp
  have HTX := Lib.hid (show txB s p n = bs (txt (toL s) p.1 p.2 n) from rfl)
  have HW := Lib.hid (fun (W : World) (hW : Below W0.heap.size W0 W) x (hx : x < 4294967296) => iWordBits_c x W hx (HG0.out.1.keep HG0.out.1.pos hW))
  have HE := Lib.hid (fun (W : World) (hW : Below W0.heap.size W0 W) => eightDigits_c n W hn (HG0.out.1.keep HG0.out.1.pos hW))
  have HJ := Lib.hid (fun (g : Nat) (W : World) => joinT_c g s p.1 p.2 n W hs)
  clear HG0
  refine region_slots (fun _ => True) [] [(4, .is (.pointer (some ⟨w.heap.size, 0, none⟩))), (5, .is (.string s)), (6, .is (.pointer (some ⟨w.heap.size, 1, none⟩))), (7, .is (encW p)), (8, .is (.float .f32 p.1)), (9, .is (.string (bs (hl 7 p.1)))), (10, .is (.pointer (some ⟨w.heap.size, 1, none⟩))), (11, .is (encW p)), (12, .is (.float .f32 p.2)), (13, .is (.string (bs (hl 7 p.2)))), (14, .is (.pointer (some ⟨w.heap.size, 2, none⟩))), (15, .is (.int .u32 (n : Nat))), (16, .is (.string (bs (hl 7 n))))] (by kernel_rfl) (by kernel_rfl) (by kernel_rfl) (fun _ _ => trivial) (fun _ _ _ _ _ _ h => h) ?_
  simp only [Steps, List.contains_cons, List.contains_nil, Nat.reduceBEq, Nat.reduceAdd, Bool.or_false, Bool.false_or, Bool.or_true, Bool.true_or, Bool.false_eq_true, if_false, if_true]
  refine ⟨?_, ?_, ?_, ?_, ?_, ?_, ?_, ?_, ?_, ?_, ?_, ?_, ?_, ?_⟩
  · intro u w2 hH hd K hK
    simp only [setU, upd, List.map_cons, List.map_nil, List.contains_cons, List.contains_nil, Nat.reduceBEq, Nat.reduceAdd, Bool.or_false, Bool.false_or, Bool.or_true, Bool.true_or, Bool.false_eq_true, if_false, if_true, ite_true, ite_false, Nat.reduceEqDiff, beq_self_eq_true] at hK ⊢
    go_wp2_with (fail)
    exact hK _ _ (by (first | ((repeat' with_reducible first | assumption | exact Below.refl _ _ | apply Blw.alloc | apply Blw.drew | apply Blw.drewN | (refine Blw.after ?_ (by assumption)) | (refine Blw.set ?_ (by first | (dsimp only; omega) | (simp; omega)) _)); done) | (repeat' (first | assumption | exact Below.refl _ _ | apply Blw.alloc | apply Blw.drew | apply Blw.drewN | (refine Blw.after ?_ (by assumption)) | (refine Blw.set ?_ (by first | (dsimp only; omega) | (simp; done) | (simp; omega)) _))))) rfl
  · intro u w2 hH hd K hK
    have f4 : u 4 = (.pointer (some ⟨w.heap.size, 0, none⟩)) := hd 4 (by kernel_rfl)
    simp only [setU, upd, List.map_cons, List.map_nil, List.contains_cons, List.contains_nil, Nat.reduceBEq, Nat.reduceAdd, Bool.or_false, Bool.false_or, Bool.or_true, Bool.true_or, Bool.false_eq_true, if_false, if_true, ite_true, ite_false, Nat.reduceEqDiff, beq_self_eq_true] at hK ⊢
    rw [f4] at hK ⊢
    clear f4
    go_wp2_with (fail)
    exact hK _ _ (by (first | ((repeat' with_reducible first | assumption | exact Below.refl _ _ | apply Blw.alloc | apply Blw.drew | apply Blw.drewN | (refine Blw.after ?_ (by assumption)) | (refine Blw.set ?_ (by first | (dsimp only; omega) | (simp; omega)) _)); done) | (repeat' (first | assumption | exact Below.refl _ _ | apply Blw.alloc | apply Blw.drew | apply Blw.drewN | (refine Blw.after ?_ (by assumption)) | (refine Blw.set ?_ (by first | (dsimp only; omega) | (simp; done) | (simp; omega)) _))))) rfl
  · intro u w2 hH hd K hK
    simp only [setU, upd, List.map_cons, List.map_nil, List.contains_cons, List.contains_nil, Nat.reduceBEq, Nat.reduceAdd, Bool.or_false, Bool.false_or, Bool.or_true, Bool.true_or, Bool.false_eq_true, if_false, if_true, ite_true, ite_false, Nat.reduceEqDiff, beq_self_eq_true] at hK ⊢
    go_wp2_with (fail)
    exact hK _ _ (by (first | ((repeat' with_reducible first | assumption | exact Below.refl _ _ | apply Blw.alloc | apply Blw.drew | apply Blw.drewN | (refine Blw.after ?_ (by assumption)) | (refine Blw.set ?_ (by first | (dsimp only; omega) | (simp; omega)) _)); done) | (repeat' (first | assumption | exact Below.refl _ _ | apply Blw.alloc | apply Blw.drew | apply Blw.drewN | (refine Blw.after ?_ (by assumption)) | (refine Blw.set ?_ (by first | (dsimp only; omega) | (simp; done) | (simp; omega)) _))))) rfl
  · intro u w2 hH hd K hK
    have f6 : u 6 = (.pointer (some ⟨w.heap.size, 1, none⟩)) := hd 6 (by kernel_rfl)
    simp only [setU, upd, List.map_cons, List.map_nil, List.contains_cons, List.contains_nil, Nat.reduceBEq, Nat.reduceAdd, Bool.or_false, Bool.false_or, Bool.or_true, Bool.true_or, Bool.false_eq_true, if_false, if_true, ite_true, ite_false, Nat.reduceEqDiff, beq_self_eq_true] at hK ⊢
    rw [f6] at hK ⊢
    clear f6
    go_wp2_with (fail)
    exact hK _ _ (by (first | ((repeat' with_reducible first | assumption | exact Below.refl _ _ | apply Blw.alloc | apply Blw.drew | apply Blw.drewN | (refine Blw.after ?_ (by assumption)) | (refine Blw.set ?_ (by first | (dsimp only; omega) | (simp; omega)) _)); done) | (repeat' (first | assumption | exact Below.refl _ _ | apply Blw.alloc | apply Blw.drew | apply Blw.drewN | (refine Blw.after ?_ (by assumption)) | (refine Blw.set ?_ (by first | (dsimp only; omega) | (simp; done) | (simp; omega)) _))))) rfl
  · intro u w2 hH hd K hK
    have f7 : u 7 = (encW p) := hd 7 (by kernel_rfl)
    simp only [setU, upd, List.map_cons, List.map_nil, List.contains_cons, List.contains_nil, Nat.reduceBEq, Nat.reduceAdd, Bool.or_false, Bool.false_or, Bool.or_true, Bool.true_or, Bool.false_eq_true, if_false, if_true, ite_true, ite_false, Nat.reduceEqDiff, beq_self_eq_true] at hK ⊢
    rw [f7] at hK ⊢
    clear f7
    go_wp2_with (fail)
    exact hK _ _ (by (first | ((repeat' with_reducible first | assumption | exact Below.refl _ _ | apply Blw.alloc | apply Blw.drew | apply Blw.drewN | (refine Blw.after ?_ (by assumption)) | (refine Blw.set ?_ (by first | (dsimp only; omega) | (simp; omega)) _)); done) | (repeat' (first | assumption | exact Below.refl _ _ | apply Blw.alloc | apply Blw.drew | apply Blw.drewN | (refine Blw.after ?_ (by assumption)) | (refine Blw.set ?_ (by first | (dsimp only; omega) | (simp; done) | (simp; omega)) _))))) rfl
  · intro u w2 hH hd K hK
    have f8 : u 8 = (.float .f32 p.1) := hd 8 (by kernel_rfl)
    simp only [setU, upd, List.map_cons, List.map_nil, List.contains_cons, List.contains_nil, Nat.reduceBEq, Nat.reduceAdd, Bool.or_false, Bool.false_or, Bool.or_true, Bool.true_or, Bool.false_eq_true, if_false, if_true, ite_true, ite_false, Nat.reduceEqDiff, beq_self_eq_true] at hK ⊢
    rw [f8] at hK ⊢
    clear f8
    go_wp2_with ((go_at_call 25; refine (HW.out _ hH.1 _ (by assumption)).mono ?_; rintro e w1 ⟨rfl, hb⟩))
    exact hK _ _ (by (first | ((repeat' with_reducible first | assumption | exact Below.refl _ _ | apply Blw.alloc | apply Blw.drew | apply Blw.drewN | (refine Blw.after ?_ (by assumption)) | (refine Blw.set ?_ (by first | (dsimp only; omega) | (simp; omega)) _)); done) | (repeat' (first | assumption | exact Below.refl _ _ | apply Blw.alloc | apply Blw.drew | apply Blw.drewN | (refine Blw.after ?_ (by assumption)) | (refine Blw.set ?_ (by first | (dsimp only; omega) | (simp; done) | (simp; omega)) _))))) rfl
  · intro u w2 hH hd K hK
    simp only [setU, upd, List.map_cons, List.map_nil, List.contains_cons, List.contains_nil, Nat.reduceBEq, Nat.reduceAdd, Bool.or_false, Bool.false_or, Bool.or_true, Bool.true_or, Bool.false_eq_true, if_false, if_true, ite_true, ite_false, Nat.reduceEqDiff, beq_self_eq_true] at hK ⊢
    go_wp2_with (fail)
    exact hK _ _ (by (first | ((repeat' with_reducible first | assumption | exact Below.refl _ _ | apply Blw.alloc | apply Blw.drew | apply Blw.drewN | (refine Blw.after ?_ (by assumption)) | (refine Blw.set ?_ (by first | (dsimp only; omega) | (simp; omega)) _)); done) | (repeat' (first | assumption | exact Below.refl _ _ | apply Blw.alloc | apply Blw.drew | apply Blw.drewN | (refine Blw.after ?_ (by assumption)) | (refine Blw.set ?_ (by first | (dsimp only; omega) | (simp; done) | (simp; omega)) _))))) rfl
  · intro u w2 hH hd K hK
    have f10 : u 10 = (.pointer (some ⟨w.heap.size, 1, none⟩)) := hd 10 (by kernel_rfl)
    simp only [setU, upd, List.map_cons, List.map_nil, List.contains_cons, List.contains_nil, Nat.reduceBEq, Nat.reduceAdd, Bool.or_false, Bool.false_or, Bool.or_true, Bool.true_or, Bool.false_eq_true, if_false, if_true, ite_true, ite_false, Nat.reduceEqDiff, beq_self_eq_true] at hK ⊢
    rw [f10] at hK ⊢
    clear f10
    go_wp2_with (fail)
    exact hK _ _ (by (first | ((repeat' with_reducible first | assumption | exact Below.refl _ _ | apply Blw.alloc | apply Blw.drew | apply Blw.drewN | (refine Blw.after ?_ (by assumption)) | (refine Blw.set ?_ (by first | (dsimp only; omega) | (simp; omega)) _)); done) | (repeat' (first | assumption | exact Below.refl _ _ | apply Blw.alloc | apply Blw.drew | apply Blw.drewN | (refine Blw.after ?_ (by assumption)) | (refine Blw.set ?_ (by first | (dsimp only; omega) | (simp; done) | (simp; omega)) _))))) rfl
  · intro u w2 hH hd K hK
    have f11 : u 11 = (encW p) := hd 11 (by kernel_rfl)
    simp only [setU, upd, List.map_cons, List.map_nil, List.contains_cons, List.contains_nil, Nat.reduceBEq, Nat.reduceAdd, Bool.or_false, Bool.false_or, Bool.or_true, Bool.true_or, Bool.false_eq_true, if_false, if_true, ite_true, ite_false, Nat.reduceEqDiff, beq_self_eq_true] at hK ⊢
    rw [f11] at hK ⊢
    clear f11
    go_wp2_with (fail)
    exact hK _ _ (by (first | ((repeat' with_reducible first | assumption | exact Below.refl _ _ | apply Blw.alloc | apply Blw.drew | apply Blw.drewN | (refine Blw.after ?_ (by assumption)) | (refine Blw.set ?_ (by first | (dsimp only; omega) | (simp; omega)) _)); done) | (repeat' (first | assumption | exact Below.refl _ _ | apply Blw.alloc | apply Blw.drew | apply Blw.drewN | (refine Blw.after ?_ (by assumption)) | (refine Blw.set ?_ (by first | (dsimp only; omega) | (simp; done) | (simp; omega)) _))))) rfl
  · intro u w2 hH hd K hK
    have f12 : u 12 = (.float .f32 p.2) := hd 12 (by kernel_rfl)
    simp only [setU, upd, List.map_cons, List.map_nil, List.contains_cons, List.contains_nil, Nat.reduceBEq, Nat.reduceAdd, Bool.or_false, Bool.false_or, Bool.or_true, Bool.true_or, Bool.false_eq_true, if_false, if_true, ite_true, ite_false, Nat.reduceEqDiff, beq_self_eq_true] at hK ⊢
    rw [f12] at hK ⊢
    clear f12
    go_wp2_with ((go_at_call 25; refine (HW.out _ hH.1 _ (by assumption)).mono ?_; rintro e w1 ⟨rfl, hb⟩))
    exact hK _ _ (by (first | ((repeat' with_reducible first | assumption | exact Below.refl _ _ | apply Blw.alloc | apply Blw.drew | apply Blw.drewN | (refine Blw.after ?_ (by assumption)) | (refine Blw.set ?_ (by first | (dsimp only; omega) | (simp; omega)) _)); done) | (repeat' (first | assumption | exact Below.refl _ _ | apply Blw.alloc | apply Blw.drew | apply Blw.drewN | (refine Blw.after ?_ (by assumption)) | (refine Blw.set ?_ (by first | (dsimp only; omega) | (simp; done) | (simp; omega)) _))))) rfl
  · intro u w2 hH hd K hK
    simp only [setU, upd, List.map_cons, List.map_nil, List.contains_cons, List.contains_nil, Nat.reduceBEq, Nat.reduceAdd, Bool.or_false, Bool.false_or, Bool.or_true, Bool.true_or, Bool.false_eq_true, if_false, if_true, ite_true, ite_false, Nat.reduceEqDiff, beq_self_eq_true] at hK ⊢
    go_wp2_with (fail)
    exact hK _ _ (by (first | ((repeat' with_reducible first | assumption | exact Below.refl _ _ | apply Blw.alloc | apply Blw.drew | apply Blw.drewN | (refine Blw.after ?_ (by assumption)) | (refine Blw.set ?_ (by first | (dsimp only; omega) | (simp; omega)) _)); done) | (repeat' (first | assumption | exact Below.refl _ _ | apply Blw.alloc | apply Blw.drew | apply Blw.drewN | (refine Blw.after ?_ (by assumption)) | (refine Blw.set ?_ (by first | (dsimp only; omega) | (simp; done) | (simp; omega)) _))))) rfl
  · intro u w2 hH hd K hK
    have f14 : u 14 = (.pointer (some ⟨w.heap.size, 2, none⟩)) := hd 14 (by kernel_rfl)
    simp only [setU, upd, List.map_cons, List.map_nil, List.contains_cons, List.contains_nil, Nat.reduceBEq, Nat.reduceAdd, Bool.or_false, Bool.false_or, Bool.or_true, Bool.true_or, Bool.false_eq_true, if_false, if_true, ite_true, ite_false, Nat.reduceEqDiff, beq_self_eq_true] at hK ⊢
    rw [f14] at hK ⊢
    clear f14
    go_wp2_with (fail)
    exact hK _ _ (by (first | ((repeat' with_reducible first | assumption | exact Below.refl _ _ | apply Blw.alloc | apply Blw.drew | apply Blw.drewN | (refine Blw.after ?_ (by assumption)) | (refine Blw.set ?_ (by first | (dsimp only; omega) | (simp; omega)) _)); done) | (repeat' (first | assumption | exact Below.refl _ _ | apply Blw.alloc | apply Blw.drew | apply Blw.drewN | (refine Blw.after ?_ (by assumption)) | (refine Blw.set ?_ (by first | (dsimp only; omega) | (simp; done) | (simp; omega)) _))))) rfl
  · intro u w2 hH hd K hK
    have f15 : u 15 = (.int .u32 (n : Nat)) := hd 15 (by kernel_rfl)
    simp only [setU, upd, List.map_cons, List.map_nil, List.contains_cons, List.contains_nil, Nat.reduceBEq, Nat.reduceAdd, Bool.or_false, Bool.false_or, Bool.or_true, Bool.true_or, Bool.false_eq_true, if_false, if_true, ite_true, ite_false, Nat.reduceEqDiff, beq_self_eq_true] at hK ⊢
    rw [f15] at hK ⊢
    clear f15
    go_wp2_with ((go_at_call 26; refine (HE.out _ hH.1).mono ?_; rintro e w1 ⟨rfl, hb⟩))
    exact hK _ _ (by (first | ((repeat' with_reducible first | assumption | exact Below.refl _ _ | apply Blw.alloc | apply Blw.drew | apply Blw.drewN | (refine Blw.after ?_ (by assumption)) | (refine Blw.set ?_ (by first | (dsimp only; omega) | (simp; omega)) _)); done) | (repeat' (first | assumption | exact Below.refl _ _ | apply Blw.alloc | apply Blw.drew | apply Blw.drewN | (refine Blw.after ?_ (by assumption)) | (refine Blw.set ?_ (by first | (dsimp only; omega) | (simp; done) | (simp; omega)) _))))) rfl
  intro u w2 hH hF hne
  have hH1 := hH.1
  have hH2 := hH.2.2.2
  simp only [allFacts, SlotFact.h] at hF
  obtain ⟨f4, f5, f6, f7, f8, f9, f10, f11, f12, f13, f14, f15, f16, -⟩ := hF
  simp only [setU, upd, List.map_cons, List.map_nil, List.contains_cons, List.contains_nil, Nat.reduceBEq, Nat.reduceAdd, Bool.or_false, Bool.false_or, Bool.or_true, Bool.true_or, Bool.false_eq_true, if_false, if_true, ite_true, ite_false, Nat.reduceEqDiff, beq_self_eq_true]
  rw [f4, f5, f6, f7, f8, f9, f10, f11, f12, f13, f14, f15, f16]
  clear f4 f5 f6 f7 f8 f9 f10 f11 f12 f13 f14 f15 f16 hne
  refine wpListS_true ?_
  have hb2 : Below w.heap.size w w2 := Blw.after HB0.out hH1
  go_wp2_with fail
  generalize hW : World.alloc _ _ = W3
  have hb3 : Below w.heap.size w W3 := by rw [← hW]; (first | ((repeat' with_reducible first | assumption | exact Below.refl _ _ | apply Blw.alloc | apply Blw.drew | apply Blw.drewN | (refine Blw.after ?_ (by assumption)) | (refine Blw.set ?_ (by first | (dsimp only; omega) | (simp; omega)) _)); done) | (repeat' (first | assumption | exact Below.refl _ _ | apply Blw.alloc | apply Blw.drew | apply Blw.drewN | (refine Blw.after ?_ (by assumption)) | (refine Blw.set ?_ (by first | (dsimp only; omega) | (simp; done) | (simp; omega)) _))))
  have k0 : W3.cell? ⟨w2.heap.size, 0, none⟩ = some (.string s) := by rw [← hW]; clear hW; go_simp
  have k1 : W3.cell? ⟨w2.heap.size, 1, none⟩ = some (.string (bs (hl 7 p.1))) := by rw [← hW]; clear hW; go_simp
  have k2 : W3.cell? ⟨w2.heap.size, 2, none⟩ = some (.string (bs (hl 7 p.2))) := by rw [← hW]; clear hW; go_simp
  have k3 : W3.cell? ⟨w2.heap.size, 3, none⟩ = some (.string (bs (hl 7 n))) := by rw [← hW]; clear hW; go_simp
  have HB3 := Lib.hid hb3
  have HJ3 := Lib.hid (HJ.out _ W3 (World.block_lt_of_cell? _ _ k0) k0 k1 k2 k3)
  clear hW hb3 k0 k1 k2 k3 HJ
  refine HJ3.out.mono ?_
  rintro e W4 ⟨rfl, hb4⟩
  have HB4 := Lib.hid (Blw.after HB3.out hb4)
  clear hb4 HJ3
  go_wp2_with fail
  go_ret
  exact ⟨rfl, HB4.out⟩
end Go.Proofs.YtmdnfamjdogogaaGreatDoor

namespace Go.Proofs.YtmdnfamjdogogaaGreatDoor
set_option linter.unusedSimpArgs false
set_option linter.unusedVariables false
open Go.RowKit Ieee

def EnOk (v : Value) : Prop := ∃ (s : ByteArray) (p : Nat × Nat) (n : Nat), v = encE s p n ∧ s.size ≤ 5 ∧ Nn2 p ∧ n < 4294967296
theorem wrap_succ (n : Nat) : IntKind.u32.wrap ((n : Int) + 1) = (((n + 1) % 4294967296 : Nat) : Int) := by
  rw [IntKind.wrap_u32']; omega
set_option maxRecDepth 100000 in
set_option maxHeartbeats 8000000 in
theorem l92Entry_c (rb : Nat) (sv : Value) (p : Int) (w : World) (hs : Src sv rb w) (h : Rd rb sv p w) (hp : 0 ≤ p ∧ p ≤ 500) :
    Calls Tryz.prog 9 #[.pointer (some ⟨rb, 0, none⟩)] w (Drawn EnOk 120 rb sv p w) := by
  have hrb : rb < w.heap.size := World.block_lt_of_cell? w _ h.1
  have fst := fun W a x y m => run_store Tryz.prog W a (.complex .f32 x y) m rfl
  go_enter Tryz.func9, Tryz.ntmps9
  go_wp2_with fail
  generalize hW : World.alloc _ _ = W0
  have N0 := Lib.hid (show BxE w.heap.size ⟨#[]⟩ (0, 0) 0 W0 by rw [← hW]; exact BxE.new _ _ _ _ _)
  have m0 : Moved rb w W0 := by rw [← hW]; exact (Moved.refl rb w).alloc _
  have h0 : Rd rb sv p W0 := by rw [← hW]; exact h.keep ((Below.refl _ _).alloc (Nat.le_refl _) _)
  clear hW
  go_wp2_with fail
  refine (l92Word_s rb sv p 4 W0 (hs.moved m0) h0 ⟨by omega, by omega⟩ (by omega)).mono ?_
  rintro e W1 ⟨v', p1, ⟨t, rfl, ht⟩, rfl, q0, q1, h1, hs1, m1⟩
  have N1 := Lib.hid (N0.out.moved m1 (by omega))
  have M1 := m0.trans m1
  clear h h0 m0 m1 N0
  go_wp2_with fail
  refine (l92Start_c rb sv p1 W1 hs1 h1 ⟨by omega, by omega⟩).mono ?_
  rintro e W2 ⟨v, p2, ⟨st, rfl, hst⟩, rfl, r0, r1, h2, hs2, m2⟩
  have N2 := Lib.hid (N1.out.moved m2 (by omega))
  have M2 := M1.trans m2
  clear h1 hs1 m2 M1 N1
  go_wp2_with fail
  refine (sEntryMake_c t st W2 hst.w).mono ?_
  rintro e W3 ⟨rfl, hb3⟩
  have N3 := Lib.hid (N2.out.keep hb3)
  have M3 := Lib.hid (M2.below hb3)
  have H3 := Lib.hid (h2.keep hb3)
  have S3 := Lib.hid (hs2.keep hb3)
  have z3 := M3.out.1
  have zb : w.heap.size < W3.heap.size := N3.out.1
  have HST := Lib.hid hst
  clear N2 M2 h2 hs2 hb3 hst
  have fin : ∀ (w' : World) (q : Nat × Nat) (n : Nat) (p' : Int), Nn2 q → n < 4294967296 → p ≤ p' → p' ≤ p + 120 → Rd rb sv p' w' → Moved rb w w' → Drawn EnOk 120 rb sv p w (.returned (encE t q n)) w' :=
    fun w' q n p' a1 a2 a3 a4 a5 a6 => ⟨_, p', ⟨t, q, n, rfl, by omega, a1, a2⟩, rfl, a3, a4, a5, hs.moved a6, a6⟩
  have FIN := Lib.hid fin
  clear fin hs
  rcases Bool.eq_false_or_eq_true (okE t st) with hok | hok
  · rw [emV_t hok]
    have hn := sumN_lt (ptsE t st)
    generalize sumN (ptsE t st) = n at *
    clear hok
    go_upto_region 3 with fail
    generalize hW : World.alloc _ _ = W4
    have hB4 : Below W3.heap.size W3 W4 := by rw [← hW]; (first | ((repeat' with_reducible first | assumption | exact Below.refl _ _ | apply Blw.alloc | apply Blw.drew | apply Blw.drewN | (refine Blw.after ?_ (by assumption)) | (refine Blw.set ?_ (by first | (dsimp only; omega) | (simp; omega)) _)); done) | (repeat' (first | assumption | exact Below.refl _ _ | apply Blw.alloc | apply Blw.drew | apply Blw.drewN | (refine Blw.after ?_ (by assumption)) | (refine Blw.set ?_ (by first | (dsimp only; omega) | (simp; done) | (simp; omega)) _))))
    have E4 : BxE W3.heap.size t st n W4 := by rw [← hW]; exact BxE.new _ _ _ _ _
    clear hW
    have N4 := Lib.hid (N3.out.keep hB4)
    have M4 := Lib.hid (M3.out.below hB4)
    have H4 := Lib.hid (H3.out.keep hB4)
    have S4 := Lib.hid (S3.out.keep hB4)
    have E4 := Lib.hid E4
    clear hB4 N3 M3 H3 S3
    go_wp2_with fail
    refine (pick_d rb sv p2 10 W4 S4.out H4.out ⟨by omega, by omega⟩ ⟨by omega, by omega⟩).mono ?_
    rintro e W5 ⟨v, p3, ⟨k, rfl, k0, k1⟩, rfl, s0, s1, h5, -, m5⟩
    obtain ⟨na, nb, nc, nd, ne, nf, ng⟩ := N4.out.moved m5 (by omega)
    obtain ⟨ea, eb, ec, ed, ee, ef, eg⟩ := E4.out.moved m5 (by omega)
    have M5 := M4.out.trans m5
    clear N4 M4 H4 S4 E4 m5
    by_cases e0 : k = 0
    · subst e0
      have f1 := wrap_succ n
      generalize hm : (n + 1) % 4294967296 = n' at *
      have hn' : n' < 4294967296 := by omega
      clear hm
      go_wp2_with fail
      exact bodyPost_ret (v := encE t st n') (by simp [results, Tryz.results9, go_sem, *]) rfl (FIN.out _ st n' p3 HST.out hn' (by omega) (by omega) (by repeat (first | assumption | refine Rd.set ?_ (by dsimp only; omega) _)) (by repeat (first | assumption | refine Moved.set ?_ (by dsimp only; omega) hrb _)))
    by_cases e1 : k = 1
    · subst e1
      have f1 := fun w t => run_wadd (P := Tryz.prog) w t HST.out (z := (1, 0)) (by unfold Sm; decide)
      rw [enc10] at f1
      have hq := aW_nn HST.out (z := (1, 0)) (by unfold Sm; decide)
      generalize aW st (1, 0) = st' at *
      have HQ := Lib.hid hq
      clear hq
      go_wp2_with fail
      exact bodyPost_ret (v := encE t st' n) (by simp [results, Tryz.results9, go_sem, *]) rfl (FIN.out _ st' n p3 HQ.out hn (by omega) (by omega) (by repeat (first | assumption | refine Rd.set ?_ (by dsimp only; omega) _)) (by repeat (first | assumption | refine Moved.set ?_ (by dsimp only; omega) hrb _)))
    · have x0 : (k == 0) = false := by simp [e0]
      have x1 : (k == 1) = false := by simp [e1]
      clear e0 e1
      go_wp2_with fail
      exact bodyPost_ret (v := encE t st n) (by simp [results, Tryz.results9, go_sem, *]) rfl (FIN.out _ st n p3 HST.out hn (by omega) (by omega) (by repeat (first | assumption | refine Rd.set ?_ (by dsimp only; omega) _)) (by repeat (first | assumption | refine Moved.set ?_ (by dsimp only; omega) hrb _)))
  · rw [emV_f hok]
    clear hok
    go_upto_region 3 with fail
    generalize hW : World.alloc _ _ = W4
    have hB4 : Below W3.heap.size W3 W4 := by rw [← hW]; (first | ((repeat' with_reducible first | assumption | exact Below.refl _ _ | apply Blw.alloc | apply Blw.drew | apply Blw.drewN | (refine Blw.after ?_ (by assumption)) | (refine Blw.set ?_ (by first | (dsimp only; omega) | (simp; omega)) _)); done) | (repeat' (first | assumption | exact Below.refl _ _ | apply Blw.alloc | apply Blw.drew | apply Blw.drewN | (refine Blw.after ?_ (by assumption)) | (refine Blw.set ?_ (by first | (dsimp only; omega) | (simp; done) | (simp; omega)) _))))
    clear hW
    obtain ⟨na, nb, nc, nd, ne, nf, ng⟩ := N3.out.keep hB4
    have M4 := M3.out.below hB4
    have H4 := H3.out.keep hB4
    clear hB4 N3 M3 H3 S3
    go_wp2_with fail
    exact bodyPost_ret (v := encE t (1065353216, 0) 7) (by simp [results, Tryz.results9, go_sem, *]) rfl (FIN.out _ (1065353216, 0) 7 p2 ⟨nn_lit.2.2.2.2, nn_lit.1⟩ (by omega) (by omega) (by omega) (by repeat (first | assumption | refine Rd.set ?_ (by dsimp only; omega) _)) (by repeat (first | assumption | refine Moved.set ?_ (by dsimp only; omega) hrb _)))
end Go.Proofs.YtmdnfamjdogogaaGreatDoor

namespace Go.Proofs.YtmdnfamjdogogaaGreatDoor
set_option linter.unusedSimpArgs false
set_option linter.unusedVariables false
open Go.RowKit Ieee

theorem BxE.set {b g o : Nat} {s : ByteArray} {p : Nat × Nat} {n : Nat} {w : World} (h : BxE b s p n w) (hne : b ≠ g) (v : Value) : BxE b s p n (w.setCell ⟨g, o, none⟩ v) := by
  obtain ⟨h0, h1, h2, h3, h4, h5, h6⟩ := h
  have hb : (w.setCell ⟨g, o, none⟩ v).heap[b]? = w.heap[b]? := Below.heap_setCell _ _ _ _ hne
  exact ⟨by simpa [World.setCell] using h0, (World.cell?_of_block (w := w) (a := ⟨b, 0, none⟩) hb).trans h1, (World.cell?_of_block (w := w) (a := ⟨b, 1, none⟩) hb).trans h2, (World.cell?_of_block (w := w) (a := ⟨b, 2, none⟩) hb).trans h3,
    (World.frozen?_of_block (w := w) (a := ⟨b, 0, none⟩) hb).trans h4, (World.frozen?_of_block (w := w) (a := ⟨b, 1, none⟩) hb).trans h5, (World.frozen?_of_block (w := w) (a := ⟨b, 2, none⟩) hb).trans h6⟩
/-- an entry stored whole in its box -/
theorem BxE.put {b : Nat} {s s' : ByteArray} {p p' : Nat × Nat} {n n' : Nat} {w : World} (h : BxE b s p n w) : BxE b s' p' n' (((w.setCell ⟨b, 0, none⟩ (.string s')).setCell ⟨b, 1, none⟩ (encW p')).setCell ⟨b, 2, none⟩ (.int .u32 (n' : Nat))) := by
  obtain ⟨h0, h1, h2, h3, h4, h5, h6⟩ := h
  exact ⟨by simpa [World.setCell] using h0, by go_simp, by go_simp, by go_simp, by go_simp, by go_simp, by go_simp⟩
def EnIn (s : ByteArray) (p : Nat × Nat) (n : Nat) : Prop := s.size ≤ 5 ∧ Nn2 p ∧ n < 4294967296
def TwoE (w : World) (e : Ending) (w' : World) : Prop :=
  ∃ (s : ByteArray) (p : Nat × Nat) (n : Nat) (s' : ByteArray) (p' : Nat × Nat) (n' : Nat), e = .returned (.tuple #[encE s p n, encE s' p' n']) ∧ EnIn s p n ∧ EnIn s' p' n' ∧ Below w.heap.size w w'
end Go.Proofs.YtmdnfamjdogogaaGreatDoor

namespace Go.Proofs.YtmdnfamjdogogaaGreatDoor
set_option linter.unusedSimpArgs false
set_option linter.unusedVariables false
open Go.RowKit Ieee

def etV (s : ByteArray) (p : Nat × Nat) (n : Nat) : Value := if rtE s p n then .tuple #[.string (txB s p n), .bool true] else .tuple #[.string ⟨#[]⟩, .bool false]
theorem etV_t {s : ByteArray} {p : Nat × Nat} {n : Nat} (h : rtE s p n = true) : etV s p n = .tuple #[.string (txB s p n), .bool true] := by unfold etV; rw [h]; rfl
theorem etV_f {s : ByteArray} {p : Nat × Nat} {n : Nat} (h : rtE s p n = false) : etV s p n = .tuple #[.string ⟨#[]⟩, .bool false] := by unfold etV; rw [h]; rfl
set_option maxRecDepth 100000 in
set_option maxHeartbeats 4000000 in
theorem iEntryText_c (s : ByteArray) (p : Nat × Nat) (n : Nat) (w : World) (hs : s.size ≤ 2000000) (hp : W32 p) (hn : n < 4294967296) (hG : Gl w) : Calls Tryz.prog 5 #[encE s p n] w fun e w' => e = .returned (etV s p n) ∧ Below w.heap.size w w' := by
  have HG := Lib.hid hG
  clear hG
  go_enter Tryz.func5, Tryz.ntmps5
  go_wp2_with fail
  generalize hW : World.alloc _ _ = W0
  have N0 := Lib.hid (show BxE w.heap.size s p n W0 by rw [← hW]; exact BxE.new _ _ _ _ _)
  have hB0 : Below w.heap.size w W0 := by rw [← hW]; (first | ((repeat' with_reducible first | assumption | exact Below.refl _ _ | apply Blw.alloc | apply Blw.drew | apply Blw.drewN | (refine Blw.after ?_ (by assumption)) | (refine Blw.set ?_ (by first | (dsimp only; omega) | (simp; omega)) _)); done) | (repeat' (first | assumption | exact Below.refl _ _ | apply Blw.alloc | apply Blw.drew | apply Blw.drewN | (refine Blw.after ?_ (by assumption)) | (refine Blw.set ?_ (by first | (dsimp only; omega) | (simp; done) | (simp; omega)) _))))
  have HG0 := Lib.hid (HG.out.keep hB0)
  have HB0 := Lib.hid hB0
  clear hW hB0 HG
  obtain ⟨z0, d0, d1, d2, _⟩ := N0.out
  go_wp2_with fail
  refine (iEntryRight_c s p n W0 hp HG0.out.1).mono ?_
  rintro e W1 ⟨rfl, hb1⟩
  have N1 := Lib.hid (N0.out.keep hb1)
  have HG1 := Lib.hid (HG0.out.keep hb1)
  have HB1 := Lib.hid (Blw.after HB0.out hb1)
  clear d0 d1 d2 z0 hb1 N0 HG0 HB0
  rcases Bool.eq_false_or_eq_true (rtE s p n) with hr | hr
  · have HV := Lib.hid (etV_t hr)
    rw [hr]
    clear hr
    obtain ⟨z0, d0, d1, d2, _⟩ := N1.out
    go_wp2_with fail
    refine (textOf_c s p n W1 hs hp hn HG1.out).mono ?_
    rintro e W2 ⟨rfl, hb2⟩
    have HB2 := Lib.hid (Blw.after HB1.out hb2)
    clear hb2 d0 d1 d2 z0
    generalize txB s p n = T at *
    go_wp2_with fail
    go_ret2
    exact ⟨by rw [HV.out]; rfl, HB2.out⟩
  · have HV := Lib.hid (etV_f hr)
    rw [hr]
    clear hr
    go_wp2_with fail
    go_ret2
    exact ⟨by rw [HV.out]; rfl, HB1.out⟩

/-! ### reading -/
def rdW : Option En → Value
  | some (a, x, y, n) => .tuple #[encE (bs a) (x, y) n, .bool true]
  | none => .tuple #[encE ⟨#[]⟩ (0, 0) 0, .bool false]
def rdV (l : List UInt8) : Value := rdW (rdO l)
theorem rdV_t {l a : List UInt8} {x y n : Nat} (h : rdO l = some (a, x, y, n)) : rdV l = .tuple #[encE (bs a) (x, y) n, .bool true] := by unfold rdV; rw [h]; rfl
theorem rdV_f {l : List UInt8} (h : rdO l = none) : rdV l = .tuple #[encE ⟨#[]⟩ (0, 0) 0, .bool false] := by unfold rdV; rw [h]; rfl
theorem split_data (s : ByteArray) (k : Nat) : (Lib.splitB ⟨#[32]⟩ 0 k s).map toL = Lib.splitK [32] 0 k (toL s) := Lib.splitB_data ⟨#[32]⟩ 0 k s
theorem splitK_short : ∀ (k : Nat) (l : List UInt8), (Lib.splitK [32] 0 k l).length ≤ l.length + 1
  | 0, _ => by show 1 ≤ _; omega
  | k + 1, l => by
    rcases sp_cases l with h | ⟨a, r, rfl, h⟩
    · rw [splitK_no h]; simp
    · rw [splitK_hit h, List.length_cons, List.length_append, List.length_cons]; have := splitK_short k r; omega
theorem split_few {s : ByteArray} (h : (Lib.splitK [32] 0 3 (toL s)).length < 4) : (Lib.splitB ⟨#[32]⟩ 0 (min 4 (s.size + 1) - 1) s).length < 4 := by
  rw [← List.length_map (f := toL), split_data]
  by_cases h3 : 3 ≤ s.size
  · rw [show min 4 (s.size + 1) - 1 = 3 by omega]; exact h
  · have := splitK_len (min 4 (s.size + 1) - 1) (toL s)
    omega
theorem split_four {s : ByteArray} {a b c d : List UInt8} (h : Lib.splitK [32] 0 3 (toL s) = [a, b, c, d]) : Lib.splitB ⟨#[32]⟩ 0 (min 4 (s.size + 1) - 1) s = [bs a, bs b, bs c, bs d] ∧ min 4 (s.size + 1) = 4 := by
  have h3 : 3 ≤ s.size := by
    have := splitK_short 3 (toL s)
    rw [h, toL_len] at this
    simp only [List.length_cons, List.length_nil] at this
    omega
  have e : min 4 (s.size + 1) - 1 = 3 := by omega
  refine ⟨?_, by omega⟩
  rw [e]
  have h1 := split_data s 3
  rw [h] at h1
  match hL : Lib.splitB ⟨#[32]⟩ 0 3 s, h1 with
  | [A, B, C, D], h1 =>
    simp only [List.map_cons, List.map_nil, List.cons.injEq, and_true] at h1
    obtain ⟨rfl, rfl, rfl, rfl⟩ := h1
    rw [bs_toL, bs_toL, bs_toL, bs_toL]
def emE (s : ByteArray) (p : Nat × Nat) : Value := if okE s p then encE s p (sumN (ptsE s p)) else encE ⟨#[]⟩ (0, 0) 0
theorem emV_eq (s : ByteArray) (p : Nat × Nat) : emV s p = .tuple #[emE s p, .bool (okE s p)] := by
  unfold emV emE
  cases okE s p <;> rfl
set_option maxRecDepth 100000 in
set_option maxHeartbeats 16000000 in
theorem iEntryRead_c (s : ByteArray) (w : World) (hs : s.size ≤ 2000000) (hG : Gl w) : Calls Tryz.prog 7 #[.string s] w fun e w' => e = .returned (rdV (toL s)) ∧ Below w.heap.size w w' := by
  have fst := fun W a x y m => run_store Tryz.prog W a (.complex .f32 x y) m rfl
  have HG := Lib.hid hG
  clear hG
  go_enter Tryz.func7, Tryz.ntmps7
  go_wp2_with fail
  generalize hW : World.alloc _ _ = W0
  have N0 := Lib.hid (show BxE w.heap.size ⟨#[]⟩ (0, 0) 0 W0 by rw [← hW]; exact BxE.new _ _ _ _ _)
  have hB0 : Below w.heap.size w W0 := by rw [← hW]; (first | ((repeat' with_reducible first | assumption | exact Below.refl _ _ | apply Blw.alloc | apply Blw.drew | apply Blw.drewN | (refine Blw.after ?_ (by assumption)) | (refine Blw.set ?_ (by first | (dsimp only; omega) | (simp; omega)) _)); done) | (repeat' (first | assumption | exact Below.refl _ _ | apply Blw.alloc | apply Blw.drew | apply Blw.drewN | (refine Blw.after ?_ (by assumption)) | (refine Blw.set ?_ (by first | (dsimp only; omega) | (simp; done) | (simp; omega)) _))))
  have HG0 := Lib.hid (HG.out.keep hB0)
  have HB0 := Lib.hid hB0
  clear hW hB0 HG
  obtain ⟨m, hm⟩ := HG0.out.2.1
  go_wp2_with fail
  refine (Tryz.strings_SplitN s ⟨#[32]⟩ 4 m W0 (by omega) hm (by decide) (by omega) (by omega)).mono ?_
  rintro e W1 ⟨rfl, hw1⟩
  rcases four_cases (toL s) with ⟨h1, h2⟩ | ⟨a, b, c, d, h1, hl, n1, n2, n3, hc⟩
  · have hlen := split_few h1
    have HV := Lib.hid (rdV_f (rd_few h2))
    have hb1 : Below W0.heap.size W0 W1 := by rw [hw1]; exact (Below.refl _ _).alloc (Nat.le_refl _) _
    have N1 := Lib.hid (N0.out.keep hb1)
    have HB1 := Lib.hid (Blw.after HB0.out hb1)
    clear hw1 hb1 h1 h2 hm N0 HG0
    generalize (Lib.splitB ⟨#[32]⟩ 0 (min 4 (s.size + 1) - 1) s).length = q at *
    obtain ⟨z0, d0, d1, d2, f0, f1, f2⟩ := N1.out
    have hB : Below w.heap.size w W1 := HB1.out
    go_wp2_with fail
    exact bodyPost_ret (v := .tuple #[encE ⟨#[]⟩ (0, 0) 0, .bool false]) (by simp [results, Tryz.results7, go_sem, *]) rfl ⟨by rw [HV.out], by (first | ((repeat' with_reducible first | assumption | exact Below.refl _ _ | apply Blw.alloc | apply Blw.drew | apply Blw.drewN | (refine Blw.after ?_ (by assumption)) | (refine Blw.set ?_ (by first | (dsimp only; omega) | (simp; omega)) _)); done) | (repeat' (first | assumption | exact Below.refl _ _ | apply Blw.alloc | apply Blw.drew | apply Blw.drewN | (refine Blw.after ?_ (by assumption)) | (refine Blw.set ?_ (by first | (dsimp only; omega) | (simp; done) | (simp; omega)) _))))⟩
  · obtain ⟨hL, hmin⟩ := split_four h1
    rw [hmin] at hw1 ⊢
    rw [show min 4 (s.size + 1) - 1 = 4 - 1 by rw [hmin]] at hL
    rw [hL] at hw1 ⊢
    have hcl : Lib.cellsOf [bs a, bs b, bs c, bs d] 4 = #[.string (bs a), .string (bs b), .string (bs c), .string (bs d)] := Lib.cellsOf_full [bs a, bs b, bs c, bs d]
    rw [hcl] at hw1
    have hb1 : Below W0.heap.size W0 W1 := by rw [hw1]; exact (Below.refl _ _).alloc (Nat.le_refl _) _
    have k0 : W1.cell? ⟨W0.heap.size, 0, none⟩ = some (.string (bs a)) := by rw [hw1]; clear hw1; go_simp
    have k1 : W1.cell? ⟨W0.heap.size, 1, none⟩ = some (.string (bs b)) := by rw [hw1]; clear hw1; go_simp
    have k2 : W1.cell? ⟨W0.heap.size, 2, none⟩ = some (.string (bs c)) := by rw [hw1]; clear hw1; go_simp
    have zk : W0.heap.size < W1.heap.size := World.block_lt_of_cell? _ _ k0
    have N1 := Lib.hid (N0.out.keep hb1)
    have HG1 := Lib.hid (HG0.out.keep hb1)
    have HB1 := Lib.hid (Blw.after HB0.out hb1)
    have hsz : (bs a).size ≤ 2000000 ∧ (bs b).size ≤ 2000000 ∧ (bs c).size ≤ 2000000 := by
      have e := congrArg List.length hl
      simp only [List.length_append, List.length_cons, toL_len] at e
      rw [hbs_sz, hbs_sz, hbs_sz]
      omega
    obtain ⟨s1, s2, s3⟩ := hsz
    have hx := numF_lt b
    have hy := numF_lt c
    have fx := fun h => numF_ok (l := b) h
    have fy := fun h => numF_ok (l := c) h
    have HNB := Lib.hid (fun (W : World) (hW : Below W1.heap.size W1 W) => numberOf_c (bs b) W s2 (HG1.out.keep hW))
    have HNC := Lib.hid (fun (W : World) (hW : Below W1.heap.size W1 W) => numberOf_c (bs c) W s3 (HG1.out.keep hW))
    rw [toL_bs] at HNB HNC
    generalize numF b = x at *
    generalize numF c = y at *
    have HEM := Lib.hid (fun (W : World) (hW : Below W1.heap.size W1 W) => iEntryMake_c (bs a) (x, y) W ⟨hx, hy⟩ (HG1.out.1.keep HG1.out.1.pos hW))
    rw [emV_eq] at HEM
    have HYES := Lib.hid (fun ho ht => rdV_t (rd_yes (x := x) (y := y) hl n1 n2 n3 hx hy ho ht))
    have HNOT := Lib.hid (fun hno => rdV_f (rd_not (x := x) (y := y) hl n1 n2 n3 hc fx fy hno))
    have HTX := Lib.hid (fun (n : Nat) (hn : n < 4294967296) (W : World) (hG : Gl W) => textOf_c (bs a) (x, y) n W s1 ⟨hx, hy⟩ hn hG)
    have HEE := Lib.hid (show emE (bs a) (x, y) = if okE (bs a) (x, y) then encE (bs a) (x, y) (sumN (ptsE (bs a) (x, y))) else encE ⟨#[]⟩ (0, 0) 0 from rfl)
    have HSN := Lib.hid (sumN_lt (ptsE (bs a) (x, y)))
    clear hw1 hb1 h1 hm N0 HG0 hL hmin hcl hl n1 n2 n3 hc fx fy HB0
    generalize emE (bs a) (x, y) = E at *
    generalize okE (bs a) (x, y) = ok at *
    have HL4 := Lib.hid (show ([bs a, bs b, bs c, bs d] : List ByteArray).length = 4 from rfl)
    rw [HL4.out]
    go_upto_region 4 with fail
    refine region_slots (fun _ => True) [15] [(14, .is (.slice (some ⟨W0.heap.size, 0, none⟩) 4 4)), (15, .is (.pointer (some ⟨W0.heap.size, 0, none⟩))), (16, .is (.string (bs a))), (17, .is (.slice (some ⟨W0.heap.size, 0, none⟩) 4 4)), (18, .is (.pointer (some ⟨W0.heap.size, 1, none⟩))), (19, .is (.string (bs b))), (20, .is (.float .f32 x)), (21, .is (.slice (some ⟨W0.heap.size, 0, none⟩) 4 4)), (22, .is (.pointer (some ⟨W0.heap.size, 2, none⟩))), (23, .is (.string (bs c))), (24, .is (.float .f32 y)), (25, .is (.complex .f32 x y)), (26, .is (.tuple #[E, .bool ok])), (13, .is (.tuple #[E, .bool ok])), (27, .is E), (28, .is (.bool ok)), (5, .own [.string ⟨#[]⟩, .complex .f32 0 0, .int .u32 0])] (by kernel_rfl) (by kernel_rfl) (by kernel_rfl) (fun _ _ => trivial) (fun _ _ _ _ _ _ h => h) ?_
    simp only [Steps, List.contains_cons, List.contains_nil, Nat.reduceBEq, Nat.reduceAdd, Bool.or_false, Bool.false_or, Bool.or_true, Bool.true_or, Bool.false_eq_true, if_false, if_true]
    refine ⟨?_, ?_, ?_, ?_, ?_, ?_, ?_, ?_, ?_, ?_, ?_, ?_, ?_, ?_, ?_, ?_, ?_, ?_⟩
    · intro u w2 hH hd K hK
      simp only [setU, upd, List.map_cons, List.map_nil, List.contains_cons, List.contains_nil, Nat.reduceBEq, Nat.reduceAdd, Bool.or_false, Bool.false_or, Bool.or_true, Bool.true_or, Bool.false_eq_true, if_false, if_true, ite_true, ite_false, Nat.reduceEqDiff, beq_self_eq_true] at hK ⊢
      go_wp2_with (fail)
      exact hK _ _ (by (first | ((repeat' with_reducible first | assumption | exact Below.refl _ _ | apply Blw.alloc | apply Blw.drew | apply Blw.drewN | (refine Blw.after ?_ (by assumption)) | (refine Blw.set ?_ (by first | (dsimp only; omega) | (simp; omega)) _)); done) | (repeat' (first | assumption | exact Below.refl _ _ | apply Blw.alloc | apply Blw.drew | apply Blw.drewN | (refine Blw.after ?_ (by assumption)) | (refine Blw.set ?_ (by first | (dsimp only; omega) | (simp; done) | (simp; omega)) _))))) rfl
    · intro u w2 hH hd K hK
      have f14 : u 14 = (.slice (some ⟨W0.heap.size, 0, none⟩) 4 4) := hd 14 (by kernel_rfl)
      simp only [setU, upd, List.map_cons, List.map_nil, List.contains_cons, List.contains_nil, Nat.reduceBEq, Nat.reduceAdd, Bool.or_false, Bool.false_or, Bool.or_true, Bool.true_or, Bool.false_eq_true, if_false, if_true, ite_true, ite_false, Nat.reduceEqDiff, beq_self_eq_true] at hK ⊢
      rw [f14] at hK ⊢
      clear f14
      go_wp2_with (fail)
      exact hK _ _ (by (first | ((repeat' with_reducible first | assumption | exact Below.refl _ _ | apply Blw.alloc | apply Blw.drew | apply Blw.drewN | (refine Blw.after ?_ (by assumption)) | (refine Blw.set ?_ (by first | (dsimp only; omega) | (simp; omega)) _)); done) | (repeat' (first | assumption | exact Below.refl _ _ | apply Blw.alloc | apply Blw.drew | apply Blw.drewN | (refine Blw.after ?_ (by assumption)) | (refine Blw.set ?_ (by first | (dsimp only; omega) | (simp; done) | (simp; omega)) _))))) rfl
    · intro u w2 hH hd K hK
      have f15 : u 15 = (.pointer (some ⟨W0.heap.size, 0, none⟩)) := hd 15 (by kernel_rfl)
      simp only [setU, upd, List.map_cons, List.map_nil, List.contains_cons, List.contains_nil, Nat.reduceBEq, Nat.reduceAdd, Bool.or_false, Bool.false_or, Bool.or_true, Bool.true_or, Bool.false_eq_true, if_false, if_true, ite_true, ite_false, Nat.reduceEqDiff, beq_self_eq_true] at hK ⊢
      rw [f15] at hK ⊢
      clear f15
      go_wp2_with (fail)
      exact hK _ _ (by (first | ((repeat' with_reducible first | assumption | exact Below.refl _ _ | apply Blw.alloc | apply Blw.drew | apply Blw.drewN | (refine Blw.after ?_ (by assumption)) | (refine Blw.set ?_ (by first | (dsimp only; omega) | (simp; omega)) _)); done) | (repeat' (first | assumption | exact Below.refl _ _ | apply Blw.alloc | apply Blw.drew | apply Blw.drewN | (refine Blw.after ?_ (by assumption)) | (refine Blw.set ?_ (by first | (dsimp only; omega) | (simp; done) | (simp; omega)) _))))) rfl
    · intro u w2 hH hd K hK
      simp only [setU, upd, List.map_cons, List.map_nil, List.contains_cons, List.contains_nil, Nat.reduceBEq, Nat.reduceAdd, Bool.or_false, Bool.false_or, Bool.or_true, Bool.true_or, Bool.false_eq_true, if_false, if_true, ite_true, ite_false, Nat.reduceEqDiff, beq_self_eq_true] at hK ⊢
      go_wp2_with (fail)
      exact hK _ _ (by (first | ((repeat' with_reducible first | assumption | exact Below.refl _ _ | apply Blw.alloc | apply Blw.drew | apply Blw.drewN | (refine Blw.after ?_ (by assumption)) | (refine Blw.set ?_ (by first | (dsimp only; omega) | (simp; omega)) _)); done) | (repeat' (first | assumption | exact Below.refl _ _ | apply Blw.alloc | apply Blw.drew | apply Blw.drewN | (refine Blw.after ?_ (by assumption)) | (refine Blw.set ?_ (by first | (dsimp only; omega) | (simp; done) | (simp; omega)) _))))) rfl
    · intro u w2 hH hd K hK
      have f17 : u 17 = (.slice (some ⟨W0.heap.size, 0, none⟩) 4 4) := hd 17 (by kernel_rfl)
      simp only [setU, upd, List.map_cons, List.map_nil, List.contains_cons, List.contains_nil, Nat.reduceBEq, Nat.reduceAdd, Bool.or_false, Bool.false_or, Bool.or_true, Bool.true_or, Bool.false_eq_true, if_false, if_true, ite_true, ite_false, Nat.reduceEqDiff, beq_self_eq_true] at hK ⊢
      rw [f17] at hK ⊢
      clear f17
      go_wp2_with (fail)
      exact hK _ _ (by (first | ((repeat' with_reducible first | assumption | exact Below.refl _ _ | apply Blw.alloc | apply Blw.drew | apply Blw.drewN | (refine Blw.after ?_ (by assumption)) | (refine Blw.set ?_ (by first | (dsimp only; omega) | (simp; omega)) _)); done) | (repeat' (first | assumption | exact Below.refl _ _ | apply Blw.alloc | apply Blw.drew | apply Blw.drewN | (refine Blw.after ?_ (by assumption)) | (refine Blw.set ?_ (by first | (dsimp only; omega) | (simp; done) | (simp; omega)) _))))) rfl
    · intro u w2 hH hd K hK
      have f18 : u 18 = (.pointer (some ⟨W0.heap.size, 1, none⟩)) := hd 18 (by kernel_rfl)
      simp only [setU, upd, List.map_cons, List.map_nil, List.contains_cons, List.contains_nil, Nat.reduceBEq, Nat.reduceAdd, Bool.or_false, Bool.false_or, Bool.or_true, Bool.true_or, Bool.false_eq_true, if_false, if_true, ite_true, ite_false, Nat.reduceEqDiff, beq_self_eq_true] at hK ⊢
      rw [f18] at hK ⊢
      clear f18
      go_wp2_with (fail)
      exact hK _ _ (by (first | ((repeat' with_reducible first | assumption | exact Below.refl _ _ | apply Blw.alloc | apply Blw.drew | apply Blw.drewN | (refine Blw.after ?_ (by assumption)) | (refine Blw.set ?_ (by first | (dsimp only; omega) | (simp; omega)) _)); done) | (repeat' (first | assumption | exact Below.refl _ _ | apply Blw.alloc | apply Blw.drew | apply Blw.drewN | (refine Blw.after ?_ (by assumption)) | (refine Blw.set ?_ (by first | (dsimp only; omega) | (simp; done) | (simp; omega)) _))))) rfl
    · intro u w2 hH hd K hK
      have f19 : u 19 = (.string (bs b)) := hd 19 (by kernel_rfl)
      simp only [setU, upd, List.map_cons, List.map_nil, List.contains_cons, List.contains_nil, Nat.reduceBEq, Nat.reduceAdd, Bool.or_false, Bool.false_or, Bool.or_true, Bool.true_or, Bool.false_eq_true, if_false, if_true, ite_true, ite_false, Nat.reduceEqDiff, beq_self_eq_true] at hK ⊢
      rw [f19] at hK ⊢
      clear f19
      go_wp2_with ((go_at_call 18; refine (HNB.out _ hH.1).mono ?_; rintro e w1 ⟨rfl, hb⟩))
      exact hK _ _ (by (first | ((repeat' with_reducible first | assumption | exact Below.refl _ _ | apply Blw.alloc | apply Blw.drew | apply Blw.drewN | (refine Blw.after ?_ (by assumption)) | (refine Blw.set ?_ (by first | (dsimp only; omega) | (simp; omega)) _)); done) | (repeat' (first | assumption | exact Below.refl _ _ | apply Blw.alloc | apply Blw.drew | apply Blw.drewN | (refine Blw.after ?_ (by assumption)) | (refine Blw.set ?_ (by first | (dsimp only; omega) | (simp; done) | (simp; omega)) _))))) rfl
    · intro u w2 hH hd K hK
      simp only [setU, upd, List.map_cons, List.map_nil, List.contains_cons, List.contains_nil, Nat.reduceBEq, Nat.reduceAdd, Bool.or_false, Bool.false_or, Bool.or_true, Bool.true_or, Bool.false_eq_true, if_false, if_true, ite_true, ite_false, Nat.reduceEqDiff, beq_self_eq_true] at hK ⊢
      go_wp2_with (fail)
      exact hK _ _ (by (first | ((repeat' with_reducible first | assumption | exact Below.refl _ _ | apply Blw.alloc | apply Blw.drew | apply Blw.drewN | (refine Blw.after ?_ (by assumption)) | (refine Blw.set ?_ (by first | (dsimp only; omega) | (simp; omega)) _)); done) | (repeat' (first | assumption | exact Below.refl _ _ | apply Blw.alloc | apply Blw.drew | apply Blw.drewN | (refine Blw.after ?_ (by assumption)) | (refine Blw.set ?_ (by first | (dsimp only; omega) | (simp; done) | (simp; omega)) _))))) rfl
    · intro u w2 hH hd K hK
      have f21 : u 21 = (.slice (some ⟨W0.heap.size, 0, none⟩) 4 4) := hd 21 (by kernel_rfl)
      simp only [setU, upd, List.map_cons, List.map_nil, List.contains_cons, List.contains_nil, Nat.reduceBEq, Nat.reduceAdd, Bool.or_false, Bool.false_or, Bool.or_true, Bool.true_or, Bool.false_eq_true, if_false, if_true, ite_true, ite_false, Nat.reduceEqDiff, beq_self_eq_true] at hK ⊢
      rw [f21] at hK ⊢
      clear f21
      go_wp2_with (fail)
      exact hK _ _ (by (first | ((repeat' with_reducible first | assumption | exact Below.refl _ _ | apply Blw.alloc | apply Blw.drew | apply Blw.drewN | (refine Blw.after ?_ (by assumption)) | (refine Blw.set ?_ (by first | (dsimp only; omega) | (simp; omega)) _)); done) | (repeat' (first | assumption | exact Below.refl _ _ | apply Blw.alloc | apply Blw.drew | apply Blw.drewN | (refine Blw.after ?_ (by assumption)) | (refine Blw.set ?_ (by first | (dsimp only; omega) | (simp; done) | (simp; omega)) _))))) rfl
    · intro u w2 hH hd K hK
      have f22 : u 22 = (.pointer (some ⟨W0.heap.size, 2, none⟩)) := hd 22 (by kernel_rfl)
      simp only [setU, upd, List.map_cons, List.map_nil, List.contains_cons, List.contains_nil, Nat.reduceBEq, Nat.reduceAdd, Bool.or_false, Bool.false_or, Bool.or_true, Bool.true_or, Bool.false_eq_true, if_false, if_true, ite_true, ite_false, Nat.reduceEqDiff, beq_self_eq_true] at hK ⊢
      rw [f22] at hK ⊢
      clear f22
      go_wp2_with (fail)
      exact hK _ _ (by (first | ((repeat' with_reducible first | assumption | exact Below.refl _ _ | apply Blw.alloc | apply Blw.drew | apply Blw.drewN | (refine Blw.after ?_ (by assumption)) | (refine Blw.set ?_ (by first | (dsimp only; omega) | (simp; omega)) _)); done) | (repeat' (first | assumption | exact Below.refl _ _ | apply Blw.alloc | apply Blw.drew | apply Blw.drewN | (refine Blw.after ?_ (by assumption)) | (refine Blw.set ?_ (by first | (dsimp only; omega) | (simp; done) | (simp; omega)) _))))) rfl
    · intro u w2 hH hd K hK
      have f23 : u 23 = (.string (bs c)) := hd 23 (by kernel_rfl)
      simp only [setU, upd, List.map_cons, List.map_nil, List.contains_cons, List.contains_nil, Nat.reduceBEq, Nat.reduceAdd, Bool.or_false, Bool.false_or, Bool.or_true, Bool.true_or, Bool.false_eq_true, if_false, if_true, ite_true, ite_false, Nat.reduceEqDiff, beq_self_eq_true] at hK ⊢
      rw [f23] at hK ⊢
      clear f23
      go_wp2_with ((go_at_call 18; refine (HNC.out _ hH.1).mono ?_; rintro e w1 ⟨rfl, hb⟩))
      exact hK _ _ (by (first | ((repeat' with_reducible first | assumption | exact Below.refl _ _ | apply Blw.alloc | apply Blw.drew | apply Blw.drewN | (refine Blw.after ?_ (by assumption)) | (refine Blw.set ?_ (by first | (dsimp only; omega) | (simp; omega)) _)); done) | (repeat' (first | assumption | exact Below.refl _ _ | apply Blw.alloc | apply Blw.drew | apply Blw.drewN | (refine Blw.after ?_ (by assumption)) | (refine Blw.set ?_ (by first | (dsimp only; omega) | (simp; done) | (simp; omega)) _))))) rfl
    · intro u w2 hH hd K hK
      have f20 : u 20 = (.float .f32 x) := hd 20 (by kernel_rfl)
      have f24 : u 24 = (.float .f32 y) := hd 24 (by kernel_rfl)
      simp only [setU, upd, List.map_cons, List.map_nil, List.contains_cons, List.contains_nil, Nat.reduceBEq, Nat.reduceAdd, Bool.or_false, Bool.false_or, Bool.or_true, Bool.true_or, Bool.false_eq_true, if_false, if_true, ite_true, ite_false, Nat.reduceEqDiff, beq_self_eq_true] at hK ⊢
      rw [f20, f24] at hK ⊢
      clear f20 f24
      go_wp2_with (fail)
      exact hK _ _ (by (first | ((repeat' with_reducible first | assumption | exact Below.refl _ _ | apply Blw.alloc | apply Blw.drew | apply Blw.drewN | (refine Blw.after ?_ (by assumption)) | (refine Blw.set ?_ (by first | (dsimp only; omega) | (simp; omega)) _)); done) | (repeat' (first | assumption | exact Below.refl _ _ | apply Blw.alloc | apply Blw.drew | apply Blw.drewN | (refine Blw.after ?_ (by assumption)) | (refine Blw.set ?_ (by first | (dsimp only; omega) | (simp; done) | (simp; omega)) _))))) rfl
    · intro u w2 hH hd K hK
      have f16 : u 16 = (.string (bs a)) := hd 16 (by kernel_rfl)
      have f25 : u 25 = (.complex .f32 x y) := hd 25 (by kernel_rfl)
      simp only [setU, upd, List.map_cons, List.map_nil, List.contains_cons, List.contains_nil, Nat.reduceBEq, Nat.reduceAdd, Bool.or_false, Bool.false_or, Bool.or_true, Bool.true_or, Bool.false_eq_true, if_false, if_true, ite_true, ite_false, Nat.reduceEqDiff, beq_self_eq_true] at hK ⊢
      rw [f16, f25] at hK ⊢
      clear f16 f25
      go_wp2_with ((go_at_call 17; refine (HEM.out _ hH.1).mono ?_; rintro e w1 ⟨rfl, hb⟩))
      exact hK _ _ (by (first | ((repeat' with_reducible first | assumption | exact Below.refl _ _ | apply Blw.alloc | apply Blw.drew | apply Blw.drewN | (refine Blw.after ?_ (by assumption)) | (refine Blw.set ?_ (by first | (dsimp only; omega) | (simp; omega)) _)); done) | (repeat' (first | assumption | exact Below.refl _ _ | apply Blw.alloc | apply Blw.drew | apply Blw.drewN | (refine Blw.after ?_ (by assumption)) | (refine Blw.set ?_ (by first | (dsimp only; omega) | (simp; done) | (simp; omega)) _))))) rfl
    · intro u w2 hH hd K hK
      have f26 : u 26 = (.tuple #[E, .bool ok]) := hd 26 (by kernel_rfl)
      simp only [setU, upd, List.map_cons, List.map_nil, List.contains_cons, List.contains_nil, Nat.reduceBEq, Nat.reduceAdd, Bool.or_false, Bool.false_or, Bool.or_true, Bool.true_or, Bool.false_eq_true, if_false, if_true, ite_true, ite_false, Nat.reduceEqDiff, beq_self_eq_true] at hK ⊢
      rw [f26] at hK ⊢
      clear f26
      go_wp2_with (fail)
      exact hK _ _ (by (first | ((repeat' with_reducible first | assumption | exact Below.refl _ _ | apply Blw.alloc | apply Blw.drew | apply Blw.drewN | (refine Blw.after ?_ (by assumption)) | (refine Blw.set ?_ (by first | (dsimp only; omega) | (simp; omega)) _)); done) | (repeat' (first | assumption | exact Below.refl _ _ | apply Blw.alloc | apply Blw.drew | apply Blw.drewN | (refine Blw.after ?_ (by assumption)) | (refine Blw.set ?_ (by first | (dsimp only; omega) | (simp; done) | (simp; omega)) _))))) rfl
    · intro u w2 hH hd K hK
      have f13 : u 13 = (.tuple #[E, .bool ok]) := hd 13 (by kernel_rfl)
      simp only [setU, upd, List.map_cons, List.map_nil, List.contains_cons, List.contains_nil, Nat.reduceBEq, Nat.reduceAdd, Bool.or_false, Bool.false_or, Bool.or_true, Bool.true_or, Bool.false_eq_true, if_false, if_true, ite_true, ite_false, Nat.reduceEqDiff, beq_self_eq_true] at hK ⊢
      rw [f13] at hK ⊢
      clear f13
      go_wp2_with (fail)
      exact hK _ _ (by (first | ((repeat' with_reducible first | assumption | exact Below.refl _ _ | apply Blw.alloc | apply Blw.drew | apply Blw.drewN | (refine Blw.after ?_ (by assumption)) | (refine Blw.set ?_ (by first | (dsimp only; omega) | (simp; omega)) _)); done) | (repeat' (first | assumption | exact Below.refl _ _ | apply Blw.alloc | apply Blw.drew | apply Blw.drewN | (refine Blw.after ?_ (by assumption)) | (refine Blw.set ?_ (by first | (dsimp only; omega) | (simp; done) | (simp; omega)) _))))) rfl
    · intro u w2 hH hd
      have f13 : u 13 = (.tuple #[E, .bool ok]) := hd 13 (by kernel_rfl)
      simp only [setU, upd, List.map_cons, List.map_nil, List.contains_cons, List.contains_nil, Nat.reduceBEq, Nat.reduceAdd, Bool.or_false, Bool.false_or, Bool.or_true, Bool.true_or, Bool.false_eq_true, if_false, if_true, ite_true, ite_false, Nat.reduceEqDiff, beq_self_eq_true]
      rw [f13]
      clear f13
      refine ⟨(.bool ok), fun w hS => ?_, by first | rfl | trivial, by first | rfl | trivial, by first | rfl | trivial⟩
      first | (go_simp; done) | (go_simp; exact IntWalk.i64_in _ (by omega))
    · intro u w2 hH hd K hK
      simp only [setU, upd, List.map_cons, List.map_nil, List.contains_cons, List.contains_nil, Nat.reduceBEq, Nat.reduceAdd, Bool.or_false, Bool.false_or, Bool.or_true, Bool.true_or, Bool.false_eq_true, if_false, if_true, ite_true, ite_false, Nat.reduceEqDiff, beq_self_eq_true] at hK ⊢
      go_wp2_with (fail)
      exact hK _ _ (by (first | ((repeat' with_reducible first | assumption | exact Below.refl _ _ | apply Blw.alloc | apply Blw.drew | apply Blw.drewN | (refine Blw.after ?_ (by assumption)) | (refine Blw.set ?_ (by first | (dsimp only; omega) | (simp; omega)) _)); done) | (repeat' (first | assumption | exact Below.refl _ _ | apply Blw.alloc | apply Blw.drew | apply Blw.drewN | (refine Blw.after ?_ (by assumption)) | (refine Blw.set ?_ (by first | (dsimp only; omega) | (simp; done) | (simp; omega)) _))))) (OwnP.new _ _ _)
    intro u w2 hH hF hne
    have hH1 := hH.1
    have hH2 := hH.2.2.2
    simp only [allFacts, SlotFact.h] at hF
    obtain ⟨f14, f15, f16, f17, f18, f19, f20, f21, f22, f23, f24, f25, f26, f13, f27, f28, ⟨b5, f5, g5, l5, k5, z5⟩, -⟩ := hF
    simp only [setU, upd, List.map_cons, List.map_nil, List.contains_cons, List.contains_nil, Nat.reduceBEq, Nat.reduceAdd, Bool.or_false, Bool.false_or, Bool.or_true, Bool.true_or, Bool.false_eq_true, if_false, if_true, ite_true, ite_false, Nat.reduceEqDiff, beq_self_eq_true]
    rw [f14, f15, f16, f17, f18, f19, f20, f21, f22, f23, f24, f25, f26, f13, f27, f28, f5]
    clear f14 f15 f16 f17 f18 f19 f20 f21 f22 f23 f24 f25 f26 f13 f27 f28 f5 hne
    have c5_0 := k5 0 _ rfl
    have e5_0 := z5 0 (by simp)
    have c5_1 := k5 1 _ rfl
    have e5_1 := z5 1 (by simp)
    have c5_2 := k5 2 _ rfl
    have e5_2 := z5 2 (by simp)
    clear k5 z5
    refine wpListS_true ?_
    have hb2 : Below W1.heap.size W1 w2 := hH1
    have M2 : BxE b5 ⟨#[]⟩ (0, 0) 0 w2 := ⟨l5, c5_0, c5_1, c5_2, e5_0, e5_1, e5_2⟩
    have N2 := N1.out.keep hb2
    have hne5 : w.heap.size ≠ b5 := by have := N1.out.1; omega
    have hg5 : w.heap.size ≤ b5 := by have := N1.out.1; omega
    have hw15 : W1.heap.size ≤ b5 := by omega
    have ee := HEE.out
    clear hH hH1 hH2 k0 k1 k2 HNB HNC HEM
    rcases Bool.eq_false_or_eq_true ok with hok | hok
    · have hyes := fun (ht : txt a x y (sumN (ptsE (bs a) (x, y))) = toL s) => HYES.out hok ht
      have hnot := fun (ht : ¬ txt a x y (sumN (ptsE (bs a) (x, y))) = toL s) => HNOT.out (fun h => ht h.2)
      rw [if_pos hok] at ee
      subst hok
      have hn := HSN.out
      generalize sumN (ptsE (bs a) (x, y)) = n at *
      subst ee
      have M3 := Lib.hid (BxE.put (s' := bs a) (p' := (x, y)) (n' := n) M2)
      have N3 := Lib.hid (((N2.set (o := 0) hne5 (.string (bs a))).set (o := 1) hne5 (encW (x, y))).set (o := 2) hne5 (.int .u32 (n : Nat)))
      have B3 := Lib.hid (show Below W1.heap.size W1 (((w2.setCell ⟨b5, 0, none⟩ (.string (bs a))).setCell ⟨b5, 1, none⟩ (encW (x, y))).setCell ⟨b5, 2, none⟩ (.int .u32 (n : Nat))) from Blw.set (Blw.set (Blw.set hb2 hw15 _) hw15 _) hw15 _)
      have HYESh := Lib.hid hyes
      have HNOTh := Lib.hid hnot
      clear hyes hnot M2 N2 hb2 HYES HNOT
      go_upto_region 5 with fail
      generalize World.setCell (World.setCell (World.setCell w2 _ _) _ _) _ _ = W3 at *
      have HG3 := Lib.hid (HG1.out.keep B3.out)
      have HB3 := Lib.hid (Blw.after HB1.out B3.out)
      clear c5_0 c5_1 c5_2 e5_0 e5_1 e5_2 B3 HG1 HB1 N1
      obtain ⟨mz, m0, m1, m2, _⟩ := M3.out
      go_wp2_with fail
      refine (HTX.out n hn W3 HG3.out).mono ?_
      rintro e W4 ⟨rfl, hb4⟩
      have N4 := Lib.hid (N3.out.keep hb4)
      have M4 := Lib.hid (M3.out.keep hb4)
      have HB4 := Lib.hid (Blw.after HB3.out hb4)
      clear mz m0 m1 m2 hb4 N3 M3 HG3 HB3 HTX
      have hT : txB (bs a) (x, y) n = bs (txt a x y n) := by unfold txB; rw [toL_bs]
      rw [hT]
      clear hT
      by_cases ht : txt a x y n = toL s
      · have HV := Lib.hid (HYESh.out ht)
        rw [ht, bs_toL]
        clear ht HYESh HNOTh
        obtain ⟨z0, d0, d1, d2, f0, f1, f2⟩ := N4.out
        obtain ⟨mz, m0, m1, m2, _⟩ := M4.out
        have hB : Below w.heap.size w W4 := HB4.out
        go_wp2_with fail
        exact bodyPost_ret (v := .tuple #[encE (bs a) (x, y) n, .bool true]) (by simp [results, Tryz.results7, go_sem, *]) rfl ⟨by rw [HV.out], by (first | ((repeat' with_reducible first | assumption | exact Below.refl _ _ | apply Blw.alloc | apply Blw.drew | apply Blw.drewN | (refine Blw.after ?_ (by assumption)) | (refine Blw.set ?_ (by first | (dsimp only; omega) | (simp; omega)) _)); done) | (repeat' (first | assumption | exact Below.refl _ _ | apply Blw.alloc | apply Blw.drew | apply Blw.drewN | (refine Blw.after ?_ (by assumption)) | (refine Blw.set ?_ (by first | (dsimp only; omega) | (simp; done) | (simp; omega)) _))))⟩
      · have HV := Lib.hid (HNOTh.out ht)
        have hne : ((bs (txt a x y n)).toList == s.toList) = false := by
          rw [toList_toL, toList_toL, toL_bs]; exact beq_eq_false_iff_ne.2 ht
        clear ht HYESh HNOTh
        generalize bs (txt a x y n) = T at *
        obtain ⟨z0, d0, d1, d2, f0, f1, f2⟩ := N4.out
        obtain ⟨mz, m0, m1, m2, _⟩ := M4.out
        have hB : Below w.heap.size w W4 := HB4.out
        go_wp2_with fail
        exact bodyPost_ret (v := .tuple #[encE ⟨#[]⟩ (0, 0) 0, .bool false]) (by simp [results, Tryz.results7, go_sem, *]) rfl ⟨by rw [HV.out], by (first | ((repeat' with_reducible first | assumption | exact Below.refl _ _ | apply Blw.alloc | apply Blw.drew | apply Blw.drewN | (refine Blw.after ?_ (by assumption)) | (refine Blw.set ?_ (by first | (dsimp only; omega) | (simp; omega)) _)); done) | (repeat' (first | assumption | exact Below.refl _ _ | apply Blw.alloc | apply Blw.drew | apply Blw.drewN | (refine Blw.after ?_ (by assumption)) | (refine Blw.set ?_ (by first | (dsimp only; omega) | (simp; done) | (simp; omega)) _))))⟩
    · have HV := Lib.hid (HNOT.out (fun h => by rw [hok] at h; cases h.1))
      rw [if_neg (by rw [hok]; decide)] at ee
      subst hok
      subst ee
      have N3 := Lib.hid (((N2.set (o := 0) hne5 (.string ⟨#[]⟩)).set (o := 1) hne5 (encW (0, 0))).set (o := 2) hne5 (.int .u32 ((0 : Nat) : Int)))
      have B3 := Lib.hid (show Below W1.heap.size W1 (((w2.setCell ⟨b5, 0, none⟩ (.string ⟨#[]⟩)).setCell ⟨b5, 1, none⟩ (encW (0, 0))).setCell ⟨b5, 2, none⟩ (.int .u32 ((0 : Nat) : Int))) from Blw.set (Blw.set (Blw.set hb2 hw15 _) hw15 _) hw15 _)
      clear M2 N2 hb2 HYES HNOT HTX HG1
      go_upto_region 5 with fail
      generalize World.setCell (World.setCell (World.setCell w2 _ _) _ _) _ _ = W3 at *
      have HB3 := Lib.hid (Blw.after HB1.out B3.out)
      clear c5_0 c5_1 c5_2 e5_0 e5_1 e5_2 B3 HB1 N1
      obtain ⟨z0, d0, d1, d2, f0, f1, f2⟩ := N3.out
      have hB : Below w.heap.size w W3 := HB3.out
      go_wp2_with fail
      exact bodyPost_ret (v := .tuple #[encE ⟨#[]⟩ (0, 0) 0, .bool false]) (by simp [results, Tryz.results7, go_sem, *]) rfl ⟨by rw [HV.out], by (first | ((repeat' with_reducible first | assumption | exact Below.refl _ _ | apply Blw.alloc | apply Blw.drew | apply Blw.drewN | (refine Blw.after ?_ (by assumption)) | (refine Blw.set ?_ (by first | (dsimp only; omega) | (simp; omega)) _)); done) | (repeat' (first | assumption | exact Below.refl _ _ | apply Blw.alloc | apply Blw.drew | apply Blw.drewN | (refine Blw.after ?_ (by assumption)) | (refine Blw.set ?_ (by first | (dsimp only; omega) | (simp; done) | (simp; omega)) _))))⟩
end Go.Proofs.YtmdnfamjdogogaaGreatDoor

namespace Go.Proofs.YtmdnfamjdogogaaGreatDoor
set_option linter.unusedSimpArgs false
set_option linter.unusedVariables false
open Go.RowKit Ieee

theorem infoS : (Tryz.prog.info? 9).map (fun i => (i.zero, i.size, i.bytes)) = some (some (.string ⟨#[]⟩), 1, 16) := by kernel_rfl
/-- a slice of strings that reads as the list -/
def SSl (a : Option Addr) (l : List (List UInt8)) (w : World) : Prop := l = [] ∨ ∃ g, a = some ⟨g, 0, none⟩ ∧ ∀ (k : Nat) (x : List UInt8), l[k]? = some x → w.cell? ⟨g, k, none⟩ = some (.string (bs x))
def strZ (l : List (List UInt8)) : List Value := l.map fun x => Value.string (bs x)
def PaRelZ (s : ByteArray) (w : World) (m : Nat) (v f i : Value) (wr : World) : Prop :=
  ∃ (k from' : Nat) (out : List (List UInt8)), k + m = s.size + 1 ∧ i = .int .i64 k ∧ f = .int .i64 from' ∧ from' ≤ k ∧ out.length ≤ k ∧ wr.ownsRow w.heap.size 9 1 v out.length (strZ out) ∧ Below w.heap.size w wr ∧
    Hid ((k ≤ s.size → cuts (toL s) = out ++ cuts ((toL s).drop from') ∧ NoSp (((toL s).drop from').take (k - from')) ∧ from' ≤ s.size) ∧ (k = s.size + 1 → cuts (toL s) = out))
theorem ex_toL (s : ByteArray) (i j : Nat) : s.extract i j = bs (((toL s).drop i).take (j - i)) := by
  apply toL_ext
  rw [toL_bs, show s = bs (toL s) from (bs_toL s).symm]
  show toL ((ByteArray.mk (toL s).toArray).extract i j) = _
  rw [ByteArray.extract_mk]
  simp [toL, bs]
theorem noSp_snoc {l : List UInt8} {c : UInt8} (h : NoSp l) (hc : c ≠ 32) : NoSp (l ++ [c]) := by
  intro d hd
  rcases List.mem_append.1 hd with hd | hd
  · exact h d hd
  · rw [List.mem_singleton] at hd; rw [hd]; exact hc
theorem drop_hit {l : List UInt8} {f k : Nat} (hf : f ≤ k) (hk : k < l.length) (h32 : l[k] = 32) : l.drop f = (l.drop f).take (k - f) ++ 32 :: l.drop (k + 1) := by
  have e : (l.drop f).drop (k - f) = 32 :: l.drop (k + 1) := by
    rw [List.drop_drop, show f + (k - f) = k by omega, List.drop_eq_getElem_cons hk, h32]
  rw [← e, List.take_append_drop]
theorem take_one {l : List UInt8} {f k : Nat} (hf : f ≤ k) (hk : k < l.length) : (l.drop f).take (k + 1 - f) = (l.drop f).take (k - f) ++ [l[k]] := by
  rw [show k + 1 - f = (k - f) + 1 by omega, List.take_add_one, List.getElem?_drop, show f + (k - f) = k by omega, List.getElem?_eq_getElem hk]; rfl
/-! ### digits -/
def rdX (l : List UInt8) : Value := .tuple #[.int .u32 (if okX l then vX l else 0 : Nat), .bool (okX l)]
def HxD : ByteArray := ⟨#[48, 49, 50, 51, 52, 53, 54, 55, 56, 57, 97, 98, 99, 100, 101, 102]⟩
theorem hxD_at {d : Nat} (h : d < 16) (h' : d < HxD.size) : HxD[d] = hexc d := by
  have key : ∀ i : Fin 16, HxD[i.1]'(Nat.lt_of_lt_of_le i.2 (by decide)) = hexc i.1 := by decide +kernel
  exact key ⟨d, h⟩
def RdRel (s : ByteArray) (w : World) (m : Nat) (n i : Value) (wr : World) : Prop :=
  ∃ (j a : Nat), j + m = 8 ∧ i = .int .i64 j ∧ n = .int .u32 (a : Nat) ∧ a < 4294967296 ∧ Below w.heap.size w wr ∧ Hid (a = vX ((toL s).take j) ∧ ∀ c ∈ (toL s).take j, hexd c < 16)
def ReRel (w : World) (j : Nat) (c : UInt8) (m : Nat) (k : Value) (wr : World) : Prop :=
  ∃ q : Nat, q + m = 16 ∧ k = .int .i64 q ∧ Below w.heap.size w wr ∧ Hid (∀ d, d < q → hexc d ≠ c)
end Go.Proofs.YtmdnfamjdogogaaGreatDoor

namespace Go.Proofs.YtmdnfamjdogogaaGreatDoor
set_option linter.unusedSimpArgs false
set_option linter.unusedVariables false
open Go.RowKit Ieee

theorem txt_sum (s : ByteArray) (x y n : Nat) : s ++ ⟨#[32]⟩ ++ bs (hl 7 x) ++ ⟨#[32]⟩ ++ bs (hl 7 y) ++ ⟨#[32]⟩ ++ bs (hl 7 n) = bs (txt (toL s) x y n) := by
  have e : s = bs (toL s) := (bs_toL s).symm
  conv => lhs; rw [e]
  rw [show (⟨#[32]⟩ : ByteArray) = bs [32] from rfl]
  simp only [hbs_cat]
  congr 1
  unfold txt
  simp
set_option maxRecDepth 100000 in
set_option maxHeartbeats 8000000 in
theorem sEntryText_c (s : ByteArray) (p : Nat × Nat) (n : Nat) (w : World) (hs : s.size ≤ 2000000) (hp : W32 p) (hn : n < 4294967296) : Calls Tryz.prog 6 #[encE s p n] w fun e w' => e = .returned (etV s p n) ∧ Below w.heap.size w w' := by
  go_enter Tryz.func6, Tryz.ntmps6
  go_wp2_with fail
  generalize hW : World.alloc _ _ = W0
  have N0 := Lib.hid (show BxE w.heap.size s p n W0 by rw [← hW]; exact BxE.new _ _ _ _ _)
  have HB0 := Lib.hid (show Below w.heap.size w W0 by rw [← hW]; (first | ((repeat' with_reducible first | assumption | exact Below.refl _ _ | apply Blw.alloc | apply Blw.drew | apply Blw.drewN | (refine Blw.after ?_ (by assumption)) | (refine Blw.set ?_ (by first | (dsimp only; omega) | (simp; omega)) _)); done) | (repeat' (first | assumption | exact Below.refl _ _ | apply Blw.alloc | apply Blw.drew | apply Blw.drewN | (refine Blw.after ?_ (by assumption)) | (refine Blw.set ?_ (by first | (dsimp only; omega) | (simp; done) | (simp; omega)) _)))))
  clear hW
  obtain ⟨z0, d0, d1, d2, _⟩ := N0.out
  go_wp2_with fail
  refine (sEntryRight_c s p n W0 hp).mono ?_
  rintro e W1 ⟨rfl, hb1⟩
  have N1 := Lib.hid (N0.out.keep hb1)
  have HB1 := Lib.hid (Blw.after HB0.out hb1)
  clear d0 d1 d2 z0 hb1 N0 HB0
  rcases Bool.eq_false_or_eq_true (rtE s p n) with hr | hr
  · have HV := Lib.hid (etV_t hr)
    have HT := Lib.hid (txt_sum s p.1 p.2 n)
    have HTX := Lib.hid (show txB s p n = bs (txt (toL s) p.1 p.2 n) from rfl)
    rw [hr]
    clear hr
    obtain ⟨z0, d0, d1, d2, _⟩ := N1.out
    obtain ⟨hp1, hp2⟩ := hp
    have HW := Lib.hid (fun (W : World) x (hx : x < 4294967296) => sWordBits_c x W hx)
    have HL := Lib.hid (fun (W : World) => l7Hex_c n W hn)
    have zx : (bs (hl 7 p.1)).size = 8 := by rw [hbs_sz, hl_len]
    have zy : (bs (hl 7 p.2)).size = 8 := by rw [hbs_sz, hl_len]
    have zn : (bs (hl 7 n)).size = 8 := by rw [hbs_sz, hl_len]
    obtain ⟨X, hX⟩ : ∃ X, X = bs (hl 7 p.1) := ⟨_, rfl⟩
    obtain ⟨Y, hY⟩ : ∃ Y, Y = bs (hl 7 p.2) := ⟨_, rfl⟩
    obtain ⟨N, hN⟩ : ∃ N, N = bs (hl 7 n) := ⟨_, rfl⟩
    rw [← hX, ← hY, ← hN] at HT
    rw [← hX] at zx
    rw [← hY] at zy
    rw [← hN] at zn HL
    have hX' : X.size ≤ 8 := by omega
    have hY' : Y.size ≤ 8 := by omega
    have hN' : N.size ≤ 8 := by omega
    have HWX := Lib.hid (fun W => HW.out W p.1 hp1)
    have HWY := Lib.hid (fun W => HW.out W p.2 hp2)
    rw [← hX] at HWX
    rw [← hY] at HWY
    clear hX hY hN zx zy zn HW
    go_upto_region 3 with fail
    have hd : Below W1.heap.size W1 W1.drew := (Below.refl _ _).drew
    refine wp_region_held_drew (S := fun w' => BxE w.heap.size s p n w') (by kernel_rfl) (N1.out.keep hd) ?_
    intro hS0
    have HB2 := Lib.hid (Blw.after HB1.out hd)
    generalize W1.drew = V0 at *
    clear hd N1 HB1 d0 d1 d2 z0
    refine wpAnyH_take (i := 0) (v := .pointer (some ⟨w.heap.size, 0, none⟩)) rfl (by kernel_rfl) (by kernel_rfl) (by kernel_rfl) (fun _ _ _ h => h) (Or.inl ⟨by rfl, by rintro wq ⟨_, d0, d1, d2, _⟩; go_simp⟩) hS0 ?_
    refine wpAnyH_take (i := 1) (v := .string s) rfl (by kernel_rfl) (by kernel_rfl) (by kernel_rfl) (fun _ _ _ h => h) (Or.inl ⟨by rfl, by rintro wq ⟨_, d0, d1, d2, _⟩; go_simp⟩) hS0 ?_
    refine wpAnyH_take (i := 3) (v := .pointer (some ⟨w.heap.size, 1, none⟩)) rfl (by kernel_rfl) (by kernel_rfl) (by kernel_rfl) (fun _ _ _ h => h) (Or.inl ⟨by rfl, by rintro wq ⟨_, d0, d1, d2, _⟩; go_simp⟩) hS0 ?_
    refine wpAnyH_take (i := 4) (v := encW p) rfl (by kernel_rfl) (by kernel_rfl) (by kernel_rfl) (fun _ _ _ h => h) (Or.inl ⟨by rfl, by rintro wq ⟨_, d0, d1, d2, _⟩; go_simp⟩) hS0 ?_
    refine wpAnyH_take (i := 5) (v := .float .f32 p.1) rfl (by kernel_rfl) (by kernel_rfl) (by kernel_rfl) (fun _ _ _ h => h) (Or.inl ⟨by rfl, by rintro wq _; go_simp⟩) hS0 ?_
    refine wpAnyH_take (i := 9) (v := .pointer (some ⟨w.heap.size, 1, none⟩)) rfl (by kernel_rfl) (by kernel_rfl) (by kernel_rfl) (fun _ _ _ h => h) (Or.inl ⟨by rfl, by rintro wq ⟨_, d0, d1, d2, _⟩; go_simp⟩) hS0 ?_
    refine wpAnyH_take (i := 10) (v := encW p) rfl (by kernel_rfl) (by kernel_rfl) (by kernel_rfl) (fun _ _ _ h => h) (Or.inl ⟨by rfl, by rintro wq ⟨_, d0, d1, d2, _⟩; go_simp⟩) hS0 ?_
    refine wpAnyH_take (i := 11) (v := .float .f32 p.2) rfl (by kernel_rfl) (by kernel_rfl) (by kernel_rfl) (fun _ _ _ h => h) (Or.inl ⟨by rfl, by rintro wq _; go_simp⟩) hS0 ?_
    refine wpAnyH_take (i := 15) (v := .pointer (some ⟨w.heap.size, 2, none⟩)) rfl (by kernel_rfl) (by kernel_rfl) (by kernel_rfl) (fun _ _ _ h => h) (Or.inl ⟨by rfl, by rintro wq ⟨_, d0, d1, d2, _⟩; go_simp⟩) hS0 ?_
    refine wpAnyH_take (i := 16) (v := .int .u32 (n : Nat)) rfl (by kernel_rfl) (by kernel_rfl) (by kernel_rfl) (fun _ _ _ h => h) (Or.inl ⟨by rfl, by rintro wq ⟨_, d0, d1, d2, _⟩; go_simp⟩) hS0 ?_
    refine wpAnyH_take (i := 2) (v := .string (s ++ ⟨#[32]⟩)) rfl (by kernel_rfl) (by kernel_rfl) (by kernel_rfl) (fun _ _ _ h => h) (Or.inl ⟨by rfl, by rintro wq _; go_simp; first | done | omega | (simp only [ByteArray.size_append]; omega) | (intros; omega)⟩) hS0 ?_
    refine wpAnyH_ready (rs := [6]) (by kernel_rfl) (by simp) ?_
    refine AllReadyH.cons rfl (fun K hK => ?_) AllReadyH.nil
    rw [if_pos ?hw]
    case hw => kernel_rfl
    go_wp2_with fail
    refine (HWX.out _).mono ?_
    rintro e w1 ⟨rfl, rfl⟩
    refine hK.out _ _ hS0 ?_
    clear hK K
    intro _
    refine wpAnyH_take (i := 7) (v := .string (s ++ ⟨#[32]⟩ ++ X)) rfl (by kernel_rfl) (by kernel_rfl) (by kernel_rfl) (fun _ _ _ h => h) (Or.inl ⟨by rfl, by rintro wq _; go_simp; first | done | omega | (simp only [ByteArray.size_append]; omega) | (intros; omega)⟩) hS0 ?_
    refine wpAnyH_take (i := 8) (v := .string (s ++ ⟨#[32]⟩ ++ X ++ ⟨#[32]⟩)) rfl (by kernel_rfl) (by kernel_rfl) (by kernel_rfl) (fun _ _ _ h => h) (Or.inl ⟨by rfl, by rintro wq _; go_simp; first | done | omega | (simp only [ByteArray.size_append]; omega) | (intros; omega)⟩) hS0 ?_
    refine wpAnyH_ready (rs := [12]) (by kernel_rfl) (by simp) ?_
    refine AllReadyH.cons rfl (fun K hK => ?_) AllReadyH.nil
    rw [if_pos ?hw]
    case hw => kernel_rfl
    go_wp2_with fail
    refine (HWY.out _).mono ?_
    rintro e w1 ⟨rfl, rfl⟩
    refine hK.out _ _ hS0 ?_
    clear hK K
    intro _
    refine wpAnyH_take (i := 13) (v := .string (s ++ ⟨#[32]⟩ ++ X ++ ⟨#[32]⟩ ++ Y)) rfl (by kernel_rfl) (by kernel_rfl) (by kernel_rfl) (fun _ _ _ h => h) (Or.inl ⟨by rfl, by rintro wq _; go_simp; first | done | omega | (simp only [ByteArray.size_append]; omega) | (intros; omega)⟩) hS0 ?_
    refine wpAnyH_take (i := 14) (v := .string (s ++ ⟨#[32]⟩ ++ X ++ ⟨#[32]⟩ ++ Y ++ ⟨#[32]⟩)) rfl (by kernel_rfl) (by kernel_rfl) (by kernel_rfl) (fun _ _ _ h => h) (Or.inl ⟨by rfl, by rintro wq _; go_simp; first | done | omega | (simp only [ByteArray.size_append]; omega) | (intros; omega)⟩) hS0 ?_
    refine wpAnyH_ready (rs := [17]) (by kernel_rfl) (by simp) ?_
    refine AllReadyH.cons rfl (fun K hK => ?_) AllReadyH.nil
    rw [if_pos ?hw]
    case hw => kernel_rfl
    go_wp2_with fail
    refine (HL.out _).mono ?_
    rintro e w1 ⟨rfl, rfl⟩
    refine hK.out _ _ hS0 ?_
    clear hK K
    intro _
    refine wpAnyH_take (i := 18) (v := .string (s ++ ⟨#[32]⟩ ++ X ++ ⟨#[32]⟩ ++ Y ++ ⟨#[32]⟩ ++ N)) rfl (by kernel_rfl) (by kernel_rfl) (by kernel_rfl) (fun _ _ _ h => h) (Or.inl ⟨by rfl, by rintro wq _; go_simp; first | done | omega | (simp only [ByteArray.size_append]; omega) | (intros; omega)⟩) hS0 ?_
    rw [HT.out, ← HTX.out]
    generalize txB s p n = T at *
    refine wpAnyH_ready (rs := [19]) (by kernel_rfl) (by simp) ?_
    refine AllReadyH.cons rfl (fun K hK => ?_) AllReadyH.nil
    rw [if_pos ?hw]
    case hw => kernel_rfl
    go_wp2_with fail
    refine hK.out _ _ hS0 ?_
    clear hK K
    intro _
    refine wpAnyH_ready (rs := [20]) (by kernel_rfl) (by simp) ?_
    refine AllReadyH.cons rfl (fun K hK => ?_) AllReadyH.nil
    rw [if_pos ?hw]
    case hw => kernel_rfl
    go_wp2_with fail
    refine hK.out _ _ hS0 ?_
    clear hK K
    intro _
    refine wpAnyH_done (by kernel_rfl) ?_ _
    go_wp2_with fail
    go_ret2
    exact ⟨by rw [HV.out]; rfl, HB2.out⟩
  · have HV := Lib.hid (etV_f hr)
    rw [hr]
    clear hr
    go_wp2_with fail
    go_ret2
    exact ⟨by rw [HV.out]; rfl, HB1.out⟩
end Go.Proofs.YtmdnfamjdogogaaGreatDoor

namespace Go.Proofs.YtmdnfamjdogogaaGreatDoor
set_option linter.unusedSimpArgs false
set_option linter.unusedVariables false
open Go.RowKit Ieee

theorem rdV_four {l a b c d : List UInt8} (h : cuts l = [a, b, c, d]) : rdV l = rdW (if okX b = true ∧ okX c = true ∧ okX d = true ∧ rtE (bs a) (vX b, vX c) (vX d) = true then some (a, vX b, vX c, vX d) else none) := by
  unfold rdV rdO; rw [h, rdP_four]
def nX (l : List UInt8) : Nat := if okX l then vX l else 0
theorem nX_lt (l : List UInt8) : nX l < 4294967296 := by
  unfold nX
  cases h : okX l
  · simp
  · simp only [if_true]; exact vX_lt h
theorem nX_t {l : List UInt8} (h : okX l = true) : nX l = vX l := by unfold nX; rw [h]; rfl
theorem rdX_eq (l : List UInt8) : rdX l = .tuple #[.int .u32 (nX l : Nat), .bool (okX l)] := rfl
end Go.Proofs.YtmdnfamjdogogaaGreatDoor

namespace Go.Proofs.YtmdnfamjdogogaaGreatDoor
set_option linter.unusedSimpArgs false
set_option linter.unusedVariables false
open Go.RowKit

theorem convP_c {t u : TypeId} {k l : FloatKind} {a b c d : Nat} (ht : Tryz.prog.underlying t = some (.complex k)) (hu : Tryz.prog.underlying u = some (.complex l)) (h1 : floatToFloatBits k a l = some c) (h2 : floatToFloatBits k b l = some d) (w : World) :
    (convert t u (.complex k a b)).run Tryz.prog w = .ok (.complex l c d) w :=
  run_convert_complex (P := Tryz.prog) w t u k l a b c d (by rw [ht]; rfl) hu (by simp [cConvBits, h1, h2])
theorem sum_c {t : TypeId} {o : BinOp} {k : FloatKind} {a b c d r i : Nat} (ho : o = .add ∨ o = .sub) (h1 : floatBits o k a c = some r) (h2 : floatBits o k b d = some i) (w : World) :
    (binOp o t (.complex k a b) (.complex k c d)).run Tryz.prog w = .ok (.complex k r i) w :=
  run_complex_sum (P := Tryz.prog) w o ho t k a b c d r i (by simp [cSumBits, h1, h2])
theorem conv_same (k : FloatKind) (a : Nat) : floatToFloatBits k a k = some a := by simp [floatToFloatBits]
/-! ### powers -/
def pickN (b : Bool) (x : Nat) : Nat := if b then x else 0
abbrev powV (k : FloatKind) (n : Int) : Value := .tuple #[.complex k (pickN (inR 0 320 n) (pw k n.toNat).1) (pickN (inR 0 320 n) (pw k n.toNat).2), .bool (inR 0 320 n)]
theorem powV_no {k : FloatKind} {n : Int} (h : inR 0 320 n = false) : powV k n = .tuple #[.complex k 0 0, .bool false] := by unfold powV pickN; rw [h]; rfl
theorem powV_yes {k : FloatKind} {n : Int} (h : inR 0 320 n = true) : powV k n = .tuple #[.complex k (pw k n.toNat).1 (pw k n.toNat).2, .bool true] := by unfold powV pickN; rw [h]; rfl
def PwRel (k : FloatKind) (w : World) (t : Nat) (m : Nat) (z c : Value) (wr : World) : Prop := ∃ j : Nat, j + m = t ∧ wr = w ∧ c = .int .i64 j ∧ z = .complex k (pw k j).1 (pw k j).2
end Go.Proofs.YtmdnfamjdogogaaGreatDoor

namespace Go.Proofs.YtmdnfamjdogogaaGreatDoor
set_option linter.unusedSimpArgs false
set_option linter.unusedVariables false
open Go.RowKit Ieee

theorem nearest_word (f : Format) (s : Bool) (m : Nat) (p : Int) : ∃ k, f.nearest s m p = f.word s k ∧ k ≤ f.infRung := by
  unfold Format.nearest
  split
  · exact ⟨0, rfl, Nat.zero_le _⟩
  · exact ⟨_, rfl, Nat.min_le_right _ _⟩
theorem word_self (f : Format) (hb : ¬ f.infRung < f.binade) (s : Bool) {k : Nat} (h : k ≤ f.infRung) : f.order (f.word s k) (f.word s k) = some .eq := by
  unfold Format.order
  rcases Nat.lt_or_eq_of_le h with h | h
  · rw [read_word f s h]
    split <;> exact congrArg some (Int.compare_eq_eq.2 rfl)
  · subst h
    have hlt := Format.infRung_lt f
    have hpos : 0 < f.signWeight := by omega
    have e1 : (f.word s f.infRung / f.signWeight % 2 == 1) = s := by
      cases s
      · show (f.infRung / f.signWeight % 2 == 1) = false
        rw [Nat.div_eq_of_lt hlt]; rfl
      · show ((f.signWeight + f.infRung) / f.signWeight % 2 == 1) = true
        rw [Nat.add_div_left _ hpos, Nat.div_eq_of_lt hlt]; rfl
    have e2 : f.word s f.infRung % f.signWeight = f.infRung := by
      cases s
      · show f.infRung % f.signWeight = _
        exact Nat.mod_eq_of_lt hlt
      · show (f.signWeight + f.infRung) % f.signWeight = _
        rw [Nat.add_mod_left]; exact Nat.mod_eq_of_lt hlt
    have e3 : f.read (f.word s f.infRung) = .infinity s := by
      unfold Format.read
      simp only [e1, e2]
      simp [hb]
    rw [e3]
    cases s <;> rfl
theorem write_self (f : Format) (hb : ¬ f.infRung < f.binade) {d : Datum} (h : d.isNaN = false) : f.order (f.write d) (f.write d) = some .eq := by
  cases d with
  | nan s t => simp [Datum.isNaN] at h
  | infinity s => exact word_self f hb s (Nat.le_refl _)
  | number s m p =>
    obtain ⟨k, e, hk⟩ := nearest_word f s m p
    show f.order (f.nearest s m p) (f.nearest s m p) = _
    rw [e]
    exact word_self f hb s hk
theorem one_div_ok {x : Nat} (h : FloatKind.f64.format.order x x = some .eq) : ∃ r, floatBits .quo .f64 4607182418800017408 x = some r ∧ FloatKind.f64.format.order r r = some .eq := by
  have e : floatBits .quo .f64 4607182418800017408 x = ((FloatKind.f64.format.read 4607182418800017408).quotient (double.fractionBits + 2) (FloatKind.f64.format.read x)).map FloatKind.f64.format.write := rfl
  rw [e, show FloatKind.f64.format.read 4607182418800017408 = .number false 4503599627370496 (-52) by decide +kernel]
  cases hx : FloatKind.f64.format.read x with
  | nan s t => unfold Format.order at h; rw [hx] at h; simp [Datum.order] at h
  | infinity s => exact ⟨_, rfl, write_self _ (by decide +kernel) rfl⟩
  | number s m i =>
    by_cases hm : m = 0
    · subst hm; exact ⟨_, rfl, write_self _ (by decide +kernel) rfl⟩
    · simp only [Datum.quotient, if_neg hm]
      exact ⟨_, rfl, write_self _ (by decide +kernel) rfl⟩
theorem sameZero_c (x : Nat) (w : World) (h1 : FloatKind.f64.format.order x x = some .eq) : Calls Tryz.prog 54 #[.float .f64 x, .float .f64 x] w fun e w' => e = .returned (.bool true) ∧ w = w' := by
  obtain ⟨r, hr, h2⟩ := one_div_ok h1
  have hq := fun w => run_float_arith (P := Tryz.prog) w .quo 89 .f64 _ x r hr
  clear hr
  go_enter Tryz.func54, Tryz.ntmps54
  go_wp2
  go_ret
  exact ⟨by simp [*], rfl⟩
theorem sameWide_c (x y : Nat) (w : World) (h1 : FloatKind.f64.format.order x x = some .eq) (h2 : FloatKind.f64.format.order y y = some .eq) : Calls Tryz.prog 34 #[.complex .f64 x y, .complex .f64 x y] w fun e w' => e = .returned (.bool true) ∧ w = w' := by
  go_enter Tryz.func34, Tryz.ntmps34
  go_wp2_with (go_at_call 54; refine (sameZero_c _ _ (by assumption)).mono ?_; rintro e w1 ⟨rfl, rfl⟩)
  go_ret
  exact ⟨rfl, rfl⟩
theorem sameSingle_c (x y X Y : Nat) (w : World) (u1 : floatToFloatBits .f32 x .f64 = some X) (u2 : floatToFloatBits .f32 y .f64 = some Y) (h1 : FloatKind.f64.format.order X X = some .eq) (h2 : FloatKind.f64.format.order Y Y = some .eq) :
    Calls Tryz.prog 19 #[.complex .f32 x y, .complex .f32 x y] w fun e w' => e = .returned (.bool true) ∧ w = w' := by
  have f1 := convP_c Tryz.underlying23 Tryz.underlying67 u1 u2
  go_enter Tryz.func19, Tryz.ntmps19
  go_wp2_with (go_at_call 34; refine (sameWide_c _ _ _ h1 h2).mono ?_; rintro e w1 ⟨rfl, rfl⟩)
  go_ret
  exact ⟨rfl, rfl⟩
/-- a finite word is equal to itself -/
theorem fl_self {k : FloatKind} {x : Nat} {s : Bool} {V : Nat} (h : Fl k.format x s V) : k.format.order x x = some .eq := vl_same ⟨s, V, h, rfl⟩ ⟨s, V, h, rfl⟩
theorem pt_self {k : FloatKind} {U B x y : Nat} (h : Pt k.format U B x y) : k.format.order x x = some .eq ∧ k.format.order y y = some .eq := by
  obtain ⟨s, V, t, W, h1, h2, _, _⟩ := h
  exact ⟨fl_self h1, fl_self h2⟩
/-- a single point in the wider width, no NaN there -/
theorem pt_upS {B x y : Nat} (h : Pt single (un .f32) B x y) (hB : B ≤ 2000000) : ∃ X Y, floatToFloatBits .f32 x .f64 = some X ∧ floatToFloatBits .f32 y .f64 = some Y ∧ FloatKind.f64.format.order X X = some .eq ∧ FloatKind.f64.format.order Y Y = some .eq := by
  obtain ⟨s, V, t, W, h1, h2, h3, h4⟩ := h
  obtain ⟨a1, a2⟩ := conv_up wd h1 (up_le h3 hB)
  obtain ⟨b1, b2⟩ := conv_up wd h2 (up_le h4 hB)
  exact ⟨_, _, a1, b1, fl_self (k := .f64) a2, fl_self (k := .f64) b2⟩
end Go.Proofs.YtmdnfamjdogogaaGreatDoor

namespace Go.Proofs.YtmdnfamjdogogaaGreatDoor
set_option linter.unusedSimpArgs false
set_option linter.unusedVariables false
open Go.RowKit Ieee

theorem dropU_le {V n : Nat} (h : V < 2 ^ n) : dropU double 0 V ≤ n := by
  unfold dropU
  have : V.log2 ≤ n := by
    by_cases h0 : V = 0
    · subst h0; simp
    · exact Nat.le_of_lt ((Nat.log2_lt h0).2 h)
  omega
theorem nn_fl {x : Nat} (h : Nn x) : (∃ s, single.read x = .infinity s) ∨ ∃ s V K, Fl single x s V ∧ K ≤ 253 ∧ V < 2 ^ 24 * 2 ^ K := by
  have hn := h.2
  have hr : single.read x = if x % 2147483648 < 8388608 then .number (x / 2147483648 % 2 == 1) (x % 2147483648) single.leastPlace else if x % 2147483648 < 2139095040 then .number (x / 2147483648 % 2 == 1) (8388608 + x % 2147483648 % 8388608) (single.leastPlace + (x % 2147483648 / 8388608 - 1 : Nat)) else if x % 2147483648 = 2139095040 then .infinity (x / 2147483648 % 2 == 1) else .nan (x / 2147483648 % 2 == 1) (x % 2147483648 - 2139095040) := by
    unfold Format.read; simp only [sW, iR, bN]
  have e24 : (2 : Nat) ^ 24 = 16777216 := by decide
  have f24 : 2 ^ (single.fractionBits + 1) = 16777216 := by decide
  by_cases h1 : x % 2147483648 < 8388608
  · rw [if_pos h1] at hr
    refine Or.inr ⟨(x / 2147483648 % 2 == 1), x % 2147483648 * 2 ^ 0, 0, ⟨x % 2147483648, 0, by rw [hr]; simp, rfl, by rw [f24]; omega⟩, by omega, ?_⟩
    rw [Nat.pow_zero, Nat.mul_one, Nat.mul_one, e24]
    omega
  · rw [if_neg h1] at hr
    by_cases h2 : x % 2147483648 < 2139095040
    · rw [if_pos h2] at hr
      refine Or.inr ⟨(x / 2147483648 % 2 == 1), (8388608 + x % 2147483648 % 8388608) * 2 ^ (x % 2147483648 / 8388608 - 1), x % 2147483648 / 8388608 - 1, ⟨8388608 + x % 2147483648 % 8388608, x % 2147483648 / 8388608 - 1, hr, rfl, by rw [f24]; omega⟩, by omega, ?_⟩
      rw [e24]
      exact Nat.mul_lt_mul_of_pos_right (show 8388608 + x % 2147483648 % 8388608 < 16777216 by omega) (Nat.two_pow_pos _)
    · rw [if_neg h2] at hr
      by_cases h3 : x % 2147483648 = 2139095040
      · rw [if_pos h3] at hr; exact Or.inl ⟨_, hr⟩
      · rw [if_neg h3] at hr; rw [hr] at hn; cases hn
theorem conv_any {US T x K : Nat} (hw : Wd US T) (hT : T ≤ 925) {s : Bool} {V : Nat} (hx : Fl single x s V) (hK : K ≤ 253) (hV : V < 2 ^ 24 * 2 ^ K) :
    ∃ X, floatToFloatBits .f32 x .f64 = some X ∧ FloatKind.f64.format.order X X = some .eq := by
  have hl : dropU double 0 (V * 2 ^ T) - 0 + 2 < 2 ^ double.exponentBits - 1 := by
    have h1 : V * 2 ^ T < 2 ^ (24 + K + T) := by
      rw [Nat.pow_add, Nat.pow_add]
      exact Nat.mul_lt_mul_of_pos_right hV (Nat.two_pow_pos _)
    have h2 := dropU_le h1
    have h3 : 2 ^ double.exponentBits - 1 = 2047 := by decide
    omega
  have hF := fl_nearest double s (V * 2 ^ T) 0 (p := double.leastPlace) (by omega) hl
  refine ⟨double.nearest s (V * 2 ^ T) double.leastPlace, ?_, fl_self (k := .f64) hF⟩
  obtain ⟨m, k, h1, rfl⟩ := fl_place hx
  have ew : double.nearest s m (single.leastPlace + (k : Int)) = double.nearest s (m * 2 ^ k * 2 ^ T) double.leastPlace := by
    have h := nearest_shift double s m (k + T) (single.leastPlace + (k : Int))
    have e : single.leastPlace + (k : Int) - ((k + T : Nat) : Int) = double.leastPlace := by rw [hw.place]; omega
    rw [e, Nat.pow_add, ← Nat.mul_assoc] at h
    exact h.symm
  unfold floatToFloatBits
  rw [if_neg (by decide)]
  have hd : FloatKind.f32.decode x = .number s m (single.leastPlace + (k : Int)) := h1
  rw [hd]
  show (if (double.read (double.nearest s m (single.leastPlace + (k : Int)))).isInfinity = true then none else some (double.nearest s m (single.leastPlace + (k : Int)))) = _
  rw [ew, notInf hF, if_neg (by decide)]
theorem nn_up {x : Nat} (h : Nn x) : ∃ X, floatToFloatBits .f32 x .f64 = some X ∧ FloatKind.f64.format.order X X = some .eq := by
  rcases nn_fl h with ⟨s, hs⟩ | ⟨s, V, K, h1, hK, h2⟩
  · refine ⟨FloatKind.f64.encode (.infinity s), ?_, ?_⟩
    · unfold floatToFloatBits
      rw [if_neg (by decide), show FloatKind.f32.decode x = .infinity s from hs]
    · cases s <;> decide +kernel
  · exact conv_any wd (Nat.le_refl _) h1 hK h2
theorem sameNn_c (p : Nat × Nat) (w : World) (h : Nn2 p) : Calls Tryz.prog 19 #[encW p, encW p] w fun e w' => e = .returned (.bool true) ∧ w = w' := by
  obtain ⟨X, h1, h2⟩ := nn_up h.1
  obtain ⟨Y, h3, h4⟩ := nn_up h.2
  exact sameSingle_c p.1 p.2 X Y w h1 h3 h2 h4
set_option maxHeartbeats 4000000 in
theorem sameEntry_c (s : ByteArray) (p : Nat × Nat) (n : Nat) (w : World) (h : Nn2 p) : Calls Tryz.prog 8 #[encE s p n, encE s p n] w fun e w' => e = .returned (.bool true) ∧ Below w.heap.size w w' := by
  go_enter Tryz.func8, Tryz.ntmps8
  go_wp2_with (go_at_call 19; refine (sameNn_c _ _ h).mono ?_; rintro e w1 ⟨rfl, rfl⟩)
  go_ret
  exact ⟨rfl, by (first | ((repeat' with_reducible first | assumption | exact Below.refl _ _ | apply Blw.alloc | apply Blw.drew | apply Blw.drewN | (refine Blw.after ?_ (by assumption)) | (refine Blw.set ?_ (by first | (dsimp only; omega) | (simp; omega)) _)); done) | (repeat' (first | assumption | exact Below.refl _ _ | apply Blw.alloc | apply Blw.drew | apply Blw.drewN | (refine Blw.after ?_ (by assumption)) | (refine Blw.set ?_ (by first | (dsimp only; omega) | (simp; done) | (simp; omega)) _))))⟩
end Go.Proofs.YtmdnfamjdogogaaGreatDoor

namespace Go.Proofs.YtmdnfamjdogogaaGreatDoor
set_option linter.unusedSimpArgs false
set_option linter.unusedVariables false
open Ieee
theorem signed_zero {s : Bool} {m k : Nat} (h : signed s m k = 0) : m = 0 := by
  unfold signed at h
  rw [Nat.shiftLeft_eq] at h
  have h2 : m * 2 ^ k = 0 := by split at h <;> omega
  rcases Nat.mul_eq_zero.1 h2 with h3 | h3
  · exact h3
  · exact absurd h3 (Nat.ne_of_gt (Nat.two_pow_pos k))
/-- a word that is equal to nought reads as a nought -/
theorem read_zero {f : Format} {x : Nat} (h0 : f.read 0 = .number false 0 f.leastPlace) (h : f.order x 0 = some .eq) : ∃ s i, f.read x = .number s 0 i := by
  unfold Format.order at h
  rw [h0] at h
  cases hx : f.read x with
  | nan s t => rw [hx] at h; simp [Datum.order] at h
  | infinity s => rw [hx] at h; cases s <;> simp [Datum.order] at h
  | number s m i =>
    rw [hx] at h
    simp only [Datum.order, Option.some.injEq] at h
    have h1 := Int.compare_eq_eq.1 h
    have h2 : signed false 0 (f.leastPlace - min i f.leastPlace).toNat = 0 := by simp [signed]
    rw [h2] at h1
    rw [signed_zero h1]
    exact ⟨s, i, rfl⟩
theorem one_div_zero {x : Nat} (h : FloatKind.f64.format.order x 0 = some .eq) : ∃ r, floatBits .quo .f64 4607182418800017408 x = some r := by
  obtain ⟨s, i, hx⟩ := read_zero (by decide +kernel) h
  show ∃ r, ((FloatKind.f64.format.read 4607182418800017408).quotient _ (FloatKind.f64.format.read x)).map FloatKind.f64.format.write = some r
  rw [hx, show FloatKind.f64.format.read 4607182418800017408 = .number false 4503599627370496 (-52) by decide +kernel]
  simp [Datum.quotient]
end Go.Proofs.YtmdnfamjdogogaaGreatDoor

namespace Go.Proofs.YtmdnfamjdogogaaGreatDoor
set_option linter.unusedSimpArgs false
set_option linter.unusedVariables false
open Go.RowKit

end Go.Proofs.YtmdnfamjdogogaaGreatDoor

namespace Go.Proofs.YtmdnfamjdogogaaGreatDoor
set_option linter.unusedSimpArgs false
set_option linter.unusedVariables false
open Go.RowKit Ieee

theorem rt_nn {s : ByteArray} {p : Nat × Nat} {n : Nat} (hp : W32 p) (h : rtE s p n = true) : Nn2 p := nn_of_eq hp (okE_iff (rtE_iff h).1).2.2
/-- what reading answers: an entry of a number, and whether -/
theorem rdV_cases (l : List UInt8) : (∃ a x y n, rdO l = some (a, x, y, n) ∧ rdV l = .tuple #[encE (bs a) (x, y) n, .bool true] ∧ txt a x y n = l ∧ rtE (bs a) (x, y) n = true ∧ Nn2 (x, y) ∧ n < 4294967296) ∨
    rdV l = .tuple #[encE ⟨#[]⟩ (0, 0) 0, .bool false] := by
  cases h : rdO l with
  | none => exact Or.inr (rdV_f h)
  | some v =>
    obtain ⟨a, x, y, n⟩ := v
    obtain ⟨h1, h2, h3, h4, h5, -⟩ := rd_some h
    exact Or.inl ⟨a, x, y, n, rfl, rdV_t h, h1, h2, rt_nn ⟨h3, h4⟩ h2, h5⟩
end Go.Proofs.YtmdnfamjdogogaaGreatDoor

namespace Go.Proofs.YtmdnfamjdogogaaGreatDoor
set_option linter.unusedSimpArgs false
set_option linter.unusedVariables false
open Go.ChangeShapes Go.WideShapes Go.ChangeAt Go.RowKit Go.Joins

theorem own : ownKnob Tryz.prog.godebug = none := by kernel_rfl
theorem cellsI : Tryz.prog.cellsOf 3 = 1 := by kernel_rfl
end Go.Proofs.YtmdnfamjdogogaaGreatDoor

namespace Go.Proofs.YtmdnfamjdogogaaGreatDoor
set_option linter.unusedSimpArgs false
set_option linter.unusedVariables false
open Go.ChangeShapes Go.WideShapes Go.ChangeAt Go.RowKit Go.Joins

theorem handed_shaped {H : Type} {enc : TypeId × Value → H} {a : Assume} {C : Checked} {os : Os} {f : FuncId} {fn : Func} {s : ChangeSpec} {conds : List PathCond} {apart fresh handsOn again : Bool} {X : World → Array Value → Prop}
    (hX : ∀ (w w' : World) (args : Array Value), w.heap = w'.heap → X w args → X w' args)
    (own : ownKnob C.prog.godebug = none) (started : os.Started) (noInit : C.prog.inits.idxOf? f = none) (hfn : C.prog.funcs[f]? = some fn)
    (witness : ∃ (w : World) (tape : Tape) (i : Input), w.os = os ∧ (w.forCall tape i).Shaped C.prog ∧ i.vars = [] ∧ Input.okWide C.prog (w.forCall tape i) .any w.heap.size f i ∧
      ((s.pre enc C.prog fn conds apart (w.forCall tape i).memory i.args ∧ X (w.forCall tape i).memory i.args) ∧ sizedMet enc C.prog fn (OpenSpec.ofChange s) apart (w.forCall tape i).memory i.args) ∧ a.holds C.prog (lone (Frame.enter C.prog f i.args .normal) [] (w.forCall tape i)))
    (contract : ∀ (W : World) (base : Nat) (args : Array Value) (ds gs : List (DataW H)) (before : List MemPlace),
      (∀ (j : Nat) t v, fn.params[j]? = some t → args[j]? = some v → Value.okWide C.prog W .any base t v) →
      DataW.Whole enc C.prog fn.params.toList s.vars apart W args.toList ds gs before →
      conds.all (PathCond.test C.prog ⟨fn.params.toList, ds, s.plain.varTypes C.prog, gs⟩) = true →
      (DataW.weightsEach C.prog (fn.params.toList ++ s.plain.varTypes C.prog) (ds ++ gs)).all (· ≤ reachBytes) = true → W.ShapedOpen C.prog → X W args →
      a.holds C.prog (lone (Frame.enter C.prog f args .normal) [] W) →
      Calls C.prog f args W fun e W' => ∃ v, e = .returned v ∧ s.post enc C.prog fn apart fresh handsOn again W args v W') :
    ReturnsInHanded a C os f .any (fun w args => (s.pre enc C.prog fn conds apart w args ∧ X w args) ∧ sizedMet enc C.prog fn (OpenSpec.ofChange s) apart w args) (s.post enc C.prog fn apart fresh handsOn again) := by
  refine returnsInHanded_of_calls own started noInit witness ?_
  intro w tape i _ hsh _ hok hpre hholds
  obtain ⟨_, _, _, fn', hfn', _, _, _, _, hval⟩ := hok
  have e : fn' = fn := Option.some.inj (hfn'.symm.trans hfn)
  subst e
  obtain ⟨⟨⟨ds, gs, before, hw, hc⟩, hx⟩, hz⟩ := hpre
  have hw' := DataW.Whole.of_heap (w' := w.forCall tape i) (by rfl) hw
  refine (contract (w.forCall tape i) w.heap.size i.args ds gs before hval hw' hc (hz.weights hw) hsh (hX _ _ _ (by rfl) hx) hholds).mono fun e W' ⟨v, he, hp⟩ => ?_
  subst he
  exact ChangeSpec.post_blind hp

theorem iface_of_trod {H : Type} {enc : TypeId × Value → H} {P : Program} {W : World} {base : Nat} {sp : Nat → Bool} {held : Bool} {fuel : Nat} {t : TypeId} {ms : Array (String × TypeId)} {l : List Value} {nm : String} {d : DataW H} {q : List MemPlace}
    (hi : P.underlying t = some (.interface ms)) (h : DataW.trod enc P W base sp held fuel t l = some (.iface nm d, q)) : ∃ u v, l = [.iface u v] := by
  cases fuel with
  | zero => simp [DataW.trod] at h
  | succ n =>
    match l, h with
    | [], h => simp [DataW.trod, hi] at h
    | [v], h => cases v <;> first | exact ⟨_, _, rfl⟩ | (exfalso; simp [DataW.trod, hi] at h; done)
    | _ :: _ :: _, h => simp [DataW.trod, hi] at h

theorem gcell_of_laid {n nm : String} {d : DataW Unit} {r : List (String × DataW Unit)} {W : World} {g : Nat} {ti : TypeId} {ms : Array (String × TypeId)} (h : laidMet Tryz.prog ((n, .iface nm d) :: r) W)
    (hg : Tryz.prog.globalNamed n = some g) (ht : (Tryz.prog.globals[g]?).map (·.type) = some ti) (hi : Tryz.prog.underlying ti = some (.interface ms)) : GCell g W := by
  obtain ⟨ps, ⟨g0, t0, cs, f0, p0, q0, hg0, ht0, hv, hd, _, _⟩, _, _⟩ := h
  obtain rfl := Option.some.inj (hg.symm.trans hg0)
  obtain rfl := Option.some.inj (ht.symm.trans ht0)
  obtain ⟨u, v, e⟩ := iface_of_trod hi hd
  refine ⟨.iface u v, ?_, .inr ⟨u, v, rfl⟩⟩
  rw [World.var?_cell hg hv 0]
  have : cs.toList[0]? = some (.iface u v) := by rw [e]; rfl
  simpa using this

set_option maxRecDepth 10000 in
theorem gl_laid {W : World} {x0 x1 x2 x3 : String × DataW Unit} {r : List (String × DataW Unit)}
    (hS : W.ShapedOpen Tryz.prog) (hL : laidMet Tryz.prog (x0 :: x1 :: x2 :: x3 :: ("strconv.ErrRange", Rows.laid_strconv_ErrRange) :: ("strconv.ErrSyntax", Rows.laid_strconv_ErrSyntax) :: r) W) (hT : Tz W) : Gl W := by
  have h4 := hL.tail.tail.tail.tail
  refine ⟨hT, ?_, ?_, ?_⟩
  · exact cell_of_shapedOpen_int (P := Tryz.prog) (g := 1) (t := 3) (zero := #[.int .i64 0]) hS (of_decide_eq_true (by kernel_rfl)) (by kernel_rfl) rfl (by kernel_rfl) (by kernel_rfl) Tryz.underlying3
  · exact gcell_of_laid h4.tail (by kernel_rfl) (ti := 62) (by kernel_rfl) Tryz.underlying62
  · exact gcell_of_laid h4 (by kernel_rfl) (ti := 62) (by kernel_rfl) Tryz.underlying62
end Go.Proofs.YtmdnfamjdogogaaGreatDoor

namespace Go.Proofs.YtmdnfamjdogogaaGreatDoor
set_option linter.unusedSimpArgs false
set_option linter.unusedVariables false
open Go.ChangeShapes Go.WideShapes Go.ChangeAt Go.RowKit Go.Joins

theorem laidOut : laidOutB Tryz.prog = true := by kernel_rfl
theorem cellsB : Tryz.prog.cellsOf 5 = 1 := by kernel_rfl

theorem code_of {H : Type} {enc : TypeId × Value → H} {W : World} {a : Option Addr} {len cap : Nat} {d : DataW H} {p : List MemPlace}
    (h : DataW.Trod enc Tryz.prog W 0 (fun _ => true) true 22 (.slice a len cap) d p) (hl : len ≤ 1048576) : Code (.slice a len cap) W := by
  obtain ⟨fuel, hf⟩ := h
  rcases open_ints Tryz.underlying22 Tryz.underlying5 cellsB hf with ⟨hcs, hx⟩ | ⟨a', len', cap', zs, hcs, _, h1, h2, hz, hx, hcell, hwz⟩
  · simp [Value.cells] at hcs
    obtain ⟨rfl, rfl, rfl⟩ := hcs
    exact ⟨none, 0, 0, rfl, Nat.le_refl _, by omega, Or.inl rfl⟩
  · simp [Value.cells] at hcs
    obtain ⟨rfl, rfl, rfl⟩ := hcs
    simp only [if_true] at hz
    refine ⟨_, _, _, rfl, h1, hl, ?_⟩
    by_cases h0 : len = 0
    · exact Or.inl h0
    right
    obtain ⟨b, off, s⟩ := a'
    obtain rfl : s = none := by simpa [Addr.add] using World.cell?_spot (hcell 0 (by omega))
    refine ⟨b, off, rfl, fun i hi => ⟨zs.getD i 0, ?_, ?_⟩⟩
    · have h := hcell i (by omega)
      rwa [add_plain] at h
    · have hm : zs.getD i 0 ∈ zs := by
        have : zs.getD i 0 = zs[i]'(by omega) := by simp [List.getD, show i < zs.length by omega]
        rw [this]; exact List.getElem_mem _
      have hw := hwz _ hm
      have e1 : IntKind.u8.min = 0 := rfl
      have e2 : IntKind.u8.max = 255 := rfl
      simp only [Lit.wf, Bool.and_eq_true, decide_eq_true_eq] at hw
      omega
end Go.Proofs.YtmdnfamjdogogaaGreatDoor
