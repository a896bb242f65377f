/- FnLost: whatever the code draws, lost places change nothing, and the next one ahead of them does; no condition. -/
import Derived.Test.YtlcafjdinjdllabPlosi
import Derived.Test.YtlcafjdinjdllabCutL
import Derived.Test.YtlcafjdinjdllabSame
import Derived.Test.YtlcafjdinjdllabDrawQ
import Derived.Test.YtlcafjdinjdllabBaseP
namespace Go.Proofs.Ytlcafjdinjdllab
set_option linter.unusedSimpArgs false
set_option linter.unusedVariables false
open Go.ChangeShapes Go.WideShapes Go.ChangeAt Go.RowKit Go.Joins

theorem zz_toL (n : Nat) : toL (zz n) = List.replicate n 48 := by unfold zz; rw [toL_bs]
theorem clr_toL {s : ByteArray} (hc : cutB s = true) {m : Nat} (hm : m ≤ (tlS s).size) : toL (clr s m) = toL (hdS s) ++ 46 :: ((toL (tlS s)).take ((tlS s).size - m) ++ List.replicate m 48) := by
  have h0 := (cutB_facts hc).1
  have ht := tlS_size s
  unfold clr
  rw [toL_app, toL_extract, List.drop_zero, zz_toL]
  conv => lhs; rw [split_at h0]
  have hl : (toL (hdS s)).length = atP s := by rw [toL_len, hdS_size]
  rw [List.take_append, List.take_of_length_le (by omega), hl, show s.size - m - atP s = ((tlS s).size - m) + 1 by omega, List.take_succ_cons, List.append_assoc]
  rfl
theorem clr_zero (s : ByteArray) : clr s 0 = s := by
  apply toL_ext
  unfold clr
  rw [toL_app, toL_extract, List.drop_zero, zz_toL, Nat.sub_zero, List.replicate_zero, List.append_nil, List.take_of_length_le (by rw [toL_len]; exact Nat.le_refl _)]
theorem clr_two {s : ByteArray} {n : Nat} : s.extract 0 (s.size - (n + 1)) ++ ⟨#[48]⟩ ++ zz n = clr s (n + 1) := by
  apply toL_ext
  unfold clr
  rw [toL_app, toL_app, toL_app, zz_toL, zz_toL, List.append_assoc]
  congr 1
theorem clr_pt {s : ByteArray} (h : ptB s = true) {m : Nat} (hm : m ≤ (tlS s).size) : ptB (clr s m) = true := by
  have hc := ptB_cut h
  have e := clr_toL hc hm
  obtain ⟨-, h1, h2, h3⟩ := cutB_facts hc
  have hcc : cutB (clr s m) = true := by
    rw [cutB_iff e (nodot s)]
    refine ⟨?_, h2, ?_⟩
    · intro c hc
      rcases List.mem_append.1 hc with h | h
      · exact onlyB_bits h1 c (List.mem_of_mem_take h)
      · rw [(List.mem_replicate.1 h).2]; rfl
    · rw [List.length_append, List.length_take, List.length_replicate, toL_len]; omega
  rw [ptB_same (hd_same (split_at (cutB_facts hc).1) e (nodot s)) hc hcc]
  exact h
theorem self32 {s : ByteArray} (h : ptB s = true) : FloatKind.f32.format.order (reP s) (reP s) = some .eq ∧ FloatKind.f32.format.order (imP s) (imP s) = some .eq := by
  unfold reP imP pickN
  rw [h]
  exact pt_self (pt_fin' .f32 h)
theorem top_true {f : Nat → Bool} (h0 : f 0 = true) : ∀ n, f (top f n) = true
  | 0 => h0
  | n + 1 => by
    unfold top
    split
    · assumption
    · exact top_true h0 n
theorem top_next {f : Nat → Bool} : ∀ {n : Nat}, top f n < n → f (top f n + 1) = false
  | 0, h => by omega
  | n + 1, h => by
    cases hf : f (n + 1)
    · rw [top_succ_f hf] at h ⊢
      have := top_le f n
      rcases Nat.lt_or_eq_of_le this with c | c
      · exact top_next c
      · rw [c]; exact hf
    · rw [top_succ_t hf] at h; omega
theorem lost_facts {s : ByteArray} (h : ptB s = true) : noCh s (loN s) = true ∧ (loN s < (tlS s).size → noCh s (loN s + 1) = false) ∧ loN s ≤ (tlS s).size := by
  have h0 : noCh s 0 = true := by
    obtain ⟨a, b⟩ := self32 h
    unfold noCh
    rw [clr_zero, a, b]; rfl
  exact ⟨top_true h0 _, fun hl => top_next hl, top_le _ _⟩
/-- the byte ahead of the lost places -/
theorem lost_byte {s : ByteArray} (h : cutB s = true) {n : Nat} (hn : n < (tlS s).size) {q : Nat} (hq : s.size = q + 1 + n) (hlt : q < s.size) : s[q].toNat ≠ 46 := by
  obtain ⟨h0, h1, -, -⟩ := cutB_facts h
  have ht := tlS_size s
  have hg := toL_get s q hlt
  have e : (toL s)[q]? = (toL (tlS s))[q - (atP s + 1)]? := by
    rw [toL_tl, List.getElem?_drop, show atP s + 1 + (q - (atP s + 1)) = q by omega]
  rw [e] at hg
  have hb := onlyB_bits h1 _ (List.mem_of_getElem? hg)
  rw [bitC_iff] at hb
  omega
def ZzRel (n : Nat) (w : World) (m : Nat) (z i : Value) (wr : World) : Prop := ∃ k : Nat, k + m = n ∧ z = .string (zz k) ∧ i = .int .i64 k ∧ wr = w
set_option maxHeartbeats 4000000 in
set_option maxRecDepth 10000 in
theorem lawLost_c (a : Option Addr) (len cap : Nat) (w : World) (hc : len ≤ 1048576 → Code (.slice a len cap) w) : Calls Try.prog 7 #[.slice a len cap] w fun e w' => e = .returned (.bool true) ∧ Below w.heap.size w w' := by
  by_cases hl : 1048576 < len
  · go_enter Try.func7, Try.ntmps7
    go_wp2_with fail
    go_ret
    exact ⟨rfl, by (repeat' (first | assumption | exact Below.refl _ _ | apply Blw.alloc | apply Blw.drew | apply Blw.drewN | (refine Blw.after ?_ (by assumption)) | (refine Blw.set ?_ (by first | (dsimp only; omega) | (simp; done) | (simp; omega)) _)))⟩
  · have hc' := hc (by omega)
    clear hc
    go_enter Try.func7, Try.ntmps7
    go_wp2_with fail
    refine (drawPlL_c _ w hc').mono ?_
    rintro e W1 ⟨s, rfl, ht, hb1⟩
    clear hc'
    have hsz : s.size ≤ 1500000 := by omega
    rcases Bool.eq_false_or_eq_true (ptB s) with hp | hp
    · have hcut := ptB_cut hp
      obtain ⟨c0, -, -, c3⟩ := cutB_facts hcut
      have hts := tlS_size s
      obtain ⟨n, g1, g2, g3, hn⟩ : ∃ n, noCh s n = true ∧ (n < (tlS s).size → noCh s (n + 1) = false) ∧ n ≤ (tlS s).size ∧ loN s = n := ⟨loN s, (lost_facts hp).1, (lost_facts hp).2.1, (lost_facts hp).2.2, rfl⟩
      have V := loV_yes hp
      rw [hn] at V
      have HI := Lib.hid (show ∀ w, Calls Try.prog 28 #[.string s] w fun e w' => e = .returned (.tuple #[.int .i64 (n : Nat), .bool true]) ∧ Below w.heap.size w w' from fun w => by rw [← V]; exact iPlacesLost_c s w hsz)
      have HS := Lib.hid (show ∀ w, Calls Try.prog 29 #[.string s] w fun e w' => e = .returned (.tuple #[.int .i64 (n : Nat), .bool true]) ∧ Below w.heap.size w w' from fun w => by rw [← V]; exact sPlacesLost_c s w hsz)
      have HP := Lib.hid (show ∀ t : ByteArray, t.size ≤ 2000000 → ∀ w, Calls Try.prog 14 #[.string t] w fun e w' => e = .returned (.tuple #[.complex .f32 (reP t) (imP t), .bool (ptB t)]) ∧ Below w.heap.size w w' from fun t ht w => iPointSingle_c t w ht)
      have q1 := clr_pt hp g3
      have q2 : n < (tlS s).size → ptB (clr s (n + 1)) = true := fun h => clr_pt hp h
      have hby := fun (h : n < (tlS s).size) (q : Nat) (hq : s.size = q + 1 + n) (hlt : q < s.size) => lost_byte hcut h hq hlt
      clear V
      obtain ⟨q, hq⟩ : ∃ q, s.size = q + 1 + n := ⟨s.size - (n + 1), by omega⟩
      have hdot : n = (tlS s).size → ∀ hlt : q < s.size, s[q].toNat = 46 := fun h hlt => by
        have e : q = atP s := by omega
        subst e
        exact atP_dot c0
      have e3 : s.extract 0 (q + 1) ++ zz (n) = clr s (n) := by unfold clr; rw [show s.size - n = q + 1 by omega]
      have e4 : s.extract 0 q ++ ⟨#[48]⟩ ++ zz (n) = clr s (n + 1) := by rw [← clr_two, show s.size - (n + 1) = q by omega]
      unfold noCh at g1 g2
      have hn320 : n ≤ 320 := by omega
      have G1 := Lib.hid g1
      have G2 := Lib.hid g2
      have Q1 := Lib.hid q1
      have Q2 := Lib.hid q2
      have E3 := Lib.hid e3
      have E4 := Lib.hid e4
      have HD := Lib.hid hdot
      have HY := Lib.hid hby
      have HQ := Lib.hid hq
      have HTS := Lib.hid hts
      have HG3 := Lib.hid g3
      have HP1 := Lib.hid hp
      clear g1 g2 q1 q2 e3 e4 hdot hby hq hn hts g3 c0 c3 hcut hp
      go_wp2_with fail
      refine (HI.out _).mono ?_
      rintro e W2 ⟨rfl, hb2⟩
      have B2 := Lib.hid (Blw.after hb1 hb2)
      clear hb2
      go_wp2_with fail
      refine (HS.out _).mono ?_
      rintro e W3 ⟨rfl, hb3⟩
      have B3 := Lib.hid (Blw.after B2.out hb3)
      clear hb3 B2
      go_wp2_with fail
      refine (HP.out s (by omega) _).mono ?_
      rintro e W4 ⟨rfl, hb4⟩
      have B4 := Lib.hid (Blw.after B3.out hb4)
      clear hb4 B3
      rw [HP1.out]
      go_wp2_with fail
      go_loopg [10, 11] n (fun m z i wr => ZzRel n W4 m z i wr)
      case atStart => exact ⟨0, by omega, rfl, rfl, rfl⟩
      case round =>
        obtain ⟨k, hk, rfl, rfl, rfl⟩ := hrel
        have z1 := zz_size k
        by_cases hlt : k < n
        · have z9 := zz_succ k
          go_wp2_with fail
          go_roundg (gk - 1)
          case measure => omega
          case rel => exact ⟨k + 1, by omega, rfl, by go_num, rfl⟩
        · obtain rfl : k = n := by omega
          obtain ⟨r, hr⟩ : ∃ r, r = q + 1 := ⟨_, rfl⟩
          have hq := HQ.out
          have g3 := HG3.out
          have hts := HTS.out
          have e3 := E3.out
          have e4 := E4.out
          rw [← hr] at e3 hq
          have i1 : (s.size : Int) - (k : Int) = (r : Nat) := by omega
          have i2 : (r : Int) - 1 = (q : Nat) := by omega
          have z3 : (s.extract 0 r).size = r := by rw [ByteArray.size_extract]; omega
          have z5 : (s.extract 0 q).size = q := by rw [ByteArray.size_extract]; omega
          have z4 : (clr s k).size ≤ 2000000 := by rw [← e3, ByteArray.size_append, z1, z3]; omega
          have z6 : (s.extract 0 q ++ ⟨#[48]⟩).size = q + 1 := by rw [ByteArray.size_append, z5]; rfl
          have z7 : (clr s (k + 1)).size ≤ 2000000 := by rw [← e4, ByteArray.size_append, z1, z6]; omega
          have l1 : r ≤ s.size := by omega
          have l2 : q < s.size := by omega
          have l3 : q ≤ 900 := by omega
          have l4 : r ≤ 900 := by omega
          have HC := Lib.hid (show k = (tlS s).size ∨ k < (tlS s).size by omega)
          have HQ2 := Lib.hid (show s.size = q + 1 + k by omega)
          have E3' := Lib.hid e3
          have E4' := Lib.hid e4
          clear hq g3 hts e3 e4 hr
          go_wp2_with fail
          rw [E3'.out]
          refine (HP.out (clr s k) z4 _).mono ?_
          rintro e W5 ⟨rfl, hb5⟩
          have B5 := Lib.hid (Blw.after B4.out hb5)
          clear hb5
          rw [Q1.out]
          have g1 := G1.out
          rcases HC.out with h | h
          · have a1 := HD.out h l2
            clear h
            go_wp2_with fail
            go_ret
            exact ⟨rfl, B5.out⟩
          · have a1 : ((s[q].toNat : Int) == 46) = false := by
              have := HY.out h q HQ2.out l2
              simp; omega
            have q2 := Q2.out h
            have G2' := Lib.hid (G2.out h)
            go_wp2_with fail
            rw [E4'.out]
            refine (HP.out (clr s (k + 1)) z7 _).mono ?_
            rintro e W6 ⟨rfl, hb6⟩
            have B6 := Lib.hid (Blw.after B5.out hb6)
            clear hb6
            rw [q2]
            have g2 := G2'.out
            go_wp2_with fail
            go_ret
            exact ⟨rfl, B6.out⟩
    · have V := loV_no hp
      have HI := Lib.hid (show ∀ w, Calls Try.prog 28 #[.string s] w fun e w' => e = .returned (.tuple #[.int .i64 0, .bool false]) ∧ Below w.heap.size w w' from fun w => by rw [← V]; exact iPlacesLost_c s w hsz)
      have HS := Lib.hid (show ∀ w, Calls Try.prog 29 #[.string s] w fun e w' => e = .returned (.tuple #[.int .i64 0, .bool false]) ∧ Below w.heap.size w w' from fun w => by rw [← V]; exact sPlacesLost_c s w hsz)
      go_wp2_with fail
      refine (HI.out _).mono ?_
      rintro e W2 ⟨rfl, hb2⟩
      have B2 := Lib.hid (Blw.after hb1 hb2)
      clear hb2
      go_wp2_with fail
      refine (HS.out _).mono ?_
      rintro e W3 ⟨rfl, hb3⟩
      have B3 := Lib.hid (Blw.after B2.out hb3)
      clear hb3 B2
      go_wp2_with fail
      go_ret
      exact ⟨rfl, B3.out⟩

namespace lawFnLost
set_option maxRecDepth 100000 in
theorem lifted (os : Os) (started : os.Started) (H : Type) (enc : TypeId × Value → H) :
    ReturnsInHanded {} Try.checked os 7 .any (Rows.fnLostSpec.pre6 enc Try.prog Try.f7 Rows.fnLostRow.domain false) (Rows.fnLostSpec.post enc Try.prog Try.f7 false true false false) := by
  refine returnsInHanded_of_change (C := Try.checked) own started (by kernel_rfl) Try.func7
    (ChangeSpec.witness6 (enc := enc) (C := Try.checked) false ⟨#[], #[.slice none 0 0], []⟩ 8 (by kernel_rfl) (by kernel_rfl) (by kernel_rfl) (by kernel_rfl)) ?_
  intro W base args ds gs before hval0 hW _ _
  have hval : ∀ (j : Nat) t v, Try.f7.params[j]? = some t → args[j]? = some v → Value.okWide Try.prog W .any base t v := hval0
  have hW' := hW
  obtain ⟨p, q, hA0, hV, rfl, _, _⟩ := hW
  have hA : DataW.TrodAll enc Try.prog W 0 (fun _ => true) true Try.f7.params.toList args.toList ds p := hA0
  rw [Try.params7] at hA hval
  obtain ⟨v0, vs0, d0, ds0, p0, q0, hargs, rfl, rfl, h0, r0⟩ := trodAll_cons hA
  obtain ⟨rfl, rfl, rfl⟩ := trodAll_nil r0
  obtain rfl : args = #[v0] := by cases args; simp_all
  obtain ⟨rfl, rfl⟩ := trodVars_none hV
  obtain ⟨a, len, cap, rfl⟩ := okWide_slice Try.underlying22 (hval 0 22 v0 rfl rfl)
  clear hA0 hval0
  simp only [List.append_nil] at hW'
  have hlt : ∀ x ∈ p0, x.block < W.heap.size := fun x hx => by simpa using hW'.lt x hx
  refine (lawLost_c a len cap W (code_of h0)).mono fun e W' ⟨he, hg⟩ => ?_
  subst he
  have harg := Below.trod laidOut (by kernel_rfl) (of_decide_eq_true (by kernel_rfl)) h0 hg hlt
  refine ⟨_, rfl, _, _, _, [], p0, [], hW', ?_, ?_, ?_, hg.frame _, fun h => by cases h⟩
  · exact trodAll_cons_mk (shut_bool Try.underlying4 _) trodAll_mk0
  · exact trodAll_mk1 harg
  · rfl

theorem proved : Rows.FnLostSaid :=
  OpenClaim.holds_of_wide 7 Try.f7 rfl rfl rfl rfl rfl rfl rfl ⟨rfl, rfl, rfl, rfl, rfl⟩ rfl rfl rfl rfl rfl (by kernel_rfl) Try.func7 (by kernel_rfl)
    (of_decide_eq_true (by kernel_rfl)) (by unfold Func.isWrapper; first | (rw [if_pos (by decide +kernel)]; kernel_rfl) | (rw [if_neg (by decide +kernel)]; exact ⟨rfl, rfl⟩))
    (fun os started H enc _ => lifted os started H enc)
end lawFnLost
end Go.Proofs.Ytlcafjdinjdllab
