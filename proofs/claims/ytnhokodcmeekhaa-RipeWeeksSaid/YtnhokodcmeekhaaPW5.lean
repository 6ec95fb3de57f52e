/-
  . They hold with no condition but those that are written in each theorem.
-/
import Derived.Test.YtnhokodcmeekhaaRows
import Derived.ProofKit
import Derived.Deep.Slices
import Derived.Lib.SmallJoins
import Derived.Laws.IdiomArrays
import Derived.Deep.Strs
import Derived.Test.YtnhokodcmeekhaaPW1
import Derived.Test.YtnhokodcmeekhaaPW2
import Derived.Test.YtnhokodcmeekhaaPW3
import Derived.Test.YtnhokodcmeekhaaPW4
set_option linter.unusedSimpArgs false
set_option linter.unusedVariables false
namespace Go.Proofs.Ytnhokodcmeekhaa
open Go Kern
theorem SlAt.one {n : Nat} {s : St} {v : Value} {l : List (List Value)} (h : SlAt n s v l) : oneV v = true := by obtain ⟨a, c, rfl⟩ := h.shape; rfl
def kL : List (Int × Int) := [(980, 1020), (1180, 1545), (1380, 1420), (1275, 1640), (1170, 1230)]
theorem small_kL : SmallP kL := fun x hx => by
  unfold kL at hx
  simp only [List.mem_cons, List.not_mem_nil, or_false] at hx
  rcases hx with rfl | rfl | rfl | rfl | rfl <;> exact ⟨by unfold In62; decide, by unfold In62; decide⟩
theorem rverF_trip {n lo hi : Int} {ss : List SampD} {i j k : Nat} (h : fieldErr n lo hi ss = 0) (hi' : i < n.toNat) (hj : j < n.toNat) (hk : k < n.toNat) (hc : holdsB (fun w => (endN lo hi ss w).1) (fun w => (endN lo hi ss w).2) i j k = true) : rverF n lo hi ss [(i : Int), (j : Int), (k : Int)] = 0 := by
  unfold rverF verIn
  rw [if_pos h, if_pos (show [(i : Int), (j : Int), (k : Int)].length = 3 from rfl), if_pos (by simp [weekB]; omega)]
  simp only [List.getD_cons_zero, List.getD_cons_succ, Int.toNat_natCast]
  rw [if_pos hc]
theorem trip_ver {i j k : Nat} (hi : i < 5) (hj : j < 5) (hk : k < 5) (h : hB 0 2000 ssZ i j k = true) : verF 5 0 2000 ssZ [(i : Int), (j : Int), (k : Int)] = 0 := by
  rw [verF_eq]
  exact rverF_trip errZ hi hj hk h
set_option maxRecDepth 100000 in
set_option maxHeartbeats 4000000 in
theorem works_ev (s : St) : Ev TT 13 [] s fun r s' => r = .bool true ∧ Keep s s' := by
  have hkF := fun v s h => known_ev 5 0 2000 v ssF s h (by decide)
  have hkZ := fun v s h => known_ev 5 0 2000 v ssZ s h (by decide)
  have hcZ := fun v s h => clashTop_ev 5 0 2000 v ssZ s h (by decide)
  have hpF := fun v s h => peaks_ev 5 0 2000 v ssF s h (by decide)
  have hrF := fun v s h => ripe_ev 5 0 2000 1300 v ssF s h (by decide)
  have hgF := fun v s h => regret_ev 5 0 2000 3 v ssF s h (by decide)
  have huF := fun v s h => cut_ev 5 0 2000 v ssF s h (by decide)
  have hvZ := fun v w ws s h hw hl => verify_ev 5 0 2000 v w ssZ ws s h (by decide) hw hl
  have hvF := fun v w ws s h hw hl => verify_ev 5 0 2000 v w ssF ws s h (by decide) hw hl
  unfold fieldV at hkF hkZ hcZ hpF hrF hgF huF hvZ hvF
  refine Ev.intro (fn := Try.f13) rfl (by kernel_rfl) rfl rfl ?_
  apply zz
  refine Cd.ra (h := ?_)
  apply Run.by_eq
  · intro self
    conv => lhs; simp -implicitDefEqProofs (maxSteps := 300000) (disch := omega) [-getElem?_pos, -getElem?_neg]
  try (with_reducible refine Run.ret ?_)
  apply zz
  -- Known of F
  refine Cd.mono (Q := fun x f1 s1 => x = Ex.normal ∧ f1.marks = [] ∧ Keep s s1 ∧ ∃ kv, f1.get 1 = kv ∧ f1.get 2 = .int .i64 0 ∧ SpAt s1 kv [(980, 1020), (1180, 1545), (1380, 1420), (1275, 1640), (1170, 1230)]) ?_ ?_
  · apply zz
    refine Cd.ra (h := ?_)
    apply Run.by_eq
    · intro self
      conv => lhs; simp -implicitDefEqProofs (maxSteps := 300000) (disch := omega) [-getElem?_pos, -getElem?_neg]
    try (with_reducible refine Run.ret ?_)
    apply zz
    refine Run.call ((F_ev _).mono fun v w1 hv => ?_)
    obtain ⟨k1, b, rfl, hb1, hb2, hb3⟩ := hv
    apply Run.by_eq
    · intro self
      conv => lhs; simp -implicitDefEqProofs (maxSteps := 300000) (disch := omega) [-getElem?_pos, -getElem?_neg]
    try (with_reducible refine Run.ret ?_)
    apply zz
    refine Run.call ((hkF _ _ (smF hb2 hb3)).mono fun v w2 hv => ?_)
    obtain ⟨k2, kv, e, rfl, hK⟩ := hv
    obtain ⟨rfl, hkv⟩ := known_F hK
    have ho := SlAt.one hkv
    apply Run.by_eq
    · intro self
      conv => lhs; simp -implicitDefEqProofs (maxSteps := 300000) (disch := omega) [-getElem?_pos, -getElem?_neg]
    try (with_reducible refine Run.ret ?_)
    apply zz
    exact ⟨rfl, by simp, k1.trans k2, kv, by simp, by simp, hkv⟩
  rintro x f s1 ⟨rfl, hmk, hk, kv, g1, g2, hkv⟩
  apply zz
  -- Known of Z
  refine Cd.mono (Q := fun x f1 s1 => x = Ex.normal ∧ f1.marks = [] ∧ Keep s s1 ∧ f1.get 1 = kv ∧ f1.get 2 = .int .i64 0 ∧ f1.get 4 = .int .i64 12 ∧ SpAt s1 kv [(980, 1020), (1180, 1545), (1380, 1420), (1275, 1640), (1170, 1230)]) ?_ ?_
  · apply zz
    refine Cd.ra (h := ?_)
    apply Run.by_eq
    · intro self
      conv => lhs; simp -implicitDefEqProofs (maxSteps := 300000) (disch := omega) [-getElem?_pos, -getElem?_neg]
    try (with_reducible refine Run.ret ?_)
    apply zz
    refine Run.call ((Z_ev _).mono fun v w1 hv => ?_)
    obtain ⟨k1, b, rfl, hb1, hb2, hb3⟩ := hv
    apply Run.by_eq
    · intro self
      conv => lhs; simp -implicitDefEqProofs (maxSteps := 300000) (disch := omega) [-getElem?_pos, -getElem?_neg]
    try (with_reducible refine Run.ret ?_)
    apply zz
    refine Run.call ((hkZ _ _ (smZ hb2 hb3)).mono fun v w2 hv => ?_)
    obtain ⟨k2, zv, e, rfl, hK⟩ := hv
    obtain ⟨rfl, rfl⟩ := known_Z hK
    apply Run.by_eq
    · intro self
      conv => lhs; simp -implicitDefEqProofs (maxSteps := 300000) (disch := omega) [-getElem?_pos, -getElem?_neg]
    try (with_reducible refine Run.ret ?_)
    apply zz
    exact ⟨rfl, by simp [hmk], hk.trans (k1.trans k2), by simp [g1], by simp [g2], by simp, hkv.keep (k1.trans k2)⟩
  clear hmk g1 g2 hk hkv
  rintro x f s1 ⟨rfl, hmk, hk, g1, g2, g4, hkv⟩
  apply zz
  -- Clash of Z
  refine Cd.mono (Q := fun x f1 s1 => x = Ex.normal ∧ f1.marks = [] ∧ Keep s s1 ∧ f1.get 1 = kv ∧ f1.get 2 = .int .i64 0 ∧ f1.get 4 = .int .i64 12 ∧ SpAt s1 kv [(980, 1020), (1180, 1545), (1380, 1420), (1275, 1640), (1170, 1230)] ∧ f1.get 6 = .int .i64 0 ∧ ∃ cv, f1.get 5 = cv ∧ Trip 5 (hB 0 2000 ssZ) cv s1) ?_ ?_
  · apply zz
    refine Cd.ra (h := ?_)
    apply Run.by_eq
    · intro self
      conv => lhs; simp -implicitDefEqProofs (maxSteps := 300000) (disch := omega) [-getElem?_pos, -getElem?_neg]
    try (with_reducible refine Run.ret ?_)
    apply zz
    refine Run.call ((Z_ev _).mono fun v w1 hv => ?_)
    obtain ⟨k1, b, rfl, hb1, hb2, hb3⟩ := hv
    apply Run.by_eq
    · intro self
      conv => lhs; simp -implicitDefEqProofs (maxSteps := 300000) (disch := omega) [-getElem?_pos, -getElem?_neg]
    try (with_reducible refine Run.ret ?_)
    apply zz
    refine Run.call ((hcZ _ _ (smZ hb2 hb3)).mono fun v w2 hv => ?_)
    obtain ⟨k2, cv, e, rfl, hK⟩ := hv
    obtain ⟨rfl, hT⟩ := clash_Z hK
    have ho : oneV cv = true := by obtain ⟨_, _, _, _, _, _, _, _, rfl, _⟩ := hT; rfl
    apply Run.by_eq
    · intro self
      conv => lhs; simp -implicitDefEqProofs (maxSteps := 300000) (disch := omega) [-getElem?_pos, -getElem?_neg]
    try (with_reducible refine Run.ret ?_)
    apply zz
    exact ⟨rfl, by simp [hmk], hk.trans (k1.trans k2), by simp [g1], by simp [g2], by simp [g4], hkv.keep (k1.trans k2), by simp, cv, by simp, hT⟩
  clear hmk g1 g2 g4 hk hkv
  rintro x f s1 ⟨rfl, hmk, hk, g1, g2, g4, hkv, g6, cv, g5, hT⟩
  apply zz
  obtain ⟨ti, tj, tk, t1, t2, t3, t4, hci, bc, rfl⟩ := hT.ints
  clear hT
  -- Peaks of F
  refine Cd.mono (Q := fun x f1 s1 => x = Ex.normal ∧ f1.marks = [] ∧ Keep s s1 ∧ f1.get 1 = kv ∧ f1.get 2 = .int .i64 0 ∧ f1.get 4 = .int .i64 12 ∧ SpAt s1 kv [(980, 1020), (1180, 1545), (1380, 1420), (1275, 1640), (1170, 1230)] ∧ f1.get 6 = .int .i64 0 ∧ f1.get 5 = .slice (some bc) 3 3 ∧ IntsAt s1 (.slice (some bc) 3 3) [(ti : Int), (tj : Int), (tk : Int)] ∧ f1.get 8 = .int .i64 0 ∧ ∃ pv, f1.get 7 = pv ∧ IntsAt s1 pv [1, 2, 3]) ?_ ?_
  · apply zz
    refine Cd.ra (h := ?_)
    apply Run.by_eq
    · intro self
      conv => lhs; simp -implicitDefEqProofs (maxSteps := 300000) (disch := omega) [-getElem?_pos, -getElem?_neg]
    try (with_reducible refine Run.ret ?_)
    apply zz
    refine Run.call ((F_ev _).mono fun v w1 hv => ?_)
    obtain ⟨k1, b, rfl, hb1, hb2, hb3⟩ := hv
    apply Run.by_eq
    · intro self
      conv => lhs; simp -implicitDefEqProofs (maxSteps := 300000) (disch := omega) [-getElem?_pos, -getElem?_neg]
    try (with_reducible refine Run.ret ?_)
    apply zz
    refine Run.call ((hpF _ _ (smF hb2 hb3)).mono fun v w2 hv => ?_)
    obtain ⟨k2, pv, e, rfl, hK⟩ := hv
    obtain ⟨rfl, hP⟩ := hK.F
    have hP2 : IntsAt w2 pv [1, 2, 3] := by have := peaksF ▸ hP; exact this
    have ho := SlAt.one hP2
    apply Run.by_eq
    · intro self
      conv => lhs; simp -implicitDefEqProofs (maxSteps := 300000) (disch := omega) [-getElem?_pos, -getElem?_neg]
    try (with_reducible refine Run.ret ?_)
    apply zz
    exact ⟨rfl, by simp [hmk], hk.trans (k1.trans k2), by simp [g1], by simp [g2], by simp [g4], hkv.keep (k1.trans k2), by simp [g6], by simp [g5], hci.keep (k1.trans k2), by simp, pv, by simp, hP2⟩
  clear hmk g1 g2 g4 g5 g6 hk hkv hci
  rintro x f s1 ⟨rfl, hmk, hk, g1, g2, g4, hkv, g6, g5, hci, g8, pv, g7, hpv⟩
  apply zz
  -- Ripe of F
  refine Cd.mono (Q := fun x f1 s1 => x = Ex.normal ∧ f1.marks = [] ∧ Keep s s1 ∧ f1.get 1 = kv ∧ f1.get 2 = .int .i64 0 ∧ f1.get 4 = .int .i64 12 ∧ SpAt s1 kv [(980, 1020), (1180, 1545), (1380, 1420), (1275, 1640), (1170, 1230)] ∧ f1.get 6 = .int .i64 0 ∧ f1.get 5 = .slice (some bc) 3 3 ∧ IntsAt s1 (.slice (some bc) 3 3) [(ti : Int), (tj : Int), (tk : Int)] ∧ f1.get 8 = .int .i64 0 ∧ f1.get 7 = pv ∧ IntsAt s1 pv [1, 2, 3] ∧ f1.get 11 = .int .i64 0 ∧ ∃ sv mv, f1.get 9 = sv ∧ f1.get 10 = mv ∧ IntsAt s1 sv [2] ∧ IntsAt s1 mv [1, 2, 3]) ?_ ?_
  · apply zz
    refine Cd.ra (h := ?_)
    apply Run.by_eq
    · intro self
      conv => lhs; simp -implicitDefEqProofs (maxSteps := 300000) (disch := omega) [-getElem?_pos, -getElem?_neg]
    try (with_reducible refine Run.ret ?_)
    apply zz
    refine Run.call ((F_ev _).mono fun v w1 hv => ?_)
    obtain ⟨k1, b, rfl, hb1, hb2, hb3⟩ := hv
    apply Run.by_eq
    · intro self
      conv => lhs; simp -implicitDefEqProofs (maxSteps := 300000) (disch := omega) [-getElem?_pos, -getElem?_neg]
    try (with_reducible refine Run.ret ?_)
    apply zz
    refine Run.call ((hrF _ _ (smF hb2 hb3)).mono fun v w2 hv => ?_)
    obtain ⟨k2, sv, mv, e, rfl, hK⟩ := hv
    obtain ⟨rfl, hP⟩ := hK.F
    have hS2 : IntsAt w2 sv [2] := by have := surelyF ▸ hP.1; exact this
    have hM2 : IntsAt w2 mv [1, 2, 3] := by have := perhapsF ▸ hP.2; exact this
    have ho := SlAt.one hS2
    have ho2 := SlAt.one hM2
    apply Run.by_eq
    · intro self
      conv => lhs; simp -implicitDefEqProofs (maxSteps := 300000) (disch := omega) [-getElem?_pos, -getElem?_neg]
    try (with_reducible refine Run.ret ?_)
    apply zz
    exact ⟨rfl, by simp [hmk], hk.trans (k1.trans k2), by simp [g1], by simp [g2], by simp [g4], hkv.keep (k1.trans k2), by simp [g6], by simp [g5], hci.keep (k1.trans k2), by simp [g8], by simp [g7], hpv.keep (k1.trans k2), by simp, sv, mv, by simp, by simp, hS2, hM2⟩
  clear hmk g1 g2 g4 g5 g6 g7 g8 hk hkv hci hpv
  rintro x f s1 ⟨rfl, hmk, hk, g1, g2, g4, hkv, g6, g5, hci, g8, g7, hpv, g11, sv, mv, g9, g10, hsv, hmv⟩
  apply zz
  have hv0 := trip_ver t1 t2 t3 t4
  have vc := slAt_veq hci 4
  refine Cd.mono (Q := fun x f1 s1 => x = Ex.normal ∧ f1.marks = [] ∧ Keep s s1 ∧ f1.get 7 = pv ∧ IntsAt s1 pv [1, 2, 3] ∧ f1.get 9 = sv ∧ f1.get 10 = mv ∧ IntsAt s1 sv [2] ∧ IntsAt s1 mv [1, 2, 3] ∧ f1.get 87 = .bool false) ?_ ?_
  · have hr5 : repeatL [Value.int .i64 0, .int .i64 0] 5 = [.int .i64 0, .int .i64 0, .int .i64 0, .int .i64 0, .int .i64 0, .int .i64 0, .int .i64 0, .int .i64 0, .int .i64 0, .int .i64 0] := rfl
    apply zz
    refine Cd.ra (h := ?_)
    apply Run.by_eq
    · intro self
      conv => lhs; simp -implicitDefEqProofs (maxSteps := 300000) (disch := omega) [-getElem?_pos, -getElem?_neg, g1, g2, g4, g5, g6, g8, g11]
    try (with_reducible refine Run.ret ?_)
    apply zz
    refine Run.call ((span_ev 980 1020 _).mono fun v wa hv => ?_)
    obtain ⟨rfl, a⟩ := hv
    have aa := a.1
    have ab := a.2
    try simp only [pushed_next', upded_next'] at aa ab
    apply Run.by_eq
    · intro self
      conv => lhs; simp -implicitDefEqProofs (maxSteps := 300000) (disch := omega) [-getElem?_pos, -getElem?_neg]
    try (with_reducible refine Run.ret ?_)
    apply zz
    refine Run.call ((span_ev 1180 1545 _).mono fun v wb hv => ?_)
    obtain ⟨rfl, b⟩ := hv
    have ba := b.1
    have bb := b.2
    try simp only [pushed_next', upded_next'] at ba bb
    apply Run.by_eq
    · intro self
      conv => lhs; simp -implicitDefEqProofs (maxSteps := 300000) (disch := omega) [-getElem?_pos, -getElem?_neg]
    try (with_reducible refine Run.ret ?_)
    apply zz
    refine Run.call ((span_ev 1380 1420 _).mono fun v wc hv => ?_)
    obtain ⟨rfl, c⟩ := hv
    have ca := c.1
    have cb := c.2
    try simp only [pushed_next', upded_next'] at ca cb
    apply Run.by_eq
    · intro self
      conv => lhs; simp -implicitDefEqProofs (maxSteps := 300000) (disch := omega) [-getElem?_pos, -getElem?_neg]
    try (with_reducible refine Run.ret ?_)
    apply zz
    refine Run.call ((span_ev 1275 1640 _).mono fun v wd hv => ?_)
    obtain ⟨rfl, d⟩ := hv
    have da := d.1
    have db := d.2
    try simp only [pushed_next', upded_next'] at da db
    apply Run.by_eq
    · intro self
      conv => lhs; simp -implicitDefEqProofs (maxSteps := 300000) (disch := omega) [-getElem?_pos, -getElem?_neg]
    try (with_reducible refine Run.ret ?_)
    apply zz
    refine Run.call ((span_ev 1170 1230 _).mono fun v we hv => ?_)
    obtain ⟨rfl, e⟩ := hv
    have ea := e.1
    have eb := e.2
    try simp only [pushed_next', upded_next'] at ea eb
    have ke : Keep s1 we := ⟨by omega, fun i hi => by rw [eb i (by omega), db i (by omega), cb i (by omega), bb i (by omega)]; exact ab i hi⟩
    apply Run.by_eq
    · intro self
      conv => lhs; simp -implicitDefEqProofs (maxSteps := 300000) (disch := omega) [-getElem?_pos, -getElem?_neg, g1, hr5]
    try (with_reducible refine Run.ret ?_)
    apply zz
    have kp : Keep s1 (we.pushed (.cells [.int .i64 980, .int .i64 1020, .int .i64 1180, .int .i64 1545, .int .i64 1380, .int .i64 1420, .int .i64 1275, .int .i64 1640, .int .i64 1170, .int .i64 1230] none)) := ke.pushed _
    have hlit : SpAt (we.pushed (.cells [.int .i64 980, .int .i64 1020, .int .i64 1180, .int .i64 1545, .int .i64 1380, .int .i64 1420, .int .i64 1275, .int .i64 1640, .int .i64 1170, .int .i64 1230] none)) (.slice (some ⟨we.next, 0, none⟩) 5 5) kL := sl_of_cells (n := 2) (l := kL.map spP) (Nat.lt_succ_self _) (fun y hy => by obtain ⟨p, _, rfl⟩ := List.mem_map.1 hy; rfl) (get_pushed_new _ _)
    have hkv2 : SpAt (we.pushed (.cells [.int .i64 980, .int .i64 1020, .int .i64 1180, .int .i64 1545, .int .i64 1380, .int .i64 1420, .int .i64 1275, .int .i64 1640, .int .i64 1170, .int .i64 1230] none)) kv kL := hkv.keep kp
    refine Run.call ((spans_ev _ _ _ _ _ hkv2 hlit small_kL small_kL (by decide) (by decide)).mono fun v w6 hv => ?_)
    obtain ⟨rfl, k6⟩ := hv
    have k6' := kp.trans k6
    apply Run.by_eq
    · intro self
      conv => lhs; simp -implicitDefEqProofs (maxSteps := 300000) (disch := omega) [-getElem?_pos, -getElem?_neg]
    try (with_reducible refine Run.ret ?_)
    apply zz
    refine Run.call ((Z_ev _).mono fun v w7 hv => ?_)
    obtain ⟨k7, b7, rfl, hb1, hb2, hb3⟩ := hv
    have k7' := k6'.trans k7
    apply Run.by_eq
    · intro self
      conv => lhs; simp -implicitDefEqProofs (maxSteps := 300000) (disch := omega) [-getElem?_pos, -getElem?_neg, g5]
    try (with_reducible refine Run.ret ?_)
    apply zz
    refine Run.call ((hvZ _ _ _ _ (smZ hb2 hb3) (hci.keep k7') (by simp)).mono fun v w8 hv => ?_)
    obtain ⟨rfl, k8⟩ := hv
    have k8' := k7'.trans k8
    clear hb1 hb2 hb3
    rw [hv0]
    apply Run.by_eq
    · intro self
      conv => lhs; simp -implicitDefEqProofs (maxSteps := 300000) (disch := omega) [-getElem?_pos, -getElem?_neg]
    try (with_reducible refine Run.ret ?_)
    apply zz
    refine Run.call ((Z_ev _).mono fun v w9 hv => ?_)
    obtain ⟨k9, b9, rfl, hb1, hb2, hb3⟩ := hv
    have k9' := k8'.trans k9
    apply Run.by_eq
    · intro self
      conv => lhs; simp -implicitDefEqProofs (maxSteps := 300000) (disch := omega) [-getElem?_pos, -getElem?_neg]
    try (with_reducible refine Run.ret ?_)
    apply zz
    have kq : Keep w9 (w9.pushed (.cells [.int .i64 0, .int .i64 2, .int .i64 4] none)) := (Keep.refl _).pushed _
    have h024 : IntsAt (w9.pushed (.cells [.int .i64 0, .int .i64 2, .int .i64 4] none)) (.slice (some ⟨w9.next, 0, none⟩) 3 3) [0, 2, 4] := ints_of_cells (xs := [0, 2, 4]) (Nat.lt_succ_self _) (get_pushed_new _ _)
    refine Run.call ((hvZ _ _ _ _ ((smZ hb2 hb3).keep kq) h024 (by decide)).mono fun v w10 hv => ?_)
    obtain ⟨rfl, k10⟩ := hv
    have k10' := (k9'.trans kq).trans k10
    clear hb1 hb2 hb3
    rw [verZ]
    apply Run.by_eq
    · intro self
      conv => lhs; simp -implicitDefEqProofs (maxSteps := 300000) (disch := omega) [-getElem?_pos, -getElem?_neg]
    try (with_reducible refine Run.ret ?_)
    apply zz
    refine Run.call ((F_ev _).mono fun v w11 hv => ?_)
    obtain ⟨k11, b11, rfl, hb1, hb2, hb3⟩ := hv
    have k11' := k10'.trans k11
    apply Run.by_eq
    · intro self
      conv => lhs; simp -implicitDefEqProofs (maxSteps := 300000) (disch := omega) [-getElem?_pos, -getElem?_neg]
    try (with_reducible refine Run.ret ?_)
    apply zz
    have kq2 : Keep w11 (w11.pushed (.cells [.int .i64 0, .int .i64 2, .int .i64 4] none)) := (Keep.refl _).pushed _
    have h024' : IntsAt (w11.pushed (.cells [.int .i64 0, .int .i64 2, .int .i64 4] none)) (.slice (some ⟨w11.next, 0, none⟩) 3 3) [0, 2, 4] := ints_of_cells (xs := [0, 2, 4]) (Nat.lt_succ_self _) (get_pushed_new _ _)
    refine Run.call ((hvF _ _ _ _ ((smF hb2 hb3).keep kq2) h024' (by decide)).mono fun v w12 hv => ?_)
    obtain ⟨rfl, k12⟩ := hv
    have k12' := (k11'.trans kq2).trans k12
    clear hb1 hb2 hb3
    rw [verFF]
    apply Run.by_eq
    · intro self
      conv => lhs; simp -implicitDefEqProofs (maxSteps := 300000) (disch := omega) [-getElem?_pos, -getElem?_neg]
    try (with_reducible refine Run.ret ?_)
    apply zz
    exact ⟨rfl, by simp [hmk], hk.trans k12', by simp [g7], hpv.keep k12', by simp [g9], by simp [g10], hsv.keep k12', hmv.keep k12', by simp⟩
  clear hmk g1 g2 g4 g5 g6 g7 g8 g9 g10 g11 hk hkv hci hpv hsv hmv hv0 vc
  rintro x f s1 ⟨rfl, hmk, hk, g7, hpv, g9, g10, hsv, hmv, g87⟩
  apply zz
  apply Cd.ite rfl
  · conv => lhs; simp -implicitDefEqProofs (maxSteps := 300000) (disch := omega) [-getElem?_pos, -getElem?_neg, g87]
  all_goals intro c0
  all_goals try (cases c0; done)
  all_goals try simp only [Bool.not_eq_true', Bool.not_eq_false', decide_eq_true_eq, decide_eq_false_iff_not] at c0
  all_goals apply zz
  -- Regret of F
  refine Cd.mono (Q := fun x f1 s1 => x = Ex.normal ∧ f1.marks = [] ∧ Keep s s1 ∧ f1.get 7 = pv ∧ IntsAt s1 pv [1, 2, 3] ∧ f1.get 9 = sv ∧ f1.get 10 = mv ∧ IntsAt s1 sv [2] ∧ IntsAt s1 mv [1, 2, 3] ∧ f1.get 2 = .int .i64 0 ∧ f1.get 12 = .int .i64 250) ?_ ?_
  · apply zz
    refine Cd.ra (h := ?_)
    apply Run.by_eq
    · intro self
      conv => lhs; simp -implicitDefEqProofs (maxSteps := 300000) (disch := omega) [-getElem?_pos, -getElem?_neg]
    try (with_reducible refine Run.ret ?_)
    apply zz
    refine Run.call ((F_ev _).mono fun v w1 hv => ?_)
    obtain ⟨k1, b, rfl, hb1, hb2, hb3⟩ := hv
    apply Run.by_eq
    · intro self
      conv => lhs; simp -implicitDefEqProofs (maxSteps := 300000) (disch := omega) [-getElem?_pos, -getElem?_neg]
    try (with_reducible refine Run.ret ?_)
    apply zz
    refine Run.call ((hgF _ _ (smF hb2 hb3)).mono fun v w2 hv => ?_)
    obtain ⟨k2, rg, e, rfl, hK⟩ := hv
    obtain ⟨rfl, rfl⟩ := reg_F hK
    apply Run.by_eq
    · intro self
      conv => lhs; simp -implicitDefEqProofs (maxSteps := 300000) (disch := omega) [-getElem?_pos, -getElem?_neg]
    try (with_reducible refine Run.ret ?_)
    apply zz
    have k2' := k1.trans k2
    exact ⟨rfl, by simp [hmk], hk.trans k2', by simp [g7], hpv.keep k2', by simp [g9], by simp [g10], hsv.keep k2', hmv.keep k2', by simp, by simp⟩
  clear hmk g7 g9 g10 g87 hk hpv hsv hmv
  rintro x f s1 ⟨rfl, hmk, hk, g7, hpv, g9, g10, hsv, hmv, g2, g12⟩
  apply zz
  -- Cut of F
  refine Cd.mono (Q := fun x f1 s1 => x = Ex.normal ∧ f1.marks = [] ∧ Keep s s1 ∧ f1.get 7 = pv ∧ IntsAt s1 pv [1, 2, 3] ∧ f1.get 9 = sv ∧ f1.get 10 = mv ∧ IntsAt s1 sv [2] ∧ IntsAt s1 mv [1, 2, 3] ∧ f1.get 2 = .int .i64 0 ∧ f1.get 12 = .int .i64 250 ∧ f1.get 13 = .int .i64 2 ∧ f1.get 14 = .int .i64 220 ∧ f1.get 4 = .int .i64 0) ?_ ?_
  · apply zz
    refine Cd.ra (h := ?_)
    apply Run.by_eq
    · intro self
      conv => lhs; simp -implicitDefEqProofs (maxSteps := 300000) (disch := omega) [-getElem?_pos, -getElem?_neg]
    try (with_reducible refine Run.ret ?_)
    apply zz
    refine Run.call ((F_ev _).mono fun v w1 hv => ?_)
    obtain ⟨k1, b, rfl, hb1, hb2, hb3⟩ := hv
    apply Run.by_eq
    · intro self
      conv => lhs; simp -implicitDefEqProofs (maxSteps := 300000) (disch := omega) [-getElem?_pos, -getElem?_neg]
    try (with_reducible refine Run.ret ?_)
    apply zz
    refine Run.call ((huF _ _ (smF hb2 hb3)).mono fun v w2 hv => ?_)
    obtain ⟨k2, cw, cx, e, rfl, hK⟩ := hv
    obtain ⟨rfl, hcw, hcx⟩ := hK.F
    have e1 : bestI (RF 5 0 2000 ssF) ((5 : Int).toNat - 1) = 2 := cutF1
    rw [e1] at hcw hcx
    rw [cutF2] at hcx
    subst hcw hcx
    apply Run.by_eq
    · intro self
      conv => lhs; simp -implicitDefEqProofs (maxSteps := 300000) (disch := omega) [-getElem?_pos, -getElem?_neg]
    try (with_reducible refine Run.ret ?_)
    apply zz
    have k2' := k1.trans k2
    exact ⟨rfl, by simp [hmk], hk.trans k2', by simp [g7], hpv.keep k2', by simp [g9], by simp [g10], hsv.keep k2', hmv.keep k2', by simp [g2], by simp [g12], by simp, by simp, by simp⟩
  clear hmk g7 g9 g10 g2 g12 hk hpv hsv hmv
  rintro x f s1 ⟨rfl, hmk, hk, g7, hpv, g9, g10, hsv, hmv, g2, g12, g13, g14, g4⟩
  apply zz
  refine Cd.ra (h := ?_)
  apply Run.by_eq
  · intro self
    conv => lhs; simp -implicitDefEqProofs (maxSteps := 300000) (disch := omega) [-getElem?_pos, -getElem?_neg, g2, g4, g12, g13, g14, g7]
  try (with_reducible refine Run.ret ?_)
  apply zz
  have kp1 : Keep s1 (s1.pushed (.cells [.int .i64 1, .int .i64 2, .int .i64 3] none)) := (Keep.refl _).pushed _
  refine Run.call ((numbers_ev _ _ _ _ _ (hpv.keep kp1) (ints_of_cells (xs := [1, 2, 3]) (Nat.lt_succ_self _) (get_pushed_new _ _)) (by decide) (by decide)).mono fun v w1 hv => ?_)
  obtain ⟨rfl, k1⟩ := hv
  have k1' := kp1.trans k1
  apply Run.by_eq
  · intro self
    conv => lhs; simp -implicitDefEqProofs (maxSteps := 300000) (disch := omega) [-getElem?_pos, -getElem?_neg, g9]
  try (with_reducible refine Run.ret ?_)
  apply zz
  have kp2 : Keep w1 (w1.pushed (.cells [.int .i64 2] none)) := (Keep.refl _).pushed _
  refine Run.call ((numbers_ev _ _ _ _ _ (hsv.keep (k1'.trans kp2)) (ints_of_cells (xs := [2]) (Nat.lt_succ_self _) (get_pushed_new _ _)) (by decide) (by decide)).mono fun v w2 hv => ?_)
  obtain ⟨rfl, k2⟩ := hv
  have k2' := (k1'.trans kp2).trans k2
  apply Run.by_eq
  · intro self
    conv => lhs; simp -implicitDefEqProofs (maxSteps := 300000) (disch := omega) [-getElem?_pos, -getElem?_neg, g10]
  try (with_reducible refine Run.ret ?_)
  apply zz
  have kp3 : Keep w2 (w2.pushed (.cells [.int .i64 1, .int .i64 2, .int .i64 3] none)) := (Keep.refl _).pushed _
  refine Run.call ((numbers_ev _ _ _ _ _ (hmv.keep (k2'.trans kp3)) (ints_of_cells (xs := [1, 2, 3]) (Nat.lt_succ_self _) (get_pushed_new _ _)) (by decide) (by decide)).mono fun v w3 hv => ?_)
  obtain ⟨rfl, k3⟩ := hv
  apply Run.by_eq
  · intro self
    conv => lhs; simp -implicitDefEqProofs (maxSteps := 300000) (disch := omega) [-getElem?_pos, -getElem?_neg]
  try (with_reducible refine Run.ret ?_)
  apply zz
  apply Leave.mk (by first | exact .inl rfl | exact .inr rfl) (by simp only [Fr.marks_put, fr0_marks, hmk])
  · conv => lhs; simp -implicitDefEqProofs (disch := omega) [Try.results13, hmk]
  exact ⟨rfl, hk.trans ((k2'.trans kp3).trans k3)⟩
end Go.Proofs.Ytnhokodcmeekhaa
namespace Go.Proofs.Ytnhokodcmeekhaa
open Go Kern
/-! The law of fields -/
theorem fl_bd {x : Frac} (h0 : 0 ≤ x.o) (h : Mid 3600000 30 x) : In62 (flF x) := by
  unfold Mid at h
  have h1 : 0 ≤ x.o / x.u := Int.ediv_nonneg h0 (by omega)
  have h2 : x.o / x.u ≤ x.o := Int.ediv_le_self _ h0
  unfold In62 flF; omega
theorem ce_bd {x : Frac} (h0 : 0 ≤ x.o) (h : Mid 3600000 30 x) : In62 (ceF x) := by
  unfold Mid at h
  rw [← ce_up h.2.1]
  have h1 : 0 ≤ (x.o + x.u - 1) / x.u := Int.ediv_nonneg (by omega) (by omega)
  have h2 : (x.o + x.u - 1) / x.u ≤ x.o + x.u - 1 := Int.ediv_le_self _ (by omega)
  unfold In62; omega
def knownL (m : Nat) (lo hi : Int) (ss : List SampD) : List (Int × Int) := (List.range m).map fun w => (flF (lowF m (bndN m lo hi ss).1 w), ceF (upF m (bndN m lo hi ss).1 (bndN m lo hi ss).2 w))
theorem knownL_rows (m : Nat) (lo hi : Int) (ss : List SampD) : (List.range m).map (knownRow m lo hi ss) = (knownL m lo hi ss).map spP := by
  unfold knownL; rw [List.map_map]; rfl
/-- What both answers of Known have in common. -/
theorem KnownA.both {n lo hi : Int} {ss : List SampD} {w w' : Value} {e e' : Int} {s s' : St} (h : KnownA n lo hi ss w e s) (h' : KnownA n lo hi ss w' e' s') : e' = e ∧ ∃ l, SpAt s w l ∧ SpAt s' w' l ∧ SmallP l ∧ l.length ≤ 1000 := by
  rcases h with ⟨h1, rfl, rfl⟩ | ⟨h1, rfl, rfl, h4⟩ | ⟨h1, rfl, h3, h4⟩
  · rcases h' with ⟨_, rfl, rfl⟩ | ⟨k1, _⟩ | ⟨k1, _⟩
    · exact ⟨rfl, [], .nil 0, .nil 0, (fun x hx => by cases hx), by simp⟩
    · exact absurd k1 h1
    · exact absurd k1 h1
  · rcases h' with ⟨k1, _⟩ | ⟨_, rfl, rfl, _⟩ | ⟨_, _, _, k4⟩
    · exact absurd h1 k1
    · exact ⟨rfl, [], .nil 0, .nil 0, (fun x hx => by cases hx), by simp⟩
    · obtain ⟨i, j, k, hi, hj, hk, h⟩ := h4
      rw [k4 i j k hi hj hk] at h; cases h
  · rcases h' with ⟨k1, _⟩ | ⟨_, _, _, i, j, k, hi, hj, hk, h⟩ | ⟨_, rfl, k3, _⟩
    · exact absurd h1 k1
    · rw [h4 i j k hi hj hk] at h; cases h
    · rw [knownL_rows] at h3 k3
      have hok := (fieldErr_ok h1).1
      obtain ⟨m, rfl⟩ : ∃ m : Nat, n = m := ⟨n.toNat, by omega⟩
      simp only [Int.toNat_natCast] at h3 k3 h4
      refine ⟨rfl, knownL m lo hi ss, h3, k3, fun x hx => ?_, by simp [knownL]; omega⟩
      obtain ⟨w, hw, rfl⟩ := List.mem_map.1 hx
      obtain ⟨⟨v1, v2⟩, v3, v4⟩ := vals_ok h1 h4 (w := w) (by simpa using hw)
      exact ⟨fl_bd v1 v2, ce_bd v3 v4⟩
end Go.Proofs.Ytnhokodcmeekhaa
namespace Go.Proofs.Ytnhokodcmeekhaa
open Go Kern
/-! The law of peaks -/
theorem Ans.both {n lo hi : Int} {ss : List SampD} {e e' : Int} {bad good bad' good' : Prop} (h : Ans n lo hi ss e bad good) (h' : Ans n lo hi ss e' bad' good') : e' = e ∧ ((bad ∧ bad') ∨ (good ∧ good')) := by
  rcases h with ⟨h1, rfl, h3⟩ | ⟨h1, rfl, h3, h4⟩ | ⟨h1, rfl, h3, h4⟩
  · rcases h' with ⟨_, rfl, k3⟩ | ⟨k1, _⟩ | ⟨k1, _⟩
    · exact ⟨rfl, .inl ⟨h3, k3⟩⟩
    · exact absurd k1 h1
    · exact absurd k1 h1
  · rcases h' with ⟨k1, _⟩ | ⟨_, rfl, k3, _⟩ | ⟨_, _, _, k4⟩
    · exact absurd h1 k1
    · exact ⟨rfl, .inl ⟨h3, k3⟩⟩
    · obtain ⟨i, j, k, hi, hj, hk, h⟩ := h4
      rw [k4 i j k hi hj hk] at h; cases h
  · rcases h' with ⟨k1, _⟩ | ⟨_, _, _, i, j, k, hi, hj, hk, h⟩ | ⟨_, rfl, k3, _⟩
    · exact absurd h1 k1
    · rw [h4 i j k hi hj hk] at h; cases h
    · exact ⟨rfl, .inr ⟨h3, k3⟩⟩
end Go.Proofs.Ytnhokodcmeekhaa
namespace Go.Proofs.Ytnhokodcmeekhaa
open Go Kern
/-! Crops by numbers -/
structure CropD where
  weeks : Int
  first : Int
  step : Int
  falls : List Int
  r0 : Int
  r1 : Int
  samples : List (Int × Int × Int)
def Byte (x : Int) : Prop := 0 ≤ x ∧ x ≤ 255
structure CropD.Ok (c : CropD) : Prop where
  weeks : Byte c.weeks
  first : Byte c.first
  step : Byte c.step
  falls : ∀ x ∈ c.falls, Byte x
  r0 : Byte c.r0
  r1 : Byte c.r1
  samples : ∀ x ∈ c.samples, Byte x.1 ∧ Byte x.2.1 ∧ Byte x.2.2
def u8C (x : Int) : List Value := [.int .u8 x]
def u8T (x : Int × Int × Int) : List Value := [.int .u8 x.1, .int .u8 x.2.1, .int .u8 x.2.2]
def cropV (c : CropD) (fv sv : Value) : Value := .agg #[.int .u8 c.weeks, .int .u8 c.first, .int .u8 c.step, fv, .int .u8 c.r0, .int .u8 c.r1, sv]
namespace CropD
def n (c : CropD) : Nat := 1 + (c.weeks % 12).toNat
def fall (c : CropD) (k : Nat) : Int := if k < c.falls.length then c.falls.getD k 0 / 2 else 0
def stp (c : CropD) : Nat → Int
  | 0 => 2 * c.step
  | k + 1 => c.stp k - c.fall k
def sweet (c : CropD) : Nat → Int
  | 0 => 8000 + 20 * c.first
  | k + 1 => c.sweet k + c.stp k
def lst (c : CropD) (k : Nat) : Int := ((List.range k).map c.sweet).foldl min (c.sweet 0)
def mst (c : CropD) (k : Nat) : Int := ((List.range k).map c.sweet).foldl max (c.sweet 0)
def lo (c : CropD) : Int := max 0 (c.lst c.n - 10 * c.r0)
def hi (c : CropD) : Int := c.mst c.n + 10 * c.r1
/-- What a sample of the numbers is. -/
def samp (c : CropD) (x : Int × Int × Int) : SampD := ⟨x.1 % c.n, max 0 (c.sweet (x.1 % c.n).toNat - x.2.1 + x.2.2 % (2 * x.2.1 + 1)), x.2.1⟩
def ss (c : CropD) : List SampD := (c.samples.take 15).map c.samp
end CropD
theorem n_bd (c : CropD) : 1 ≤ c.n ∧ c.n ≤ 12 := by unfold CropD.n; omega
theorem fall_bd {c : CropD} (h : c.Ok) (k : Nat) : 0 ≤ c.fall k ∧ c.fall k ≤ 127 := by
  unfold CropD.fall
  split
  · rename_i hk
    have := h.falls (c.falls.getD k 0) (by
      rw [List.getD_eq_getElem?_getD, List.getElem?_eq_getElem hk]; simp)
    unfold Byte at this; omega
  · omega
theorem stp_bd {c : CropD} (h : c.Ok) : ∀ k : Nat, -(127 * (k : Int)) ≤ c.stp k ∧ c.stp k ≤ 510
  | 0 => by have := h.step; unfold Byte at this; unfold CropD.stp; omega
  | k + 1 => by
    have h1 := stp_bd h k
    have h2 := fall_bd h k
    unfold CropD.stp; omega
theorem sweet_bd {c : CropD} (h : c.Ok) : ∀ k : Nat, k ≤ 12 → 16000 - 127 * ((k : Int) * ((k : Int) - 1)) ≤ 2 * c.sweet k ∧ c.sweet k ≤ 13100 + 510 * (k : Int)
  | 0, _ => by have := h.first; unfold Byte at this; unfold CropD.sweet; omega
  | k + 1, hk => by
    have h1 := sweet_bd h k (by omega)
    have h2 := stp_bd h k
    unfold CropD.sweet
    have e : ((k + 1 : Nat) : Int) * (((k + 1 : Nat) : Int) - 1) = (k : Int) * ((k : Int) - 1) + 2 * k := by grind
    rw [e]
    omega
theorem sweet_nn {c : CropD} (h : c.Ok) {k : Nat} (hk : k < 12) : 1000 ≤ c.sweet k ∧ c.sweet k ≤ 18710 := by
  have h1 := sweet_bd h k (by omega)
  have h2 : (k : Int) * ((k : Int) - 1) ≤ 110 := by
    have : (k : Int) * ((k : Int) - 1) ≤ 11 * ((k : Int) - 1) ∨ k = 0 := by
      by_cases h0 : k = 0
      · exact .inr h0
      · exact .inl (Int.mul_le_mul_of_nonneg_right (by omega) (by omega))
    rcases this with h | rfl
    · omega
    · simp
  omega
theorem foldmin_le : ∀ (l : List Int) (a : Int), l.foldl min a ≤ a ∧ ∀ x ∈ l, l.foldl min a ≤ x
  | [], a => ⟨Int.le_refl _, fun x h => by cases h⟩
  | y :: r, a => by
    obtain ⟨h1, h2⟩ := foldmin_le r (min a y)
    refine ⟨by rw [List.foldl_cons]; omega, fun x hx => ?_⟩
    rw [List.foldl_cons]
    cases hx with
    | head => omega
    | tail _ hx => exact h2 x hx
theorem foldmax_ge : ∀ (l : List Int) (a : Int), a ≤ l.foldl max a ∧ ∀ x ∈ l, x ≤ l.foldl max a
  | [], a => ⟨Int.le_refl _, fun x h => by cases h⟩
  | y :: r, a => by
    obtain ⟨h1, h2⟩ := foldmax_ge r (max a y)
    refine ⟨by rw [List.foldl_cons]; omega, fun x hx => ?_⟩
    rw [List.foldl_cons]
    cases hx with
    | head => omega
    | tail _ hx => exact h2 x hx
theorem foldmm_mem (f : Int → Int → Int) (hf : ∀ a b, f a b = a ∨ f a b = b) : ∀ (l : List Int) (a : Int), l.foldl f a = a ∨ l.foldl f a ∈ l
  | [], a => .inl rfl
  | y :: r, a => by
    rw [List.foldl_cons]
    rcases foldmm_mem f hf r (f a y) with h | h
    · rw [h]
      rcases hf a y with h | h
      · rw [h]; exact .inl rfl
      · rw [h]; exact .inr (.head _)
    · exact .inr (.tail _ h)
theorem lst_mst {c : CropD} (h : c.Ok) {k : Nat} (hk : k ≤ 12) : (1000 ≤ c.lst k ∧ c.lst k ≤ 18710) ∧ 1000 ≤ c.mst k ∧ c.mst k ≤ 18710 := by
  have key : ∀ x, x = c.sweet 0 ∨ x ∈ (List.range k).map c.sweet → 1000 ≤ x ∧ x ≤ 18710 := fun x hx => by
    rcases hx with rfl | hx
    · exact sweet_nn h (by omega)
    · obtain ⟨j, hj, rfl⟩ := List.mem_map.1 hx
      exact sweet_nn h (by have : j < k := by simpa using hj
                           omega)
  exact ⟨key _ (foldmm_mem min (fun a b => by omega) _ _), key _ (foldmm_mem max (fun a b => by omega) _ _)⟩
/-- The sweetness lies between both ends of the range. -/
theorem sweet_range {c : CropD} (h : c.Ok) {w : Nat} (hw : w < c.n) : c.lo ≤ c.sweet w ∧ c.sweet w ≤ c.hi := by
  have hn := n_bd c
  have hr0 := h.r0
  have hr1 := h.r1
  unfold Byte at hr0 hr1
  have hs := sweet_nn h (k := w) (by omega)
  have h1 := (foldmin_le ((List.range c.n).map c.sweet) (c.sweet 0)).2 (c.sweet w) (List.mem_map_of_mem (by simpa using hw))
  have h2 := (foldmax_ge ((List.range c.n).map c.sweet) (c.sweet 0)).2 (c.sweet w) (List.mem_map_of_mem (by simpa using hw))
  unfold CropD.lo CropD.hi CropD.lst CropD.mst
  omega
theorem samp_ok {c : CropD} (h : c.Ok) {x : Int × Int × Int} (hx : Byte x.1 ∧ Byte x.2.1 ∧ Byte x.2.2) : (0 ≤ (c.samp x).week ∧ (c.samp x).week < c.n) ∧ (0 ≤ (c.samp x).val ∧ (c.samp x).val ≤ 20000) ∧ (0 ≤ (c.samp x).off ∧ (c.samp x).off ≤ 255) ∧ (c.samp x).val - (c.samp x).off ≤ c.sweet (c.samp x).week.toNat ∧ c.sweet (c.samp x).week.toNat ≤ (c.samp x).val + (c.samp x).off := by
  obtain ⟨h1, h2, h3⟩ := hx
  unfold Byte at h1 h2 h3
  have hn := n_bd c
  have hm1 := Int.emod_nonneg x.1 (show (c.n : Int) ≠ 0 by omega)
  have hm2 := Int.emod_lt_of_pos x.1 (show (0 : Int) < c.n by omega)
  have hm3 := Int.emod_nonneg x.2.2 (show 2 * x.2.1 + 1 ≠ 0 by omega)
  have hm4 := Int.emod_lt_of_pos x.2.2 (show 0 < 2 * x.2.1 + 1 by omega)
  have hs := sweet_nn h (k := (x.1 % c.n).toNat) (by omega)
  unfold CropD.samp
  simp only []
  omega
theorem hi_bd {c : CropD} (h : c.Ok) : (0 ≤ c.lo ∧ c.lo ≤ c.hi) ∧ c.hi ≤ 30000 := by
  have hn := n_bd c
  have h1 := lst_mst h (k := c.n) (by omega)
  have hr0 := h.r0
  have hr1 := h.r1
  unfold Byte at hr0 hr1
  have h3 := sweet_range h (w := 0) (by omega)
  have h4 := sweet_nn h (k := 0) (by omega)
  unfold CropD.hi at h3 ⊢
  refine ⟨⟨?_, by omega⟩, by omega⟩
  unfold CropD.lo; omega
/-- A crop's field is valid. -/
theorem crop_valid {c : CropD} (h : c.Ok) (ss : List SampD) (hl : ss.length ≤ 100) (hss : ∀ x ∈ ss, (0 ≤ x.week ∧ x.week < c.n) ∧ (0 ≤ x.val ∧ x.val ≤ 30000) ∧ 0 ≤ x.off ∧ x.off ≤ 30000) : fieldErr c.n c.lo c.hi ss = 0 := by
  have hn := n_bd c
  obtain ⟨⟨h1, h2⟩, h3⟩ := hi_bd h
  have hf : ∀ x ∈ ss, sampErr c.n x = 0 := fun x hx => by
    obtain ⟨⟨a1, a2⟩, ⟨b1, b2⟩, c1, c2⟩ := hss x hx
    unfold sampErr weekB sweetB
    simp [a1, a2, b1, b2, c1, c2]
  unfold fieldErr
  rw [if_neg (by omega), if_neg (by simp [sweetB]; omega), if_neg (by omega)]
  exact firstS_zero fun j x hj => hf x (List.mem_of_getElem? hj)
end Go.Proofs.Ytnhokodcmeekhaa
namespace Go.Proofs.Ytnhokodcmeekhaa
open Go Kern
/-! Rows in a block that may not grow in place -/
theorem appV_fix {s : St} {size b b2 n : Nat} {old new : List Value} {g : Option Nat} (h1 : s.heap.get b = some (.cells old none)) (hb : s.heap.get b2 = some (.cells new g)) (hn : new.length = size) (ho : new.all oneV = true) (hl : old.length = n * size) (hm : n + 1 ≤ 1048576) :
    appV size (.slice (some ⟨b, 0, none⟩) n n) (.slice (some ⟨b2, 0, none⟩) 1 1) s = some (.slice (some ⟨s.next, 0, none⟩) (n + 1) (n + 1), s.pushed (.cells (old ++ new) (some size))) := by
  subst hn
  show ob (ob (ob (s.heap.get b2) cellsOf) fun c => ob (takeL (1 * new.length) (dropL 0 c.1)) fun l => gd (l.all oneV) (some l)) _ = _
  rw [hb]
  show ob (ob (takeL (1 * new.length) new) fun l => gd (l.all oneV) (some l)) _ = _
  rw [Nat.one_mul, takeL_all]
  show ob (gd (new.all oneV) (some new)) _ = _
  rw [ho]
  show gd (Nat.ble (n + 1) 1048576) (bt (Nat.ble (n + 1) n) _ (ob (ob (s.heap.get b) cellsOf) fun c => ob (takeL (n * new.length) (dropL 0 c.1)) fun old => ob (killF s new.length c.2 b) fun s =>
      exNew s (.cells (old ++ new) (some new.length)) fun i => .slice (some ⟨i, 0, none⟩) (n + 1) (n + 1))) = _
  have e1 : Nat.ble (n + 1) 1048576 = true := by simpa using hm
  have e2 : Nat.ble (n + 1) n = false := by
    cases h : Nat.ble (n + 1) n with
    | false => rfl
    | true => have := Nat.le_of_ble_eq_true h; omega
  rw [e1, e2, h1]
  show ob (takeL (n * new.length) old) (fun old => ob (some s) fun s => exNew s (.cells (old ++ new) (some new.length)) fun i => .slice (some ⟨i, 0, none⟩) (n + 1) (n + 1)) = _
  rw [← hl, takeL_all]; rfl
/-- Some rows, in a block of their own. -/
def OwnN (n N : Nat) (s : St) (w : Value) (l : List (List Value)) : Prop :=
  ∃ b g, w = .slice (some ⟨b, 0, none⟩) l.length l.length ∧ l ≠ [] ∧ N ≤ b ∧ b < s.next ∧ s.heap.get b = some (.cells l.flatten g) ∧ (g = none ∨ g = some n)
theorem OwnN.keep {n N : Nat} {s s' : St} {w : Value} {l : List (List Value)} (h : OwnN n N s w l) (h1 : s.next ≤ s'.next) (h2 : ∀ i, N ≤ i → i < s.next → s'.heap.get i = s.heap.get i) : OwnN n N s' w l := by
  obtain ⟨b, g, k1, k2, k3, k4, k5, k6⟩ := h
  exact ⟨b, g, k1, k2, k3, by omega, (h2 b k3 k4).trans k5, k6⟩
theorem OwnN.sl {n N : Nat} {s : St} {w : Value} {l : List (List Value)} (h : OwnN n N s w l) (hn : ∀ x ∈ l, x.length = n) : SlAt n s w l := by
  obtain ⟨b, g, rfl, k2, k3, k4, k5, k6⟩ := h
  exact sl_of_cells k4 hn k5
theorem app_n {n N b2 : Nat} {s : St} {w : Value} {l : List (List Value)} {x : List Value} {g : Option Nat} (hO : OwnN n N s w l) (hn : ∀ y ∈ l, y.length = n) (hx : x.length = n) (ho : onesL x = true) (hb2 : s.heap.get b2 = some (.cells x g)) (hN : N ≤ s.next) (hl : l.length ≤ 1000000) :
    ∃ s', appV n w (.slice (some ⟨b2, 0, none⟩) 1 1) s = some (.slice (some ⟨s.next, 0, none⟩) (l.length + 1) (l.length + 1), s') ∧ s'.next = s.next + 1 ∧ (∀ i, i < N → s'.heap.get i = s.heap.get i) ∧ OwnN n N s' (.slice (some ⟨s.next, 0, none⟩) (l.length + 1) (l.length + 1)) (l ++ [x]) := by
  obtain ⟨b, gg, rfl, hne, h1, h2, h3, h4⟩ := hO
  rcases h4 with rfl | rfl
  · refine ⟨_, appV_fix h3 hb2 hx (by rw [onesL_eq]; exact ho) (flatlen hn) (by omega), rfl, fun i hi => get_pushed_old _ _ _ (by omega), s.next, some n, by simp, by simp, hN, Nat.lt_succ_self _, ?_, .inr rfl⟩
    rw [get_pushed_new]; simp
  · refine ⟨_, appV_more h3 hb2 hx (by rw [onesL_eq]; exact ho) (flatlen hn) (by omega), rfl, fun i hi => ?_, s.next, some n, by simp, by simp, hN, Nat.lt_succ_self _, ?_, .inr rfl⟩
    · rw [get_pushed_old _ _ _ (by show i ≠ s.next; omega), get_upded_other _ _ _ _ (by omega)]
    · show ((s.upded b .dead).pushed _).heap.get (s.upded b .dead).next = _
      rw [get_pushed_new]; simp
theorem iC_flat : ∀ (l : List Int), (iC l).flatten = l.map (Value.int .i64)
  | [] => rfl
  | x :: r => by
    show [Value.int .i64 x] ++ (iC r).flatten = Value.int .i64 x :: r.map (Value.int .i64)
    rw [iC_flat r]; rfl
theorem swL_get {c : CropD} {k j : Nat} (h : j < k) : ((iC ((List.range k).map c.sweet)).flatten)[j]? = some (.int .i64 (c.sweet j)) := by
  rw [iC_flat, List.getElem?_map, List.getElem?_map, List.getElem?_range h]; rfl
@[simp] theorem conv_5_3 {self : Self} {f : Fr} {s : St} {x : Operand} : actO TT self (.convert 5 3 x) f s = pureR (vConv .i64 x f.eval s.heap) s := o_convert_3 (by rw [und_5]; rfl)
theorem OwnG.less {n N M : Nat} {s : St} {w : Value} {l : List (List Value)} (h : OwnG n N s w l) (hM : M ≤ N) : OwnG n M s w l := by
  rcases h with h | ⟨b, h1, h2, h3, h4⟩
  · exact .inl h
  · exact .inr ⟨b, h1, h2, by omega, h4⟩
theorem OwnG.b {n N : Nat} {s : St} {w : Value} {l : List (List Value)} (h : OwnG n N s w l) : ∃ b, OwnB n N s w l b := by
  rcases h with h | ⟨b, h⟩
  · exact ⟨none, .inl ⟨rfl, h⟩⟩
  · exact ⟨some b, .inr ⟨b, rfl, h⟩⟩
@[simp] theorem newObj_a82 {f : Fr} : Kern.newObj TT (.alloc 82) f = some (.cells [.int .i64 0, .int .i64 0, .int .i64 0] none) := newObj_alloc 82 zero_82
set_option maxRecDepth 100000 in
set_option maxHeartbeats 4000000 in
theorem made_ev (c : CropD) (hc : c.Ok) (fv sv : Value) (s : St) (hf : SlAt 1 s fv (c.falls.map u8C)) (hs : SlAt 3 s sv (c.samples.map u8T)) :
    Ev TT 33 [cropV c fv sv] s fun r s' => Keep s s' ∧ ∃ q sw, r = .tuple #[fieldV c.n c.lo c.hi q, sw] ∧ OwnG 3 s.next s' q (c.ss.map SampD.cs) ∧ IntsAt s' sw ((List.range c.n).map c.sweet) := by
  obtain ⟨af, cf, rfl⟩ := hf.shape
  obtain ⟨az, cs', rfl⟩ := hs.shape
  rw [List.length_map] at hf hs ⊢
  rw [List.length_map]
  have hn := n_bd c
  have hnW : c.weeks % 12 = (c.n : Int) - 1 := by unfold CropD.n; omega
  have h_w := hc.weeks
  have h_f := hc.first
  have h_s := hc.step
  unfold Byte at h_w h_f h_s
  have hrem := intOp_rem .i64 c.weeks 12 h_w.1 (by omega)
  rw [hnW] at hrem
  have hn1 : (1 : Int) + ((c.n : Int) - 1) = c.n := by omega
  have hs0 : 8000 + 20 * c.first = c.sweet 0 := rfl
  have ht0 : 2 * c.step = c.stp 0 := rfl
  have hswb := fun k (hk : k < 12) => sweet_nn hc hk
  have hstb := fun k => stp_bd hc k
  unfold cropV
  refine Ev.intro (fn := Try.f33) rfl (by kernel_rfl) rfl rfl ?_
  apply zz
  refine Cd.ra (h := ?_)
  apply Run.by_eq
  · intro self
    conv => lhs; simp -implicitDefEqProofs (maxSteps := 300000) (disch := omega) [-getElem?_pos, -getElem?_neg]
  try (with_reducible refine Run.ret ?_)
  apply zz
  refine Cd.ra (h := ?_)
  apply Run.by_eq
  · intro self
    conv => lhs; simp -implicitDefEqProofs (maxSteps := 300000) (disch := omega) [-getElem?_pos, -getElem?_neg, hrem, hn1]
  try (with_reducible refine Run.ret ?_)
  apply zz
  refine Cd.ra (h := ?_)
  apply Run.by_eq
  · intro self
    conv => lhs; simp -implicitDefEqProofs (maxSteps := 300000) (disch := omega) [-getElem?_pos, -getElem?_neg, hs0]
  try (with_reducible refine Run.ret ?_)
  apply zz
  refine Cd.ra (h := ?_)
  apply Run.by_eq
  · intro self
    conv => lhs; simp -implicitDefEqProofs (maxSteps := 300000) (disch := omega) [-getElem?_pos, -getElem?_neg, ht0]
  try (with_reducible refine Run.ret ?_)
  apply zz
  refine Cd.ra (h := ?_)
  apply Run.by_eq
  · intro self
    conv => lhs; simp -implicitDefEqProofs (maxSteps := 300000) (disch := omega) [-getElem?_pos, -getElem?_neg]
  try (with_reducible refine Run.ret ?_)
  apply zz
  have hS0 := hswb 0 (by omega)
  refine Cd.mono (Q := fun x f2 s2 => x = Ex.exit 0 ∧ f2.marks = [] ∧ f2.get 1 = .pointer (some ⟨s.next, 0, none⟩) ∧ f2.get 2 = .pointer (some ⟨s.next + 1, 0, none⟩) ∧ f2.get 4 = .int .i64 c.n ∧ Keep s s2 ∧ s.next + 1 + 1 ≤ s2.next ∧ s2.heap.get s.next = some (.cells [.int .u8 c.weeks, .int .u8 c.first, .int .u8 c.step, .slice af c.falls.length cf, .int .u8 c.r0, .int .u8 c.r1, .slice az c.samples.length cs'] none) ∧ s2.heap.get (s.next + 1) = some (.cells [.int .i64 0, .int .i64 0, .int .i64 0, .slice none 0 0] none) ∧ OwnN 1 (s.next + 1 + 1) s2 (f2.get 5) (iC ((List.range c.n).map c.sweet))) (Cd.inv (fun z f2 s2 => ∃ k : Nat, k + 1 ≤ c.n ∧ z = c.n - (k + 1) ∧ f2.marks = [] ∧ f2.get 1 = .pointer (some ⟨s.next, 0, none⟩) ∧ f2.get 2 = .pointer (some ⟨s.next + 1, 0, none⟩) ∧ f2.get 4 = .int .i64 c.n ∧ f2.get 6 = .int .i64 (c.stp k) ∧ f2.get 7 = .int .i64 (k + 1 : Nat) ∧ Keep s s2 ∧ s.next + 1 + 1 ≤ s2.next ∧ s2.heap.get s.next = some (.cells [.int .u8 c.weeks, .int .u8 c.first, .int .u8 c.step, .slice af c.falls.length cf, .int .u8 c.r0, .int .u8 c.r1, .slice az c.samples.length cs'] none) ∧ s2.heap.get (s.next + 1) = some (.cells [.int .i64 0, .int .i64 0, .int .i64 0, .slice none 0 0] none) ∧ OwnN 1 (s.next + 1 + 1) s2 (f2.get 5) (iC ((List.range (k + 1)).map c.sweet))) (c.n - 1) ?_ ?_) ?_
  · refine ⟨0, by omega, rfl, by simp, by simp, by simp, by simp, by simp, by simp, ⟨by (try simp only [pushed_next', upded_next']); omega, fun i hi => by simp -implicitDefEqProofs (disch := omega) []⟩, by simp, by simp -implicitDefEqProofs (disch := omega), by simp -implicitDefEqProofs (disch := omega), s.next + 1 + 1, none, by simp, by simp, by omega, by simp, ?_, .inl rfl⟩
    show _ = some (AObj.cells [.int .i64 (c.sweet 0)] none)
    simp -implicitDefEqProofs (disch := omega)
  · rintro z f s1 ⟨k, hk, rfl, hm, g1, g2, g4, g6, g7, hkp, hnx, hg0, hg1, hO⟩
    have hkpa := hkp.1
    have hkpb := hkp.2
    have hk1 : ((k + 1 : Nat) : Int) - 1 = (k : Int) := by omega
    have hSk := hswb k (by omega)
    have hTk := hstb k
    by_cases hlt : k + 1 < c.n
    · have hSk1 := hswb (k + 1) (by omega)
      have hTk1 := hstb (k + 1)
      have hadd : c.sweet k + c.stp k = c.sweet (k + 1) := rfl
      have hsub : c.stp k - c.fall k = c.stp (k + 1) := rfl
      have hrows := iC_len ((List.range (k + 1)).map c.sweet)
      have hrl : (iC ((List.range (k + 1)).map c.sweet)).length = k + 1 := by simp
      have hrn : iC ((List.range (k + 1 + 1)).map c.sweet) = iC ((List.range (k + 1)).map c.sweet) ++ [[.int .i64 (c.sweet (k + 1))]] := by rw [List.range_succ, List.map_append]; exact iC_snoc _ _
      have hget := swL_get (c := c) (k := k + 1) (j := k) (by omega)
      obtain ⟨b, g, e5, _, hb1, hb2, hb3, hb4⟩ := id hO
      rw [hrl] at e5
      have kx2 : Keep s1 (s1.pushed (.cells [.int .i64 (c.sweet (k + 1))] none)) := (Keep.refl _).pushed _
      obtain ⟨s4, happ, hn4, hk4, hO4⟩ := app_n (n := 1) (b2 := s1.next) (x := [.int .i64 (c.sweet (k + 1))]) (g := none) (hO.keep (by simp) fun i h1 h2 => kx2.2 i h2) hrows rfl rfl (get_pushed_new _ _) (by simp only [pushed_next']; omega) (by omega)
      rw [e5] at happ
      simp only [pushed_next', hrl] at happ hn4 hO4
      generalize hrw : (iC ((List.range (k + 1)).map c.sweet)).flatten = cells at hb3 hget
      generalize hK : k + 1 = k1 at *
      have hlt' : (k1 : Int) < c.n := by omega
      have hkk : k < k1 := by omega
      apply zz
      refine Cd.ra (h := ?_)
      apply Run.by_eq
      · intro self
        conv => lhs; simp -implicitDefEqProofs (maxSteps := 300000) (disch := omega) [-getElem?_pos, -getElem?_neg, g7, g4, hlt']
      try (with_reducible refine Run.ret ?_)
      apply zz
      apply Cd.ite rfl
      · conv => lhs; simp -implicitDefEqProofs (maxSteps := 300000) (disch := omega) [-getElem?_pos, -getElem?_neg]
      all_goals intro c0
      all_goals try (cases c0; done)
      all_goals try simp only [Bool.not_eq_true', Bool.not_eq_false', decide_eq_true_eq, decide_eq_false_iff_not] at c0
      all_goals apply zz
      apply zz
      refine Cd.ra (h := ?_)
      apply Run.by_eq
      · intro self
        conv => lhs; simp -implicitDefEqProofs (maxSteps := 300000) (disch := omega) [-getElem?_pos, -getElem?_neg, e5, g6, g7, hk1, hkk, hb3, hget, hadd, happ]
      try (with_reducible refine Run.ret ?_)
      apply zz
      have q0 : s4.heap.get s.next = _ := (hk4 _ (by omega)).trans ((kx2.2 _ (by omega)).trans hg0)
      have q1 : s4.heap.get (s.next + 1) = _ := (hk4 _ (by omega)).trans ((kx2.2 _ (by omega)).trans hg1)
      have kq : Keep s s4 := ⟨by omega, fun i hi => (hk4 i (by omega)).trans ((kx2.2 i (by omega)).trans (hkpb i hi))⟩
      by_cases hfl : k1 ≤ c.falls.length
      · have hfl' : (k1 : Int) ≤ c.falls.length := by omega
        obtain ⟨y, hy⟩ : ∃ y, c.falls[k]? = some y := ⟨c.falls[k]'(by omega), by simp⟩
        have hyb := hc.falls y (List.mem_of_getElem? hy)
        unfold Byte at hyb
        have hfe : c.fall k = y / 2 := by
          unfold CropD.fall
          rw [if_pos (by omega), List.getD_eq_getElem?_getD, hy]; rfl
        obtain ⟨fb, foff, fo, fcs, fg, rfl, qb, qo, qc, qt⟩ := SlAt.at (hf.keep kq) (k := k) (e := u8C y) (by rw [List.getElem?_map, hy]; rfl)
        have qt1 : fcs[foff + k]? = some (.int .u8 y) := by
          have := takeL_one qt
          rw [List.getElem?_drop, Nat.mul_one] at this; exact this
        have hquo := intOp_quo .i64 y 2 hyb.1 (by omega)
        have hwr : wrapF .i64 (y / 2) = y / 2 := by simp -implicitDefEqProofs (disch := omega)
        rw [hwr, ← hfe] at hquo
        have hkf : k < c.falls.length := by omega
        have hfb := fall_bd hc k
        generalize c.fall k = FK at *
        apply zz
        refine Cd.ra (h := ?_)
        apply Run.by_eq
        · intro self
          conv => lhs; simp -implicitDefEqProofs (maxSteps := 300000) (disch := omega) [-getElem?_pos, -getElem?_neg, g7, g1, q0, hfl']
        try (with_reducible refine Run.ret ?_)
        apply zz
        apply Cd.ite rfl
        · conv => lhs; simp -implicitDefEqProofs (maxSteps := 300000) (disch := omega) [-getElem?_pos, -getElem?_neg]
        all_goals intro c1
        all_goals try (cases c1; done)
        all_goals try simp only [Bool.not_eq_true', Bool.not_eq_false', decide_eq_true_eq, decide_eq_false_iff_not] at c1
        all_goals apply zz
        apply zz
        refine Cd.ra (h := ?_)
        apply Run.by_eq
        · intro self
          conv => lhs; simp -implicitDefEqProofs (maxSteps := 300000) (disch := omega) [-getElem?_pos, -getElem?_neg, g6, g7, g1, q0, hk1, hkf, qo, qc, qt1, hquo, hsub]
        try (with_reducible refine Run.ret ?_)
        apply zz
        refine Cd.ra (h := ?_)
        apply Run.by_eq
        · intro self
          conv => lhs; simp -implicitDefEqProofs (maxSteps := 300000) (disch := omega) [-getElem?_pos, -getElem?_neg, g7]
        try (with_reducible refine Run.ret ?_)
        apply zz
        refine LoopK.nm (c.n - (k1 + 1)) (by omega) ⟨k1, by omega, rfl, by simp [hm], by simp [g1], by simp [g2], by simp [g4], by simp, by simp, kq, by omega, q0, q1, ?_⟩
        rw [hrn]; simpa using hO4
      · have hfl' : ¬ (k1 : Int) ≤ c.falls.length := by omega
        have hf0 : c.fall k = 0 := by unfold CropD.fall; rw [if_neg (by omega)]
        have hst : c.stp k1 = c.stp k := by rw [← hsub, hf0]; omega
        apply zz
        refine Cd.ra (h := ?_)
        apply Run.by_eq
        · intro self
          conv => lhs; simp -implicitDefEqProofs (maxSteps := 300000) (disch := omega) [-getElem?_pos, -getElem?_neg, g7, g1, q0, hfl']
        try (with_reducible refine Run.ret ?_)
        apply zz
        apply Cd.ite rfl
        · conv => lhs; simp -implicitDefEqProofs (maxSteps := 300000) (disch := omega) [-getElem?_pos, -getElem?_neg]
        all_goals intro c1
        all_goals try (cases c1; done)
        all_goals try simp only [Bool.not_eq_true', Bool.not_eq_false', decide_eq_true_eq, decide_eq_false_iff_not] at c1
        all_goals apply zz
        apply zz
        refine Cd.ra (h := ?_)
        apply Run.by_eq
        · intro self
          conv => lhs; simp -implicitDefEqProofs (maxSteps := 300000) (disch := omega) [-getElem?_pos, -getElem?_neg, g7]
        try (with_reducible refine Run.ret ?_)
        apply zz
        refine LoopK.nm (c.n - (k1 + 1)) (by omega) ⟨k1, by omega, rfl, by simp [hm], by simp [g1], by simp [g2], by simp [g4], by simp [g6, hst], by simp, kq, by omega, q0, q1, ?_⟩
        rw [hrn]; simpa using hO4
    · have hkn : c.n = k + 1 := by omega
      have hlt' : ¬ ((k + 1 : Nat) : Int) < c.n := by omega
      generalize hK : k + 1 = k1 at *
      apply zz
      refine Cd.ra (h := ?_)
      apply Run.by_eq
      · intro self
        conv => lhs; simp -implicitDefEqProofs (maxSteps := 300000) (disch := omega) [-getElem?_pos, -getElem?_neg, g7, g4, hlt']
      try (with_reducible refine Run.ret ?_)
      apply zz
      apply Cd.ite rfl
      · conv => lhs; simp -implicitDefEqProofs (maxSteps := 300000) (disch := omega) [-getElem?_pos, -getElem?_neg]
      all_goals intro c0
      all_goals try (cases c0; done)
      all_goals try simp only [Bool.not_eq_true', Bool.not_eq_false', decide_eq_true_eq, decide_eq_false_iff_not] at c0
      all_goals apply zz
      exact ⟨rfl, by simp [hm], by simp [g1], by simp [g2], by simp [g4], hkp, hnx, hg0, hg1, by rw [hkn]; simpa using hO⟩
  rintro x f s1 ⟨rfl, hm, g1, g2, g4, hkp, hnx, hg0, hg1, hO⟩
  apply zz
  have hsw : IntsAt s1 (f.get 5) ((List.range c.n).map c.sweet) := hO.sl (iC_len _)
  have hlenS : ((List.range c.n).map c.sweet).length = c.n := by simp
  obtain ⟨sb, gS, e5, hne5, hsb1, hsb2, hsb3, hsb4⟩ := id hO
  have e5' : f.get 5 = .slice (some ⟨sb, 0, none⟩) c.n c.n := by rw [e5]; simp
  have hO' : OwnN 1 (s.next + 1 + 1) s1 (.slice (some ⟨sb, 0, none⟩) c.n c.n) (iC ((List.range c.n).map c.sweet)) := e5' ▸ hO
  clear e5 hne5
  have hgetS := fun j (h : j < c.n) => swL_get (c := c) (k := c.n) h
  have hget0 : (iC ((List.range c.n).map c.sweet)).flatten[0]? = some (.int .i64 (c.sweet 0)) := hgetS 0 (by omega)
  have hcn0 : 0 < c.n := by omega
  generalize (iC ((List.range c.n).map c.sweet)).flatten = cells at *
  have ve5 : veq 5 (Value.slice (some ⟨sb, 0, none⟩) c.n c.n) (Value.slice (some ⟨sb, 0, none⟩) c.n c.n) = true := veq_slice _ _ _ _ _
  apply zz
  refine Cd.drawn (pl := [(0, 0, false, false), (1, 1, false, false), (2, 3, false, false), (3, 0, false, false), (4, 8, false, false), (5, 24, false, false), (6, 7, false, false), (7, 127, false, false)]) (by kernel_rfl) (by conv => lhs; simp only [List.map_cons, List.map_nil]) (by conv => lhs; simp [strip, ordered]) ?_
  apply Run.by_eq
  · intro self
    conv => lhs; simp -implicitDefEqProofs (maxSteps := 300000) (disch := omega) [filter_bt, -getElem?_pos, -getElem?_neg, e5', hsb3, hget0, hcn0, ve5]
  try (with_reducible refine Run.ret ?_)
  apply zz
  refine Cd.ra (h := ?_)
  apply Run.by_eq
  · intro self
    conv => lhs; simp -implicitDefEqProofs (maxSteps := 300000) (disch := omega) [-getElem?_pos, -getElem?_neg, e5']
  try (with_reducible refine Run.ret ?_)
  apply zz
  refine Cd.mono (Q := fun x f2 s2 => x = Ex.exit 2 ∧ f2.marks = [] ∧ f2.get 1 = .pointer (some ⟨s.next, 0, none⟩) ∧ f2.get 2 = .pointer (some ⟨s.next + 1, 0, none⟩) ∧ f2.get 4 = .int .i64 c.n ∧ f2.get 5 = .slice (some ⟨sb, 0, none⟩) c.n c.n ∧ f2.get 8 = .int .i64 (c.lst c.n) ∧ f2.get 9 = .int .i64 (c.mst c.n) ∧ s2 = s1) (Cd.inv (fun z f2 s2 => ∃ k : Nat, k ≤ c.n ∧ z = c.n - k ∧ f2.marks = [] ∧ f2.get 1 = .pointer (some ⟨s.next, 0, none⟩) ∧ f2.get 2 = .pointer (some ⟨s.next + 1, 0, none⟩) ∧ f2.get 4 = .int .i64 c.n ∧ f2.get 5 = .slice (some ⟨sb, 0, none⟩) c.n c.n ∧ f2.get 67 = .slice (some ⟨sb, 0, none⟩) c.n c.n ∧ f2.get 68 = .int .i64 c.n ∧ f2.get 69 = .int .i64 k ∧ f2.get 8 = .int .i64 (c.lst k) ∧ f2.get 9 = .int .i64 (c.mst k) ∧ s2 = s1) c.n ?_ ?_) ?_
  · exact ⟨0, by omega, rfl, by simp [hm], by simp [g1], by simp [g2], by simp [g4], by simp [e5'], by simp, by simp, by simp, by simp [CropD.lst], by simp [CropD.mst], rfl⟩
  · clear hm g1 g2 g4
    rintro z f2 s2 ⟨k, hk, rfl, hm, g1, g2, g4, g5, g67, g68, g69, g8, g9, rfl⟩
    by_cases hlt : k < c.n
    · have hlt' : (k : Int) < c.n := by omega
      have hgk := hgetS k hlt
      have hl1 : min (c.lst k) (c.sweet k) = c.lst (k + 1) := by unfold CropD.lst; rw [List.range_succ, List.map_append, List.foldl_append]; rfl
      have hm1 : max (c.mst k) (c.sweet k) = c.mst (k + 1) := by unfold CropD.mst; rw [List.range_succ, List.map_append, List.foldl_append]; rfl
      apply zz
      refine Cd.ra (h := ?_)
      apply Run.by_eq
      · intro self
        conv => lhs; simp -implicitDefEqProofs (maxSteps := 300000) (disch := omega) [-getElem?_pos, -getElem?_neg, g69, g68, hlt']
      try (with_reducible refine Run.ret ?_)
      apply zz
      apply Cd.ite rfl
      · conv => lhs; simp -implicitDefEqProofs (maxSteps := 300000) (disch := omega) [-getElem?_pos, -getElem?_neg]
      all_goals intro c0
      all_goals try (cases c0; done)
      all_goals try simp only [Bool.not_eq_true', Bool.not_eq_false', decide_eq_true_eq, decide_eq_false_iff_not] at c0
      all_goals apply zz
      apply zz
      refine Cd.ra (h := ?_)
      apply Run.by_eq
      · intro self
        conv => lhs; simp -implicitDefEqProofs (maxSteps := 300000) (disch := omega) [-getElem?_pos, -getElem?_neg, g67, g69, hlt, hsb3, hgk]
      try (with_reducible refine Run.ret ?_)
      apply zz
      refine Cd.ra (h := ?_)
      apply Run.by_eq
      · intro self
        conv => lhs; simp -implicitDefEqProofs (maxSteps := 300000) (disch := omega) [-getElem?_pos, -getElem?_neg, g8, g9, hl1, hm1]
      try (with_reducible refine Run.ret ?_)
      apply zz
      refine Cd.ra (h := ?_)
      apply Run.by_eq
      · intro self
        conv => lhs; simp -implicitDefEqProofs (maxSteps := 300000) (disch := omega) [-getElem?_pos, -getElem?_neg, g69]
      try (with_reducible refine Run.ret ?_)
      apply zz
      exact LoopK.nm (c.n - (k + 1)) (by omega) ⟨k + 1, by omega, rfl, by simp [hm], by simp [g1], by simp [g2], by simp [g4], by simp [g5], by simp [g67], by simp [g68], by simp, by simp, by simp, rfl⟩
    · obtain rfl : k = c.n := by omega
      apply zz
      refine Cd.ra (h := ?_)
      apply Run.by_eq
      · intro self
        conv => lhs; simp -implicitDefEqProofs (maxSteps := 300000) (disch := omega) [-getElem?_pos, -getElem?_neg, g69, g68]
      try (with_reducible refine Run.ret ?_)
      apply zz
      apply Cd.ite rfl
      · conv => lhs; simp -implicitDefEqProofs (maxSteps := 300000) (disch := omega) [-getElem?_pos, -getElem?_neg]
      all_goals intro c0
      all_goals try (cases c0; done)
      all_goals try simp only [Bool.not_eq_true', Bool.not_eq_false', decide_eq_true_eq, decide_eq_false_iff_not] at c0
      all_goals apply zz
      exact ⟨rfl, by simp [hm], by simp [g1], by simp [g2], by simp [g4], by simp [g5], by simp [g8], by simp [g9], rfl⟩
  clear hm g1 g2 g4 e5'
  rintro x f s2 ⟨rfl, hm, g1, g2, g4, g5, g8, g9, rfl⟩
  apply zz
  have h_r0 := hc.r0
  have h_r1 := hc.r1
  unfold Byte at h_r0 h_r1
  have hLM := lst_mst hc (k := c.n) (by omega)
  have hloE : max 0 (c.lst c.n - 10 * c.r0) = c.lo := rfl
  have hhiE : c.mst c.n + 10 * c.r1 = c.hi := rfl
  have hlob := hi_bd hc
  apply zz
  refine Cd.ra (h := ?_)
  apply Run.by_eq
  · intro self
    conv => lhs; simp -implicitDefEqProofs (maxSteps := 300000) (disch := omega) [-getElem?_pos, -getElem?_neg, g1, g4, g8, g9, hg0, hloE, hhiE]
  try (with_reducible refine Run.ret ?_)
  apply zz
  refine Run.call ((span_ev c.lo c.hi _).mono fun v wy hv => ?_)
  obtain ⟨rfl, y⟩ := hv
  have ya := y.1
  have yb := y.2
  try simp only [pushed_next', upded_next'] at ya yb
  have y0 := (yb _ (by omega)).trans hg0
  have y1 := (yb _ (by omega)).trans hg1
  apply Run.by_eq
  · intro self
    conv => lhs; simp -implicitDefEqProofs (maxSteps := 300000) (disch := omega) [-getElem?_pos, -getElem?_neg, y0, y1]
  try (with_reducible refine Run.ret ?_)
  apply zz
  refine Cd.ra (h := ?_)
  apply Run.by_eq
  · intro self
    conv => lhs; simp -implicitDefEqProofs (maxSteps := 300000) (disch := omega) [-getElem?_pos, -getElem?_neg]
  try (with_reducible refine Run.ret ?_)
  apply zz
  have hsl : c.ss.length ≤ 15 := by unfold CropD.ss; simp; omega
  have hssk : ∀ k x, k < 15 → c.samples[k]? = some x → (c.samples.take (k + 1)).map c.samp = (c.samples.take k).map c.samp ++ [c.samp x] := fun k x hk hx => by rw [List.take_add_one, hx, List.map_append]; rfl
  have y2 : wy.heap.get sb = some (.cells cells gS) := (yb _ (by omega)).trans hsb3
  refine Cd.inv (fun z f s' => ∃ (k : Nat) (qv : Value), k ≤ c.samples.length ∧ k ≤ 15 ∧ z = 15 - k ∧ f.marks = [] ∧ f.get 1 = .pointer (some ⟨s.next, 0, none⟩) ∧ f.get 2 = .pointer (some ⟨s.next + 1, 0, none⟩) ∧ f.get 4 = .int .i64 c.n ∧ f.get 5 = .slice (some ⟨sb, 0, none⟩) c.n c.n ∧ f.get 12 = .pointer (some ⟨wy.next, 0, none⟩) ∧ f.get 13 = .int .i64 k ∧ Keep wy s' ∧ wy.next + 1 ≤ s'.next ∧ s'.heap.get wy.next = some (.cells [.int .i64 c.n, .int .i64 c.lo, .int .i64 c.hi, qv] none) ∧ OwnG 3 (wy.next + 1) s' qv (((c.samples.take k).map c.samp).map SampD.cs)) 15 ?_ ?_
  · exact ⟨0, .slice none 0 0, by omega, by omega, rfl, by simp [hm], by simp [g1], by simp [g2], by simp [g4], by simp [g5], by simp, by simp, ⟨by (try simp only [pushed_next', upded_next']); omega, fun i hi => by simp -implicitDefEqProofs (disch := omega) []⟩, by simp, by simp -implicitDefEqProofs (disch := omega), .inl ⟨rfl, rfl⟩⟩
  clear hm g1 g2 g4 g5 g8 g9
  rintro z f s3 ⟨k, qv, hk1, hk2, rfl, hm, g1, g2, g4, g5, g12, g13, hkp3, hnx3, hgq, hQ⟩
  have k3a := hkp3.1
  have k3b := hkp3.2
  have z0 := (k3b _ (by omega)).trans y0
  have z1 := (k3b _ (by omega)).trans y1
  have z2 := (k3b _ (by omega)).trans y2
  have hk3s : Keep s s3 := ⟨by omega, fun i hi => by rw [k3b i (by omega), yb i (by omega)]; exact hkp.2 i hi⟩
  by_cases hlt : k < c.samples.length ∧ k < 15
  · obtain ⟨hlt1, hlt2⟩ := hlt
    have hlt1' : (k : Int) < c.samples.length := by omega
    have hlt2' : (k : Int) < 15 := by omega
    obtain ⟨x, hx⟩ : ∃ x, c.samples[k]? = some x := ⟨c.samples[k], by simp⟩
    have hxb := hc.samples x (List.mem_of_getElem? hx)
    obtain ⟨xb0, xo, xob, xcs, xg, rfl, qb, qo, qc, qt⟩ := SlAt.at (hs.keep hk3s) (k := k) (e := u8T x) (by rw [List.getElem?_map, hx]; rfl)
    have hrowS := hssk k x hlt2 hx
    have hsok := samp_ok hc hxb
    have hrows := samp_len ((c.samples.take k).map c.samp)
    have hrl : (((c.samples.take k).map c.samp).map SampD.cs).length = k := by simp; omega
    obtain ⟨hb1, hb2, hb3⟩ := hxb
    unfold Byte at hb1 hb2 hb3
    have hw1 := Int.emod_nonneg x.1 (show (c.n : Int) ≠ 0 by omega)
    have hw2 := Int.emod_lt_of_pos x.1 (show (0 : Int) < c.n by omega)
    obtain ⟨wk, hwk⟩ : ∃ wk : Nat, x.1 % c.n = wk := ⟨(x.1 % c.n).toNat, by omega⟩
    have hwkn : wk < c.n := by omega
    have hr1 := intOp_rem .i64 x.1 c.n hb1.1 (by omega)
    rw [hwk] at hr1
    have hr2 := intOp_rem .i64 x.2.2 (2 * x.2.1 + 1) hb3.1 (by omega)
    have hm3 := Int.emod_nonneg x.2.2 (show 2 * x.2.1 + 1 ≠ 0 by omega)
    have hm4 := Int.emod_lt_of_pos x.2.2 (show 0 < 2 * x.2.1 + 1 by omega)
    have hgw := hgetS wk hwkn
    have hswk := hswb wk (by omega)
    have hval : max 0 (c.sweet wk - x.2.1 + x.2.2 % (2 * x.2.1 + 1)) = (c.samp x).val := by
      unfold CropD.samp; simp only []; rw [hwk]; rfl
    have hSc : c.samp x = ⟨wk, (c.samp x).val, x.2.1⟩ := by unfold CropD.samp; simp only [hwk]
    have ht80 : u8T x = [.int .u8 x.1, .int .u8 x.2.1, .int .u8 x.2.2] := rfl
    rw [ht80] at qt
    have hvb := hsok.2.1
    rw [hSc] at hrowS
    generalize (c.samp x).val = VAL at *
    clear hsok hSc
    generalize hRM : x.2.2 % (2 * x.2.1 + 1) = RM at *
    obtain ⟨x0, x1, x2⟩ := x
    simp only [] at *
    apply zz
    refine Cd.ra (h := ?_)
    apply Run.by_eq
    · intro self
      conv => lhs; simp -implicitDefEqProofs (maxSteps := 300000) (disch := omega) [-getElem?_pos, -getElem?_neg, g13, g1, z0, hlt1', hlt2']
    try (with_reducible refine Run.ret ?_)
    apply zz
    apply Cd.ite rfl
    · conv => lhs; simp -implicitDefEqProofs (maxSteps := 300000) (disch := omega) [-getElem?_pos, -getElem?_neg]
    all_goals intro c0
    all_goals try (cases c0; done)
    all_goals try simp only [Bool.not_eq_true', Bool.not_eq_false', decide_eq_true_eq, decide_eq_false_iff_not] at c0
    all_goals apply zz
    apply zz
    refine Cd.ra (h := ?_)
    apply Run.by_eq
    · intro self
      conv => lhs; simp -implicitDefEqProofs (maxSteps := 300000) (disch := omega) [-getElem?_pos, -getElem?_neg, g1, g13, z0, hlt1, qo, qc, qt]
    try (with_reducible refine Run.ret ?_)
    apply zz
    refine Cd.drawn (pl := [(0, 0, false, false), (1, 1, false, false), (2, 3, false, false), (3, 0, false, false), (4, 15, false, false), (5, 0, false, false), (6, 32, false, false), (7, 96, false, false), (8, 255, false, false), (9, 0, false, true), (10, 1023, true, false)]) (by kernel_rfl) (by conv => lhs; simp only [List.map_cons, List.map_nil]) (by conv => lhs; simp [strip, ordered]) ?_
    apply Run.by_eq
    · intro self
      conv => lhs; simp -implicitDefEqProofs (maxSteps := 300000) (disch := omega) [filter_bt, (show ∀ i, Nat.testBit 1023 i = decide (i < 10) from fun i => Nat.testBit_two_pow_sub_one 10 i), -getElem?_pos, -getElem?_neg, g4, hr1]
    try (with_reducible refine Run.ret ?_)
    apply zz
    refine Cd.mono (Q := fun x f2 s4 => x = Ex.normal ∧ f2.marks = [] ∧ f2.get 1 = .pointer (some ⟨s.next, 0, none⟩) ∧ f2.get 2 = .pointer (some ⟨s.next + 1, 0, none⟩) ∧ f2.get 4 = .int .i64 c.n ∧ f2.get 5 = .slice (some ⟨sb, 0, none⟩) c.n c.n ∧ f2.get 12 = .pointer (some ⟨wy.next, 0, none⟩) ∧ f2.get 13 = .int .i64 k ∧ f2.get 15 = .pointer (some ⟨s3.next + 1, 0, none⟩) ∧ Keep s3 s4 ∧ s3.next + 1 + 1 ≤ s4.next ∧ s4.heap.get (s3.next + 1) = some (.cells [.int .i64 wk, .int .i64 VAL, .int .i64 x1] none)) ?_ ?_
    · apply zz
      refine Cd.drawn (pl := [(0, 0, false, false), (1, 0, false, false), (2, 2, false, false), (3, 7, false, false), (4, 15, false, false), (5, 0, false, false), (6, 32, false, false), (7, 127, false, false), (8, 0, false, false), (9, 256, false, false), (10, 768, false, false), (11, 0, false, false), (12, 2048, false, false), (13, 6144, false, false), (14, 14336, false, false), (15, 32512, false, false), (16, 65535, false, false), (17, 131071, false, false), (18, 262143, false, false), (19, 524287, true, false)]) (by kernel_rfl) (by conv => lhs; simp only [List.map_cons, List.map_nil]) (by conv => lhs; simp [strip, ordered]) ?_
      apply Run.by_eq
      · intro self
        conv => lhs; simp -implicitDefEqProofs (maxSteps := 300000) (disch := omega) [filter_bt, (show ∀ i, Nat.testBit 524287 i = decide (i < 19) from fun i => Nat.testBit_two_pow_sub_one 19 i), -getElem?_pos, -getElem?_neg, g5, z2, hgw, hwkn, ve5, hr2, hval]
      try (with_reducible refine Run.ret ?_)
      apply zz
      exact ⟨rfl, by simp [hm], by simp [g1], by simp [g2], by simp [g4], by simp [g5], by simp [g12], by simp [g13], by simp, ⟨by (try simp only [pushed_next', upded_next']); omega, fun i hi => by simp -implicitDefEqProofs (disch := omega) []⟩, by simp, by simp -implicitDefEqProofs (disch := omega)⟩
    clear hm g1 g2 g4 g5 g12 g13
    rintro x f2 s4 ⟨rfl, hm, g1, g2, g4, g5, g12, g13, g15, k4, hn4, hg15⟩
    apply zz
    have k4a := k4.1
    have hgq4 := (k4.2 _ (by omega)).trans hgq
    have kx2 : Keep s3 (s4.pushed (.cells [.int .i64 wk, .int .i64 VAL, .int .i64 x1] none)) := k4.pushed _
    generalize hRows : ((c.samples.take k).map c.samp).map SampD.cs = rows at *
    obtain ⟨s5, happ, hn5, hk5, hO5⟩ := app_one (n := 3) (b2 := s4.next) (x := [.int .i64 wk, .int .i64 VAL, .int .i64 x1]) (g := none) (hQ.keepK kx2) hrows rfl rfl (get_pushed_new _ _) (by simp only [pushed_next']; omega) (by omega)
    simp only [pushed_next', hrl] at happ hn5 hO5
    have hvq : oneV qv = true := by rcases hQ with ⟨_, rfl⟩ | ⟨_, rfl, _⟩ <;> rfl
    have hq5 : s5.heap.get wy.next = _ := (hk5 _ (by omega)).trans ((kx2.2 _ (by omega)).trans hgq)
    apply zz
    refine Cd.ra (h := ?_)
    apply Run.by_eq
    · intro self
      conv => lhs; simp -implicitDefEqProofs (maxSteps := 300000) (disch := omega) [-getElem?_pos, -getElem?_neg, g12, g15, hgq4, hg15, happ, hq5]
    try (with_reducible refine Run.ret ?_)
    apply zz
    refine Cd.ra (h := ?_)
    apply Run.by_eq
    · intro self
      conv => lhs; simp -implicitDefEqProofs (maxSteps := 300000) (disch := omega) [-getElem?_pos, -getElem?_neg, g13]
    try (with_reducible refine Run.ret ?_)
    apply zz
    refine LoopK.nm (15 - (k + 1)) (by omega) ⟨k + 1, .slice (some ⟨s4.next + 1, 0, none⟩) (k + 1) (k + 1), by omega, by omega, rfl, by simp [hm], by simp [g1], by simp [g2], by simp [g4], by simp [g5], by simp [g12], by simp, ⟨by (try simp only [upded_next']); omega, fun i hi => ?_⟩, by (try simp only [upded_next']); omega, get_upded_same _ _ _, ?_⟩
    · rw [get_upded_other _ _ _ _ (by omega), hk5 i (by omega), kx2.2 i (by omega)]; exact k3b i hi
    · rw [hrowS, List.map_append, hRows]
      exact (hO5.keep (by (try simp only [upded_next']); omega) fun i h1 h2 => get_upded_other _ _ _ _ (by omega))
  · have hcd : ¬ ((k : Int) < c.samples.length ∧ (k : Int) < 15) := fun h => hlt ⟨by omega, by omega⟩
    have hss : c.ss = (c.samples.take k).map c.samp := by
      unfold CropD.ss
      by_cases h15 : k = 15
      · rw [h15]
      · have : k = c.samples.length := by omega
        rw [this, List.take_of_length_le (by omega), List.take_of_length_le (by omega)]
    have hrows := samp_len ((c.samples.take k).map c.samp)
    have hQs := hQ.sl hrows
    have hvq : oneV qv = true := by rcases hQ with ⟨_, rfl⟩ | ⟨_, rfl, _⟩ <;> rfl
    apply zz
    refine Cd.mono (Q := fun x f2 s4 => x = Ex.normal ∧ f2.marks = [] ∧ f2.get 2 = .pointer (some ⟨s.next + 1, 0, none⟩) ∧ f2.get 5 = .slice (some ⟨sb, 0, none⟩) c.n c.n ∧ f2.get 12 = .pointer (some ⟨wy.next, 0, none⟩) ∧ f2.get 106 = .bool false ∧ s4 = s3) ?_ ?_
    · by_cases h1 : (k : Int) < c.samples.length
      · have h2 : ¬ (k : Int) < 15 := fun h => hcd ⟨h1, h⟩
        apply zz
        refine Cd.ra (h := ?_)
        apply Run.by_eq
        · intro self
          conv => lhs; simp -implicitDefEqProofs (maxSteps := 300000) (disch := omega) [-getElem?_pos, -getElem?_neg, g13, g1, z0, h1, h2]
        try (with_reducible refine Run.ret ?_)
        apply zz
        exact ⟨rfl, by simp [hm], by simp [g2], by simp [g5], by simp [g12], by simp, rfl⟩
      · apply zz
        refine Cd.ra (h := ?_)
        apply Run.by_eq
        · intro self
          conv => lhs; simp -implicitDefEqProofs (maxSteps := 300000) (disch := omega) [-getElem?_pos, -getElem?_neg, g13, g1, z0, h1]
        try (with_reducible refine Run.ret ?_)
        apply zz
        exact ⟨rfl, by simp [hm], by simp [g2], by simp [g5], by simp [g12], by simp, rfl⟩
    clear hm g1 g2 g4 g5 g12 g13
    rintro x f2 s4 ⟨rfl, hm, g2, g5, g12, g106, rfl⟩
    apply zz
    apply Cd.ite rfl
    · conv => lhs; simp -implicitDefEqProofs (maxSteps := 300000) (disch := omega) [-getElem?_pos, -getElem?_neg, g106]
    all_goals intro c0
    all_goals try (cases c0; done)
    all_goals try simp only [Bool.not_eq_true', Bool.not_eq_false', decide_eq_true_eq, decide_eq_false_iff_not] at c0
    all_goals apply zz
    apply zz
    refine Cd.ra (h := ?_)
    apply Run.by_eq
    · intro self
      conv => lhs; simp -implicitDefEqProofs (maxSteps := 300000) (disch := omega) [-getElem?_pos, -getElem?_neg, g2, g5, g12, z1, hgq, hvq]
    try (with_reducible refine Run.ret ?_)
    apply zz
    apply Leave.mk (by first | exact .inl rfl | exact .inr rfl) (by simp only [Fr.marks_put, fr0_marks, hm, g2, hvq])
    · conv => lhs; simp -implicitDefEqProofs (disch := omega) [Try.results33, hm, g2, hvq]
    refine ⟨⟨by (try simp only [upded_next']); omega, fun i hi => ?_⟩, qv, _, rfl, ?_, ?_⟩
    · rw [get_upded_other _ _ _ _ (by omega)]; exact hk3s.2 i hi
    · rw [hss]
      exact OwnG.less (hQ.keep (s' := s4.upded (s.next + 1) _) (by (try simp only [upded_next']); omega) fun i h1 h2 => get_upded_other _ _ _ _ (by omega)) (by omega)
    · have hkk : Keep s2 s4 := ⟨by omega, fun i hi => by rw [k3b i (by omega), yb i (by omega)]⟩
      refine OwnN.sl (OwnN.keep hO' ?_ fun i h1 h2 => ?_) (iC_len _)
      · (try simp only [upded_next']); omega
      · rw [get_upded_other _ _ _ _ (by omega)]; exact hkk.2 i h2
end Go.Proofs.Ytnhokodcmeekhaa
namespace Go.Proofs.Ytnhokodcmeekhaa
open Go Kern
/-! The law of cuts -/
end Go.Proofs.Ytnhokodcmeekhaa
namespace Go.Proofs.Ytnhokodcmeekhaa
open Go Kern
/-! The law of proofs -/
def HasClash (n lo hi : Int) (ss : List SampD) : Prop := ∃ i j k, i < n.toNat ∧ j < n.toNat ∧ k < n.toNat ∧ hB lo hi ss i j k = true
theorem Ans.mode {n lo hi : Int} {ss : List SampD} {e : Int} {bad good : Prop} (h1 : fieldErr n lo hi ss = 0) (h : Ans n lo hi ss e bad good) : (HasClash n lo hi ss → e = 12 ∧ bad) ∧ (¬ HasClash n lo hi ss → e = 0 ∧ good) := by
  rcases h with ⟨h, _⟩ | ⟨_, h, g, hc⟩ | ⟨_, h, g, hc⟩
  · exact absurd h1 h
  · exact ⟨fun _ => ⟨h, g⟩, fun hn => absurd hc hn⟩
  · refine ⟨fun ⟨i, j, k, a, b, c, d⟩ => ?_, fun _ => ⟨h, g⟩⟩
    rw [hc i j k a b c] at d; cases d
theorem ClashA.mode {n lo hi : Int} {ss : List SampD} {w : Value} {e : Int} {s : St} (h1 : fieldErr n lo hi ss = 0) (h : ClashA (fieldErr n lo hi ss) n.toNat (holdsB (fun w => (endN lo hi ss w).1) (fun w => (endN lo hi ss w).2)) w e s) : (HasClash n lo hi ss → e = 0 ∧ Trip n.toNat (hB lo hi ss) w s) ∧ (¬ HasClash n lo hi ss → e = 5 ∧ w = .slice none 0 0) := by
  rcases h with ⟨h, _⟩ | ⟨_, h, g, hc⟩ | ⟨_, h, g⟩
  · exact absurd h1 h
  · refine ⟨fun ⟨i, j, k, a, b, c, d⟩ => ?_, fun _ => ⟨h, g⟩⟩
    have := hc i j k a b c
    change hB lo hi ss i j k = false at this
    rw [this] at d; cases d
  · refine ⟨fun _ => ⟨h, g⟩, fun hn => ?_⟩
    obtain ⟨i, j, k, a, b, c, d, _⟩ := g
    exact absurd ⟨i, j, k, a, b, c, d⟩ hn
def wsamp (n : Nat) (x : Int × Int × Int) : SampD := ⟨x.1 % n, 7000 + 40 * x.2.1, x.2.2⟩
@[simp] theorem newObj_24 {f : Fr} {pl0 : Array (Nat × Operand)} : Kern.newObj TT (.buildSlice 24 1 pl0) f = ob (fillL f.eval (placesA 3 pl0.toList) (repeatL [.int .i64 0, .int .i64 0, .int .i64 0] 1)) fun c => some (.cells c none) :=
  newObj_buildSlice 24 1 pl0 und_24 size_82 zero_82 rfl
def Bytes3 (x : Int × Int × Int) : Prop := Byte x.1 ∧ Byte x.2.1 ∧ Byte x.2.2
end Go.Proofs.Ytnhokodcmeekhaa
namespace Go.Proofs.Ytnhokodcmeekhaa
open Go Kern
/-! What is true lies within what is known -/
/-- A truth: within all lows and highs, in steps that never become greater. -/
structure Truth (m : Nat) (L H : Nat → Frac) (x : Nat → Int) : Prop where
  u : ∀ w, w < m → (L w).u = 1 ∧ (H w).u = 1
  lo : ∀ w, w < m → (L w).o ≤ x w
  hi : ∀ w, w < m → x w ≤ (H w).o
  con : ∀ i j k, i < j → j < k → k < m → x i * ((k : Int) - j) + x k * ((j : Int) - i) ≤ x j * ((k : Int) - i)
theorem mul_le2 {a b c d p q : Int} (h1 : a ≤ b) (h2 : c ≤ d) (hp : 0 ≤ p) (hq : 0 ≤ q) : a * p + c * q ≤ b * p + d * q := by
  have := Int.mul_le_mul_of_nonneg_right h1 hp
  have := Int.mul_le_mul_of_nonneg_right h2 hq
  omega
theorem Truth.nocl {m : Nat} {L H : Nat → Frac} {x : Nat → Int} (h : Truth m L H x) : NoCl m L H := by
  refine ⟨h.u, fun i j k hi hj hk => ?_⟩
  unfold clashB
  split
  · rename_i e
    obtain ⟨rfl, rfl⟩ := e
    rw [above_not, (h.u i hi).1, (h.u i hi).2, Int.mul_one, Int.mul_one]
    exact Int.le_trans (h.lo i hi) (h.hi i hi)
  · by_cases h1 : i < j
    · by_cases h2 : j < k
      · rw [decide_eq_true h1, decide_eq_true h2, Bool.true_and, Bool.true_and, above_not]
        unfold lineF lineO
        rw [if_neg (by omega)]
        simp only [(h.u i hi).1, (h.u k hk).1, (h.u j hj).2, Int.mul_one, Int.one_mul]
        have a := h.con i j k h1 h2 hk
        have b := mul_le2 (h.lo i hi) (h.lo k hk) (show (0 : Int) ≤ (k : Int) - j by omega) (show (0 : Int) ≤ (j : Int) - i by omega)
        have c := Int.mul_le_mul_of_nonneg_right (h.hi j hj) (show (0 : Int) ≤ (k : Int) - i by omega)
        omega
      · rw [decide_eq_false h2, Bool.false_and, Bool.and_false]
    · rw [decide_eq_false h1, Bool.false_and]
theorem Truth.line_le {m w i k : Nat} {L H : Nat → Frac} {x : Nat → Int} (h : Truth m L H x) (hi : i < w) (hk : w < k) (hkm : k < m) : LeF (lineF i (L i) k (L k) w) ⟨x w, 1⟩ := by
  unfold lineF lineO LeF
  rw [if_neg (by omega)]
  simp only [(h.u i (by omega)).1, (h.u k hkm).1, Int.mul_one, Int.one_mul]
  have a := h.con i w k hi hk hkm
  have b := mul_le2 (h.lo i (by omega)) (h.lo k hkm) (show (0 : Int) ≤ (k : Int) - w by omega) (show (0 : Int) ≤ (w : Int) - i by omega)
  omega
theorem Truth.up {m w : Nat} {L H : Nat → Frac} {x : Nat → Int} (h : Truth m L H x) (hw : w < m) : LeF ⟨x w, 1⟩ (upF m L H w) := by
  unfold upF
  rcases foreF_mem (bf := belowB) (H w) ((towardL m w).map fun p => lineF p.1 (L p.1) p.2 (H p.2) w) with e | e
  · rw [e]; unfold LeF; rw [(h.u w hw).2]; simp only [Int.mul_one]; exact h.hi w hw
  · obtain ⟨⟨a, b⟩, hp, hx⟩ := List.mem_map.1 e
    rw [← hx]
    have hm := toward_mem.1 hp
    simp only [] at hm ⊢
    obtain ⟨ha, hm | hm⟩ := hm
    · have c := h.con a b w hm.1 hm.2 hw
      have d := Int.mul_le_mul_of_nonneg_right (h.hi b (by omega)) (show (0 : Int) ≤ (w : Int) - a by omega)
      have e := Int.mul_le_mul_of_nonneg_right (h.lo a ha) (show (0 : Int) ≤ (w : Int) - b by omega)
      unfold lineF lineO LeF
      rw [if_neg (by omega)]
      simp only [(h.u a ha).1, (h.u b (by omega)).2, Int.mul_one, Int.one_mul]
      have e1 : (L a).o * ((b : Int) - w) = -((L a).o * ((w : Int) - b)) := by rw [← Int.mul_neg]; congr 1; omega
      omega
    · have c := h.con w b a hm.1 hm.2 ha
      have d := Int.mul_le_mul_of_nonneg_right (h.hi b (by omega)) (show (0 : Int) ≤ (a : Int) - w by omega)
      have e := Int.mul_le_mul_of_nonneg_right (h.lo a ha) (show (0 : Int) ≤ (b : Int) - w by omega)
      unfold lineF lineO LeF
      rw [if_pos (by omega)]
      simp only [(h.u a ha).1, (h.u b (by omega)).2, Int.mul_one, Int.one_mul]
      have e1 : (L a).o * ((w : Int) - b) = -((L a).o * ((b : Int) - w)) := by rw [← Int.mul_neg]; congr 1; omega
      omega
theorem fl_le {x : Frac} {n : Int} (hu : 0 < x.u) (h : LeF x ⟨n, 1⟩) : flF x ≤ n := by
  unfold LeF at h
  simp only [Int.mul_one] at h
  unfold flF
  have : x.o / x.u < n + 1 := by
    rw [Int.ediv_lt_iff_lt_mul hu, Int.add_mul]; omega
  omega
theorem le_ce {x : Frac} {n : Int} (hu : 0 < x.u) (h : LeF ⟨n, 1⟩ x) : n ≤ ceF x := by
  unfold LeF at h
  simp only [Int.mul_one] at h
  have : flF ⟨-x.o, x.u⟩ ≤ -n := fl_le hu (by unfold LeF; simp only [Int.mul_one, Int.neg_mul]; omega)
  unfold flF at this
  simp only [] at this
  unfold ceF
  omega
/-- Of all truths' losses none is greater than the regret. -/
theorem Truth.loss {m w o : Nat} {L H : Nat → Frac} {x : Nat → Int} (h : Truth m L H x) (hw : w < m) (ho : o < m) : LeF ⟨x o - x w, 1⟩ (lossF m L H w o) := by
  have hN := h.nocl
  obtain ⟨hLp, hHp⟩ := hN.pos
  have hU := up_pos hLp hHp ho
  have hxU := h.up ho
  have hRw : raisedL m L H o o = upF m L H o := if_pos rfl
  have hRn : ∀ i, i ≠ o → raisedL m L H o i = L i := fun i h => if_neg h
  have hRp : ∀ i, i < m → 0 < (raisedL m L H o i).u := fun i hi => by
    unfold raisedL updF; split
    · exact hU
    · exact hLp i hi
  -- below what lies at most the truth's sweetness
  have key : ∀ X : Frac, 0 < X.u → LeF X ⟨x w, 1⟩ → LeF ⟨x o - x w, 1⟩ (minusF (upF m L H o) X) := fun X hX hle => by
    unfold LeF minusF at *
    simp only [Int.mul_one] at *
    have a := Int.mul_le_mul_of_nonneg_right hxU (Int.le_of_lt hX)
    have b := Int.mul_le_mul_of_nonneg_right hle (Int.le_of_lt hU)
    have e : (x o - x w) * ((upF m L H o).u * X.u) = x o * (upF m L H o).u * X.u - x w * X.u * (upF m L H o).u := by grind
    omega
  -- a line from the raised week to another one
  have line : ∀ i : Nat, i < m → ((i < w ∧ w < o) ∨ (o < w ∧ w < i)) → LeF ⟨x o - x w, 1⟩ (minusF (upF m L H o) (lineF i (L i) o (upF m L H o) w)) := fun i hi hb => by
    generalize hUe : upF m L H o = U at *
    obtain ⟨uo, uu⟩ := U
    unfold LeF at hxU ⊢
    simp only [Int.mul_one] at hU hxU
    have hlo := h.lo i hi
    rcases hb with ⟨h1, h2⟩ | ⟨h1, h2⟩
    · have c := h.con i w o h1 h2 ho
      unfold minusF lineF lineO
      rw [if_neg (by omega)]
      simp only [(h.u i hi).1, Int.one_mul, Int.mul_one]
      -- U - X = (U - L i) (o - w) / (o - i)
      have g1 : 0 ≤ (uo - x o * uu) * ((o : Int) - w) := Int.mul_nonneg (by omega) (by omega)
      have g2 : 0 ≤ (x i - (L i).o) * uu * ((o : Int) - w) := Int.mul_nonneg (Int.mul_nonneg (by omega) (by omega)) (by omega)
      have g3 : 0 ≤ (x w * ((o : Int) - i) - (x i * ((o : Int) - w) + x o * ((w : Int) - i))) * uu := Int.mul_nonneg (by omega) (by omega)
      have g4 := Int.mul_nonneg (show 0 ≤ (uo - x o * uu) * ((o : Int) - w) + (x i - (L i).o) * uu * ((o : Int) - w) + (x w * ((o : Int) - i) - (x i * ((o : Int) - w) + x o * ((w : Int) - i))) * uu by omega) (Int.le_of_lt hU)
      have e : (uo * (uu * ((o : Int) - i)) - ((L i).o * uu * ((o : Int) - w) + uo * ((w : Int) - i)) * uu) - (x o - x w) * (uu * (uu * ((o : Int) - i))) = ((uo - x o * uu) * ((o : Int) - w) + (x i - (L i).o) * uu * ((o : Int) - w) + (x w * ((o : Int) - i) - (x i * ((o : Int) - w) + x o * ((w : Int) - i))) * uu) * uu := by grind
      omega
    · have c := h.con o w i h1 h2 hi
      unfold minusF lineF lineO
      rw [if_pos (by omega)]
      simp only [(h.u i hi).1, Int.one_mul, Int.mul_one]
      have g1 : 0 ≤ (uo - x o * uu) * ((w : Int) - o) := Int.mul_nonneg (by omega) (by omega)
      have g2 : 0 ≤ (x i - (L i).o) * uu * ((w : Int) - o) := Int.mul_nonneg (Int.mul_nonneg (by omega) (by omega)) (by omega)
      have g3 : 0 ≤ (x w * ((i : Int) - o) - (x o * ((i : Int) - w) + x i * ((w : Int) - o))) * uu := Int.mul_nonneg (by omega) (by omega)
      have g4 := Int.mul_nonneg (show 0 ≤ (uo - x o * uu) * ((w : Int) - o) + (x i - (L i).o) * uu * ((w : Int) - o) + (x w * ((i : Int) - o) - (x o * ((i : Int) - w) + x i * ((w : Int) - o))) * uu by omega) (Int.le_of_lt hU)
      have e : (uo * (uu * ((i : Int) - o)) - (uo * ((i : Int) - w) + (L i).o * uu * ((w : Int) - o)) * uu) - (x o - x w) * (uu * (uu * ((i : Int) - o))) = ((uo - x o * uu) * ((w : Int) - o) + (x i - (L i).o) * uu * ((w : Int) - o) + (x w * ((i : Int) - o) - (x o * ((i : Int) - w) + x i * ((w : Int) - o))) * uu) * uu := by grind
      omega
  unfold lossF
  have hmem := foreF_mem (bf := aboveB) (raisedL m L H o w) ((acrossL m w).map fun p => lineF p.1 (raisedL m L H o p.1) p.2 (raisedL m L H o p.2) w)
  have eR : lowF m (raisedL m L H o) w = foreF aboveB (raisedL m L H o w) ((acrossL m w).map fun p => lineF p.1 (raisedL m L H o p.1) p.2 (raisedL m L H o p.2) w) := rfl
  rw [← eR] at hmem
  by_cases hwo : w = o
  · subst hwo
    have hz : (x w - x w : Int) = 0 := by omega
    rw [hz]
    have key0 : ∀ X : Frac, LeF X (upF m L H w) → LeF ⟨0, 1⟩ (minusF (upF m L H w) X) := fun X hX => by
      unfold LeF minusF at *
      simp only [Int.zero_mul, Int.mul_one]
      omega
    refine key0 _ ?_
    rcases hmem with e | e
    · rw [e, hRw]; exact LeF.refl _
    · obtain ⟨⟨i, k⟩, hp, hx⟩ := List.mem_map.1 e
      obtain ⟨h1, h2, h3⟩ := across_mem.1 hp
      simp only [] at h1 h2 h3 hx
      rw [← hx, hRn i (by omega), hRn k (by omega)]
      exact across_le_up h.u hN.all h1 h2 h3
  · rcases hmem with e | e
    · rw [e, hRn w hwo]
      refine key _ (hLp w hw) ?_
      unfold LeF; rw [(h.u w hw).1]; simp only [Int.mul_one]; exact h.lo w hw
    · obtain ⟨⟨i, k⟩, hp, hx⟩ := List.mem_map.1 e
      obtain ⟨h1, h2, h3⟩ := across_mem.1 hp
      simp only [] at h1 h2 h3 hx
      rw [← hx]
      by_cases hio : i = o
      · subst hio
        rw [hRw, hRn k (by omega), line_swap _ _ _ _ _ (by omega)]
        exact line k h3 (by omega)
      · by_cases hko : k = o
        · subst hko
          rw [hRw, hRn i hio]
          exact line i (by omega) (by omega)
        · rw [hRn i hio, hRn k hko]
          exact key _ (line_pos (hLp i (by omega)) (hLp k h3) (by omega)) (h.line_le h1 h2 h3)
theorem wkL_mem {m w : Nat} {p : Nat → Bool} : (w : Int) ∈ wkL m p ↔ w < m ∧ p w = true := by
  unfold wkL
  simp only [List.mem_map, List.mem_filter, List.mem_range]
  constructor
  · rintro ⟨j, ⟨h1, h2⟩, h3⟩
    have : j = w := by omega
    subst this; exact ⟨h1, h2⟩
  · rintro ⟨h1, h2⟩; exact ⟨w, ⟨h1, h2⟩, rfl⟩
end Go.Proofs.Ytnhokodcmeekhaa
namespace Go.Proofs.Ytnhokodcmeekhaa
open Go Kern
/-! A crop's sweetness is a truth of its field -/
theorem stp_le {c : CropD} (h : c.Ok) {a b : Nat} (hab : a ≤ b) : c.stp b ≤ c.stp a := by
  induction b with
  | zero => have : a = 0 := by omega
            subst this; exact Int.le_refl _
  | succ b ih =>
    by_cases e : a = b + 1
    · subst e; exact Int.le_refl _
    · have h1 := ih (by omega)
      have h2 := (fall_bd h b).1
      have h3 : c.stp (b + 1) = c.stp b - c.fall b := rfl
      omega
theorem sweet_lo {c : CropD} (h : c.Ok) {i j : Nat} (hij : i ≤ j) : ((j : Int) - i) * c.stp j ≤ c.sweet j - c.sweet i := by
  obtain ⟨d, rfl⟩ : ∃ d, j = i + d := ⟨j - i, by omega⟩
  have key : ∀ d e : Nat, d ≤ e → (d : Int) * c.stp (i + e) ≤ c.sweet (i + d) - c.sweet i := by
    intro d
    induction d with
    | zero => intro e _; simp
    | succ d ih =>
      intro e he
      have h1 := ih e (by omega)
      have h2 := stp_le h (show i + d ≤ i + e by omega)
      have h3 : c.sweet (i + (d + 1)) = c.sweet (i + d) + c.stp (i + d) := rfl
      have h4 : ((d + 1 : Nat) : Int) * c.stp (i + e) = (d : Int) * c.stp (i + e) + c.stp (i + e) := by push_cast; rw [Int.add_mul]; omega
      omega
  have := key d d (Nat.le_refl _)
  rw [show ((i + d : Nat) : Int) - i = d by omega]
  exact this
theorem sweet_hi {c : CropD} (h : c.Ok) {j k : Nat} (hjk : j ≤ k) : c.sweet k - c.sweet j ≤ ((k : Int) - j) * c.stp j := by
  obtain ⟨d, rfl⟩ : ∃ d, k = j + d := ⟨k - j, by omega⟩
  have key : ∀ d : Nat, c.sweet (j + d) - c.sweet j ≤ (d : Int) * c.stp j := by
    intro d
    induction d with
    | zero => simp
    | succ d ih =>
      have h2 := stp_le h (show j ≤ j + d by omega)
      have h3 : c.sweet (j + (d + 1)) = c.sweet (j + d) + c.stp (j + d) := rfl
      have h4 : ((d + 1 : Nat) : Int) * c.stp j = (d : Int) * c.stp j + c.stp j := by push_cast; rw [Int.add_mul]; omega
      omega
  rw [show ((j + d : Nat) : Int) - j = d by omega]
  exact key d
theorem sweet_con {c : CropD} (h : c.Ok) {i j k : Nat} (hij : i < j) (hjk : j < k) : c.sweet i * ((k : Int) - j) + c.sweet k * ((j : Int) - i) ≤ c.sweet j * ((k : Int) - i) := by
  have a := Int.mul_le_mul_of_nonneg_right (sweet_lo h (show i ≤ j by omega)) (show (0 : Int) ≤ (k : Int) - j by omega)
  have b := Int.mul_le_mul_of_nonneg_right (sweet_hi h (show j ≤ k by omega)) (show (0 : Int) ≤ (j : Int) - i by omega)
  have e1 : ((j : Int) - i) * c.stp j * ((k : Int) - j) = ((k : Int) - j) * c.stp j * ((j : Int) - i) := by ac_rfl
  have e2 : c.sweet j * ((k : Int) - i) - (c.sweet i * ((k : Int) - j) + c.sweet k * ((j : Int) - i)) = (c.sweet j - c.sweet i) * ((k : Int) - j) - (c.sweet k - c.sweet j) * ((j : Int) - i) := by grind
  omega
/-- A sample that is right. -/
def Right (x : Nat → Int) (s : SampD) : Prop := s.val - s.off ≤ x s.week.toNat ∧ x s.week.toNat ≤ s.val + s.off
theorem end_truth {x : Nat → Int} (w : Nat) : ∀ (ss : List SampD) (p : Int × Int), p.1 ≤ x w ∧ x w ≤ p.2 → (∀ s ∈ ss, Right x s) → (ss.foldl (endS w) p).1 ≤ x w ∧ x w ≤ (ss.foldl (endS w) p).2
  | [], _, h, _ => h
  | s :: r, p, h, hs => by
    refine end_truth w r (endS w p s) ?_ fun y hy => hs y (.tail _ hy)
    have h1 := hs s (.head _)
    unfold endS
    split
    · rename_i e
      unfold Right at h1
      rw [e, Int.toNat_natCast] at h1
      simp only []
      omega
    · exact h
theorem crop_truth {c : CropD} (hc : c.Ok) {ss : List SampD} (h1 : fieldErr c.n c.lo c.hi ss = 0) (hs : ∀ s ∈ ss, Right c.sweet s) : Truth c.n (LF c.n c.lo c.hi ss) (HF c.n c.lo c.hi ss) c.sweet := by
  have key : ∀ w, w < c.n → (LF c.n c.lo c.hi ss w).o ≤ c.sweet w ∧ c.sweet w ≤ (HF c.n c.lo c.hi ss w).o := fun w hw => by
    rw [LF_ref h1 hw, HF_ref h1 hw]
    exact end_truth w ss (c.lo, c.hi) (sweet_range hc hw) hs
  refine ⟨fun w hw => by rw [LF_ref h1 hw, HF_ref h1 hw]; exact ⟨rfl, rfl⟩, fun w hw => (key w hw).1, fun w hw => (key w hw).2, fun i j k hij hjk _ => sweet_con hc hij hjk⟩
theorem crop_ss {c : CropD} (hc : c.Ok) : fieldErr c.n c.lo c.hi c.ss = 0 ∧ ∀ s ∈ c.ss, Right c.sweet s := by
  have hsl : c.ss.length ≤ 15 := by unfold CropD.ss; simp; omega
  refine ⟨crop_valid hc _ (by omega) fun x hx => ?_, fun x hx => ?_⟩
  · obtain ⟨z, hz, rfl⟩ := List.mem_map.1 hx
    obtain ⟨a1, a2, a3, _⟩ := samp_ok hc (hc.samples z (List.mem_of_mem_take hz))
    omega
  · obtain ⟨z, hz, rfl⟩ := List.mem_map.1 hx
    obtain ⟨_, _, _, a4⟩ := samp_ok hc (hc.samples z (List.mem_of_mem_take hz))
    exact a4
theorem Truth.noHas {m : Nat} {lo hi : Int} {ss : List SampD} {x : Nat → Int} (h1 : fieldErr m lo hi ss = 0) (h : Truth m (LF m lo hi ss) (HF m lo hi ss) x) : ¬ HasClash m lo hi ss := by
  rintro ⟨i, j, k, a, b, c, d⟩
  simp only [Int.toNat_natCast] at a b c
  have := h.nocl.all i j k a b c
  rw [show clashB (LF m lo hi ss) (HF m lo hi ss) i j k = hB lo hi ss i j k from hB_eq h1 i j k a b c] at this
  rw [this] at d; cases d
/-! A number of a list -/
set_option maxRecDepth 100000 in
set_option maxHeartbeats 2000000 in
theorem has_ev (v : Value) (l : List Int) (x : Int) (s : St) (h : IntsAt s v l) (hl : l.length ≤ 1000000) : Ev TT 34 [v, .int .i64 x] s fun r s' => r = .bool (decide (x ∈ l)) ∧ Keep s s' := by
  obtain ⟨a, c, rfl⟩ := h.shape
  rw [List.length_map] at h ⊢
  refine Ev.intro (fn := Try.f34) rfl (by kernel_rfl) rfl rfl ?_
  apply zz
  refine Cd.ra (h := ?_)
  apply Run.by_eq
  · intro self
    conv => lhs; simp -implicitDefEqProofs (maxSteps := 300000) (disch := omega) [-getElem?_pos, -getElem?_neg]
  try (with_reducible refine Run.ret ?_)
  apply zz
  refine Cd.ra (h := ?_)
  apply Run.by_eq
  · intro self
    conv => lhs; simp -implicitDefEqProofs (maxSteps := 300000) (disch := omega) [-getElem?_pos, -getElem?_neg]
  try (with_reducible refine Run.ret ?_)
  apply zz
  refine Cd.inv (fun z f s' => ∃ k : Nat, k ≤ l.length ∧ z = l.length - k ∧ f.marks = [] ∧ f.get 1 = .int .i64 x ∧ f.get 7 = .slice a l.length c ∧ f.get 8 = .int .i64 l.length ∧ f.get 9 = .int .i64 k ∧ Keep s s' ∧ ∀ (j : Nat) (y : Int), j < k → l[j]? = some y → y ≠ x) l.length ?_ ?_
  · exact ⟨0, by omega, rfl, by simp, by simp, by simp, by simp, by simp, ⟨by (try simp only [pushed_next', upded_next']); omega, fun i hi => by simp -implicitDefEqProofs (disch := omega) []⟩, fun j y h => by omega⟩
  rintro z f s' ⟨k, hk, rfl, hm, g1, g7, g8, g9, hkp, hz⟩
  by_cases hlt : k < l.length
  · have hlt' : (k : Int) < l.length := by omega
    obtain ⟨y, hy⟩ : ∃ y, l[k]? = some y := ⟨l[k], by simp [hlt]⟩
    obtain ⟨b, off, o, cs, gg, rfl, hb, ho, hc, ht⟩ := IntsAt.at (h.keep hkp) hy
    apply zz
    refine Cd.ra (h := ?_)
    apply Run.by_eq
    · intro self
      conv => lhs; simp -implicitDefEqProofs (maxSteps := 300000) (disch := omega) [-getElem?_pos, -getElem?_neg, g9, g8, hlt']
    try (with_reducible refine Run.ret ?_)
    apply zz
    apply Cd.ite rfl
    · conv => lhs; simp -implicitDefEqProofs (maxSteps := 300000) (disch := omega) [-getElem?_pos, -getElem?_neg]
    all_goals intro c0
    all_goals try (cases c0; done)
    all_goals try simp only [Bool.not_eq_true', Bool.not_eq_false', decide_eq_true_eq, decide_eq_false_iff_not] at c0
    all_goals apply zz
    apply zz
    refine Cd.ra (h := ?_)
    apply Run.by_eq
    · intro self
      conv => lhs; simp -implicitDefEqProofs (maxSteps := 300000) (disch := omega) [-getElem?_pos, -getElem?_neg, g7, g9, hlt, ho, hc, ht]
    try (with_reducible refine Run.ret ?_)
    apply zz
    by_cases hyx : y = x
    · have hd : decide (x ∈ l) = true := by rw [← hyx]; simpa using List.mem_of_getElem? hy
      rw [hd]
      apply zz
      refine Cd.ra (h := ?_)
      apply Run.by_eq
      · intro self
        conv => lhs; simp -implicitDefEqProofs (maxSteps := 300000) (disch := omega) [-getElem?_pos, -getElem?_neg, g1, hyx]
      try (with_reducible refine Run.ret ?_)
      apply zz
      apply Cd.ite rfl
      · conv => lhs; simp -implicitDefEqProofs (maxSteps := 300000) (disch := omega) [-getElem?_pos, -getElem?_neg]
      all_goals intro c1
      all_goals try (cases c1; done)
      all_goals try simp only [Bool.not_eq_true', Bool.not_eq_false', decide_eq_true_eq, decide_eq_false_iff_not] at c1
      all_goals apply zz
      apply zz
      refine Cd.ra (h := ?_)
      apply Run.by_eq
      · intro self
        conv => lhs; simp -implicitDefEqProofs (maxSteps := 300000) (disch := omega) [-getElem?_pos, -getElem?_neg]
      try (with_reducible refine Run.ret ?_)
      apply zz
      apply Leave.mk (by first | exact .inl rfl | exact .inr rfl) (by simp only [Fr.marks_put, fr0_marks, hm])
      · conv => lhs; simp -implicitDefEqProofs (disch := omega) [Try.results34, hm]
      exact ⟨rfl, hkp⟩
    · apply zz
      refine Cd.ra (h := ?_)
      apply Run.by_eq
      · intro self
        conv => lhs; simp -implicitDefEqProofs (maxSteps := 300000) (disch := omega) [-getElem?_pos, -getElem?_neg, g1, hyx]
      try (with_reducible refine Run.ret ?_)
      apply zz
      apply Cd.ite rfl
      · conv => lhs; simp -implicitDefEqProofs (maxSteps := 300000) (disch := omega) [-getElem?_pos, -getElem?_neg]
      all_goals intro c1
      all_goals try (cases c1; done)
      all_goals try simp only [Bool.not_eq_true', Bool.not_eq_false', decide_eq_true_eq, decide_eq_false_iff_not] at c1
      all_goals apply zz
      apply zz
      refine Cd.ra (h := ?_)
      apply Run.by_eq
      · intro self
        conv => lhs; simp -implicitDefEqProofs (maxSteps := 300000) (disch := omega) [-getElem?_pos, -getElem?_neg, g9]
      try (with_reducible refine Run.ret ?_)
      apply zz
      refine LoopK.nm (l.length - (k + 1)) (by omega) ⟨k + 1, by omega, rfl, by simp [hm], by simp [g1], by simp [g7], by simp [g8], by simp, hkp, fun j y' hj hy' => ?_⟩
      by_cases e : j = k
      · subst e; rw [hy] at hy'; cases hy'; exact hyx
      · exact hz j y' (by omega) hy'
  · obtain rfl : k = l.length := by omega
    have hd : decide (x ∈ l) = false := by
      simp only [decide_eq_false_iff_not]
      intro hx
      obtain ⟨j, hj, e⟩ := List.mem_iff_getElem.1 hx
      exact hz j x hj (by rw [List.getElem?_eq_getElem hj, e]) rfl
    rw [hd]
    apply zz
    refine Cd.ra (h := ?_)
    apply Run.by_eq
    · intro self
      conv => lhs; simp -implicitDefEqProofs (maxSteps := 300000) (disch := omega) [-getElem?_pos, -getElem?_neg, g9, g8]
    try (with_reducible refine Run.ret ?_)
    apply zz
    apply Cd.ite rfl
    · conv => lhs; simp -implicitDefEqProofs (maxSteps := 300000) (disch := omega) [-getElem?_pos, -getElem?_neg]
    all_goals intro c0
    all_goals try (cases c0; done)
    all_goals try simp only [Bool.not_eq_true', Bool.not_eq_false', decide_eq_true_eq, decide_eq_false_iff_not] at c0
    all_goals apply zz
    apply zz
    refine Cd.ra (h := ?_)
    apply Run.by_eq
    · intro self
      conv => lhs; simp -implicitDefEqProofs (maxSteps := 300000) (disch := omega) [-getElem?_pos, -getElem?_neg]
    try (with_reducible refine Run.ret ?_)
    apply zz
    apply Leave.mk (by first | exact .inl rfl | exact .inr rfl) (by simp only [Fr.marks_put, fr0_marks, hm])
    · conv => lhs; simp -implicitDefEqProofs (disch := omega) [Try.results34, hm]
    exact ⟨rfl, hkp⟩
end Go.Proofs.Ytnhokodcmeekhaa
namespace Go.Proofs.Ytnhokodcmeekhaa
open Go Kern
/-! The stage's theorem: its law -/
structure TFacts (c : CropD) (least : Int) (w : Nat) : Prop where
  kl : (knownL c.n c.lo c.hi c.ss)[w]? = some (flF (lowF c.n (bndN c.n c.lo c.hi c.ss).1 w), ceF (upF c.n (bndN c.n c.lo c.hi c.ss).1 (bndN c.n c.lo c.hi c.ss).2 w))
  lo : flF (lowF c.n (bndN c.n c.lo c.hi c.ss).1 w) ≤ c.sweet w
  hi : c.sweet w ≤ ceF (upF c.n (bndN c.n c.lo c.hi c.ss).1 (bndN c.n c.lo c.hi c.ss).2 w)
  loss : c.mst c.n - c.sweet w ≤ ceF (RF c.n c.lo c.hi c.ss w)
  best : ceF (RF c.n c.lo c.hi c.ss (bestI (RF c.n c.lo c.hi c.ss) (c.n - 1))) ≤ ceF (RF c.n c.lo c.hi c.ss w)
  peak : c.sweet w = c.mst c.n → (w : Int) ∈ wkL c.n (fromB (UF c.n c.lo c.hi c.ss) (topF c.n (LF c.n c.lo c.hi c.ss)))
  sure : (w : Int) ∈ wkL c.n (fromB (WF c.n c.lo c.hi c.ss) ⟨limI least, 1⟩) → least ≤ c.sweet w
  maybe : least ≤ c.sweet w → (w : Int) ∈ wkL c.n (fromB (UF c.n c.lo c.hi c.ss) ⟨limI least, 1⟩)
@[simp] theorem conv_64_3 {self : Self} {f : Fr} {s : St} {x : Operand} : actO TT self (.convert 64 3 x) f s = pureR (vConv .i64 x f.eval s.heap) s := o_convert_3 (by rw [und_64]; rfl)
end Go.Proofs.Ytnhokodcmeekhaa
namespace Go.Proofs.Ytnhokodcmeekhaa
open Go Kern
/-! Ripe weeks, and those of peaks, lie next to each other -/
theorem two_ge {La Lk t : Int} {p q : Int} (h1 : t ≤ La) (h2 : t ≤ Lk) (hp : 0 ≤ p) (hq : 0 ≤ q) : t * (p + q) ≤ La * p + Lk * q := by
  have := mul_le2 h1 h2 hp hq
  rw [Int.mul_add]; exact this
/-- A line that has come to some height goes on beyond it. -/
theorem rise {Li Lk t i v w k : Int} (h1 : Li < t) (hiv : i < v) (hvw : v < w) (hwk : w < k) (h : t * (k - i) ≤ Li * (k - v) + Lk * (v - i)) : t * (k - i) ≤ Li * (k - w) + Lk * (w - i) := by
  have e0 : Li * (k - v) + Lk * (v - i) - t * (k - i) = (Lk - t) * (v - i) - (t - Li) * (k - v) := by grind
  have g0 : 0 ≤ (t - Li) * (k - v) := Int.mul_nonneg (by omega) (by omega)
  have g1 : 0 ≤ (Lk - t) * (v - i) := by omega
  have g2 : 0 ≤ Lk - t := Int.nonneg_of_mul_nonneg_left g1 (by omega)
  have g3 : 0 ≤ (w - v) * ((Lk - t) + (t - Li)) := Int.mul_nonneg (by omega) (by omega)
  have e1 : Li * (k - w) + Lk * (w - i) - t * (k - i) = (Li * (k - v) + Lk * (v - i) - t * (k - i)) + (w - v) * ((Lk - t) + (t - Li)) := by grind
  omega
theorem flat {T Hn t n x : Int} (h1 : t < x) (h : T * (n - t) ≤ T * (n - x) + Hn * (x - t)) : T ≤ Hn := by
  have e : T * (n - x) + Hn * (x - t) - T * (n - t) = (Hn - T) * (x - t) := by grind
  have g : 0 ≤ (Hn - T) * (x - t) := by omega
  have := Int.nonneg_of_mul_nonneg_left g (by omega)
  omega
theorem steep {La Hb T a b w w2 : Int} (hab : a < b) (hbw : b < w) (hw2 : w < w2) (h1 : La * (b - w) + Hb * (w - a) < T * (b - a)) (h2 : T * (b - a) ≤ La * (b - w2) + Hb * (w2 - a)) : Hb < T ∧ ∀ w1, w1 < w → La * (b - w1) + Hb * (w1 - a) < T * (b - a) := by
  have e1 : (La * (b - w2) + Hb * (w2 - a)) - (La * (b - w) + Hb * (w - a)) = (Hb - La) * (w2 - w) := by grind
  have g1 : 0 < (Hb - La) * (w2 - w) := by omega
  have g2 : 0 < Hb - La := Int.pos_of_mul_pos_left g1 (by omega)
  have key : ∀ w1, w1 < w → La * (b - w1) + Hb * (w1 - a) < T * (b - a) := fun w1 h => by
    have e2 : (La * (b - w) + Hb * (w - a)) - (La * (b - w1) + Hb * (w1 - a)) = (Hb - La) * (w - w1) := by grind
    have := Int.mul_pos g2 (show 0 < w - w1 by omega)
    omega
  refine ⟨?_, key⟩
  have h3 := key b hbw
  rw [Int.sub_self, Int.mul_zero, Int.zero_add] at h3
  exact Int.lt_of_mul_lt_mul_right h3 (by omega)
/-- What it says that the greatest sweetness is at least some number. -/
structure UpGe (m : Nat) (L H : Nat → Frac) (T : Int) (w : Nat) : Prop where
  h : T ≤ (H w).o
  left : ∀ a b, a < b → b < w → T * ((b : Int) - a) ≤ (L a).o * ((b : Int) - w) + (H b).o * ((w : Int) - a)
  right : ∀ a b, w < b → b < a → a < m → T * ((a : Int) - b) ≤ (H b).o * ((a : Int) - w) + (L a).o * ((w : Int) - b)
theorem up_iff {m w : Nat} {L H : Nat → Frac} {T : Int} (hN : NoCl m L H) (hw : w < m) : LeF ⟨T, 1⟩ (upF m L H w) ↔ UpGe m L H T w := by
  obtain ⟨hL, hH⟩ := hN.pos
  have hlp := up_lines_pos hL hH hw
  obtain ⟨up, u0, u1⟩ := fore_min ((towardL m w).map fun p => lineF p.1 (L p.1) p.2 (H p.2) w) (H w) (hH w hw) hlp
  constructor
  · intro h
    refine ⟨?_, fun a b hab hbw => ?_, fun a b hwb hba ham => ?_⟩
    · have := LeF.trans (show (0 : Int) < 1 by decide) up (hH w hw) h u0
      unfold LeF at this
      rw [(hN.u w hw).2] at this
      simpa using this
    · have hx := u1 _ (List.mem_map.2 ⟨(a, b), toward_mem.2 ⟨by show a < m; omega, .inl ⟨hab, hbw⟩⟩, rfl⟩)
      have := LeF.trans (show (0 : Int) < 1 by decide) up (line_pos (hL a (by omega)) (hH b (by omega)) (by omega)) h hx
      unfold LeF lineF lineO at this
      rw [if_neg (by omega)] at this
      simp only [(hN.u a (by omega)).1, (hN.u b (by omega)).2, Int.mul_one, Int.one_mul] at this
      exact this
    · have hx := u1 _ (List.mem_map.2 ⟨(a, b), toward_mem.2 ⟨ham, .inr ⟨hwb, hba⟩⟩, rfl⟩)
      have := LeF.trans (show (0 : Int) < 1 by decide) up (line_pos (hL a ham) (hH b (by omega)) (by omega)) h hx
      unfold LeF lineF lineO at this
      rw [if_pos (by omega)] at this
      simp only [(hN.u a ham).1, (hN.u b (by omega)).2, Int.mul_one, Int.one_mul] at this
      exact this
  · intro h
    unfold upF
    rcases foreF_mem (bf := belowB) (H w) ((towardL m w).map fun p => lineF p.1 (L p.1) p.2 (H p.2) w) with e | e
    · rw [e]; unfold LeF; rw [(hN.u w hw).2]; simpa using h.h
    · obtain ⟨⟨a, b⟩, hp, hx⟩ := List.mem_map.1 e
      rw [← hx]
      have hm := toward_mem.1 hp
      simp only [] at hm ⊢
      obtain ⟨ha, hm | hm⟩ := hm
      · unfold lineF lineO LeF
        rw [if_neg (by omega)]
        simp only [(hN.u a ha).1, (hN.u b (by omega)).2, Int.mul_one, Int.one_mul]
        exact h.left a b hm.1 hm.2
      · unfold lineF lineO LeF
        rw [if_pos (by omega)]
        simp only [(hN.u a ha).1, (hN.u b (by omega)).2, Int.mul_one, Int.one_mul]
        exact h.right a b hm.1 hm.2 ha
theorem low_iff {m w : Nat} {L H : Nat → Frac} {t : Int} (hN : NoCl m L H) (hw : w < m) : LeF ⟨t, 1⟩ (lowF m L w) ↔ t ≤ (L w).o ∨ ∃ i k, i < w ∧ w < k ∧ k < m ∧ t * ((k : Int) - i) ≤ (L i).o * ((k : Int) - w) + (L k).o * ((w : Int) - i) := by
  obtain ⟨hL, hH⟩ := hN.pos
  have hlp : ∀ x ∈ (acrossL m w).map (fun p => lineF p.1 (L p.1) p.2 (L p.2) w), 0 < x.u := fun x hx => by
    obtain ⟨p, hp, rfl⟩ := List.mem_map.1 hx
    have := across_mem.1 hp
    exact line_pos (hL _ (by omega)) (hL _ (by omega)) (by omega)
  obtain ⟨lp, l0, l1⟩ := fore_max _ _ (hL w hw) hlp
  have hline : ∀ i k, i < w → w < k → k < m → lineF i (L i) k (L k) w = ⟨(L i).o * ((k : Int) - w) + (L k).o * ((w : Int) - i), (k : Int) - i⟩ := fun i k hi hk hkm => by
    unfold lineF lineO
    rw [if_neg (by omega)]
    simp only [(hN.u i (by omega)).1, (hN.u k hkm).1, Int.mul_one, Int.one_mul]
  constructor
  · intro h
    rcases foreF_mem (bf := aboveB) (L w) ((acrossL m w).map fun p => lineF p.1 (L p.1) p.2 (L p.2) w) with e | e
    · left
      unfold lowF at h
      rw [e] at h
      unfold LeF at h
      rw [(hN.u w hw).1] at h
      simpa using h
    · right
      obtain ⟨⟨i, k⟩, hp, hx⟩ := List.mem_map.1 e
      obtain ⟨h1, h2, h3⟩ := across_mem.1 hp
      simp only [] at h1 h2 h3 hx
      unfold lowF at h
      rw [← hx, hline i k h1 h2 h3] at h
      unfold LeF at h
      simp only [Int.mul_one] at h
      exact ⟨i, k, h1, h2, h3, h⟩
  · rintro (h | ⟨i, k, h1, h2, h3, h⟩)
    · refine LeF.trans (show (0 : Int) < 1 by decide) (hL w hw) lp (?_ : LeF _ (L w)) l0
      unfold LeF; rw [(hN.u w hw).1]; simpa using h
    · have hx := l1 _ (List.mem_map.2 ⟨(i, k), across_mem.2 ⟨h1, h2, h3⟩, rfl⟩)
      refine LeF.trans (show (0 : Int) < 1 by decide) (line_pos (hL i (by omega)) (hL k h3) (by omega)) lp ?_ hx
      simp only []
      rw [hline i k h1 h2 h3]
      unfold LeF
      simp only [Int.mul_one]
      exact h
/-- Weeks that are surely ripe lie next to each other. -/
theorem low_conv {m a b c : Nat} {L H : Nat → Frac} {t : Int} (hN : NoCl m L H) (hab : a < b) (hbc : b < c) (hc : c < m) (h1 : LeF ⟨t, 1⟩ (lowF m L a)) (h2 : LeF ⟨t, 1⟩ (lowF m L c)) : LeF ⟨t, 1⟩ (lowF m L b) := by
  rw [low_iff hN (by omega)] at h1 h2 ⊢
  by_cases hb : t ≤ (L b).o
  · exact .inl hb
  have hl : (∃ p, p < b ∧ t ≤ (L p).o) ∨ ∃ i k, i < b ∧ b < k ∧ k < m ∧ t * ((k : Int) - i) ≤ (L i).o * ((k : Int) - b) + (L k).o * ((b : Int) - i) := by
    rcases h1 with h1 | ⟨i, k, hi, hk, hkm, h⟩
    · exact .inl ⟨a, hab, h1⟩
    · by_cases hp : t ≤ (L i).o
      · exact .inl ⟨i, by omega, hp⟩
      · by_cases hkb : k ≤ b
        · refine .inl ⟨k, ?_, ?_⟩
          · rcases Nat.lt_or_eq_of_le hkb with h' | rfl
            · exact h'
            · exfalso
              have e0 : (L i).o * ((k : Int) - a) + (L k).o * ((a : Int) - i) - t * ((k : Int) - i) = ((L k).o - t) * ((a : Int) - i) - (t - (L i).o) * ((k : Int) - a) := by grind
              have g1 : 0 ≤ (t - (L i).o) * ((k : Int) - a) := Int.mul_nonneg (by omega) (by omega)
              have g2 : ((L k).o - t) * ((a : Int) - i) < 0 := Int.mul_neg_of_neg_of_pos (by omega) (by omega)
              omega
          · have e0 : (L i).o * ((k : Int) - a) + (L k).o * ((a : Int) - i) - t * ((k : Int) - i) = ((L k).o - t) * ((a : Int) - i) - (t - (L i).o) * ((k : Int) - a) := by grind
            have g1 : 0 ≤ (t - (L i).o) * ((k : Int) - a) := Int.mul_nonneg (by omega) (by omega)
            have g2 : 0 ≤ ((L k).o - t) * ((a : Int) - i) := by omega
            have := Int.nonneg_of_mul_nonneg_left g2 (by omega)
            omega
        · exact .inr ⟨i, k, by omega, by omega, hkm, rise (by omega) (by omega) (by omega) (by omega) h⟩
  have hr : (∃ q, b < q ∧ q < m ∧ t ≤ (L q).o) ∨ ∃ i k, i < b ∧ b < k ∧ k < m ∧ t * ((k : Int) - i) ≤ (L i).o * ((k : Int) - b) + (L k).o * ((b : Int) - i) := by
    rcases h2 with h2 | ⟨i, k, hi, hk, hkm, h⟩
    · exact .inl ⟨c, hbc, hc, h2⟩
    · by_cases hp : t ≤ (L k).o
      · exact .inl ⟨k, by omega, hkm, hp⟩
      · have e0 : (L i).o * ((k : Int) - c) + (L k).o * ((c : Int) - i) - t * ((k : Int) - i) = ((L i).o - t) * ((k : Int) - c) - (t - (L k).o) * ((c : Int) - i) := by grind
        have g1 : 0 ≤ (t - (L k).o) * ((c : Int) - i) := Int.mul_nonneg (by omega) (by omega)
        have g2 : 0 ≤ ((L i).o - t) * ((k : Int) - c) := by omega
        have g3 := Int.nonneg_of_mul_nonneg_left g2 (by omega)
        by_cases hib : b < i
        · exact .inl ⟨i, hib, by omega, by omega⟩
        · have hne : i ≠ b := by rintro rfl; omega
          have := rise (Li := (L k).o) (Lk := (L i).o) (t := t) (i := -(k : Int)) (v := -(c : Int)) (w := -(b : Int)) (k := -(i : Int)) (by omega) (by omega) (by omega) (by omega) (by
            rw [show -(i : Int) - -(k : Int) = k - i by omega, show -(i : Int) - -(c : Int) = c - i by omega, show -(c : Int) - -(k : Int) = k - c by omega]; omega)
          rw [show -(i : Int) - -(k : Int) = k - i by omega, show -(i : Int) - -(b : Int) = b - i by omega, show -(b : Int) - -(k : Int) = k - b by omega] at this
          exact .inr ⟨i, k, by omega, by omega, hkm, by omega⟩
  rcases hl with ⟨p, hp, hpt⟩ | h
  · rcases hr with ⟨q, hq, hqm, hqt⟩ | h
    · refine .inr ⟨p, q, hp, hq, hqm, ?_⟩
      have := two_ge (p := (q : Int) - b) (q := (b : Int) - p) hpt hqt (by omega) (by omega)
      rw [show (q : Int) - b + ((b : Int) - p) = q - p by omega] at this
      exact this
    · exact .inr h
  · exact .inr h
/-- Weeks in which the peak can lie are next to each other. -/
theorem up_conv {m a b c t0 : Nat} {L H : Nat → Frac} {T : Int} (hN : NoCl m L H) (ht0 : t0 < m) (hT : (L t0).o = T) (hab : a < b) (hbc : b < c) (hc : c < m) (h1 : LeF ⟨T, 1⟩ (upF m L H a)) (h2 : LeF ⟨T, 1⟩ (upF m L H c)) : LeF ⟨T, 1⟩ (upF m L H b) := by
  rw [up_iff hN (by omega)] at h1 h2 ⊢
  have hLH : ∀ j, j < m → (L j).o ≤ (H j).o := fun j hj => nocl_one hN.u hN.all hj
  -- a high below the top, with the top on its left, or on its right
  have hleft : ∀ j, j < c → t0 < j → T ≤ (H j).o := fun j hj h => by
    have := h2.left t0 j h hj
    rw [hT] at this
    exact flat (t := t0) (n := j) (x := c) (by omega) this
  have hright : ∀ j, a < j → j < t0 → T ≤ (H j).o := fun j hj h => by
    have := h1.right t0 j hj h ht0
    rw [hT] at this
    have := flat (T := T) (Hn := (H j).o) (t := -(t0 : Int)) (n := -(j : Int)) (x := -(a : Int)) (by omega) (by
      rw [show -(j : Int) - -(t0 : Int) = t0 - j by omega, show -(j : Int) - -(a : Int) = a - j by omega, show -(a : Int) - -(t0 : Int) = t0 - a by omega]; omega)
    exact this
  have hmid : ∀ j, a < j → j < c → T ≤ (H j).o := fun j h h' => by
    by_cases e : t0 < j
    · exact hleft j h' e
    · by_cases e2 : j < t0
      · exact hright j h e2
      · have : j = t0 := by omega
        subst this; rw [← hT]; exact hLH j (by omega)
  refine ⟨hmid b hab hbc, fun p q hpq hqb => ?_, fun p q hbq hqp hpm => ?_⟩
  · -- a line from the left
    by_cases h : T * ((q : Int) - p) ≤ (L p).o * ((q : Int) - b) + (H q).o * ((b : Int) - p)
    · exact h
    · exfalso
      obtain ⟨s1, s2⟩ := steep (La := (L p).o) (Hb := (H q).o) (T := T) (a := p) (b := q) (w := b) (w2 := c) (by omega) (by omega) (by omega) (by omega) (h2.left p q hpq (by omega))
      rcases Nat.lt_or_ge q a with hqa | hqa
      · have := h1.left p q hpq hqa
        have := s2 a (by omega)
        omega
      · by_cases e : q = a
        · subst e; have := h1.h; omega
        · have := hmid q (by omega) (by omega); omega
  · by_cases h : T * ((p : Int) - q) ≤ (H q).o * ((p : Int) - b) + (L p).o * ((b : Int) - q)
    · exact h
    · exfalso
      obtain ⟨s1, s2⟩ := steep (La := (L p).o) (Hb := (H q).o) (T := T) (a := -(p : Int)) (b := -(q : Int)) (w := -(b : Int)) (w2 := -(a : Int)) (by omega) (by omega) (by omega) (by
        rw [show -(q : Int) - -(b : Int) = b - q by omega, show -(b : Int) - -(p : Int) = p - b by omega, show -(q : Int) - -(p : Int) = p - q by omega]; omega) (by
        have := h1.right p q (by omega) hqp hpm
        rw [show -(q : Int) - -(a : Int) = a - q by omega, show -(a : Int) - -(p : Int) = p - a by omega, show -(q : Int) - -(p : Int) = p - q by omega]; omega)
      rcases Nat.lt_or_ge c q with hqc | hqc
      · have h3 := h2.right p q hqc hqp hpm
        have h4 := s2 (-(c : Int)) (by omega)
        rw [show -(q : Int) - -(c : Int) = c - q by omega, show -(c : Int) - -(p : Int) = p - c by omega, show -(q : Int) - -(p : Int) = p - q by omega] at h4
        omega
      · by_cases e : q = c
        · subst e; have := h2.h; omega
        · have := hmid q (by omega) (by omega); omega
/-- A list of weeks that lie next to each other. -/
theorem wkL_next {m : Nat} {p : Nat → Bool} (h : ∀ a b c, a < b → b < c → c < m → p a = true → p c = true → p b = true) : ∀ (i : Nat) (x y : Int), (wkL m p)[i]? = some x → (wkL m p)[i + 1]? = some y → y = x + 1 := by
  induction m with
  | zero => intro i x y hx; simp [wkL] at hx
  | succ k ih =>
    intro i x y hx hy
    have ih' := ih fun a b c h1 h2 h3 => h a b c h1 h2 (by omega)
    rw [wkL_succ] at hx hy
    by_cases hp : p k = true
    · rw [if_pos hp] at hx hy
      rcases Nat.lt_or_ge (i + 1) (wkL k p).length with hl | hl
      · rw [List.getElem?_append_left hl] at hy
        rw [List.getElem?_append_left (by omega)] at hx
        exact ih' i x y hx hy
      · by_cases hl2 : i + 1 = (wkL k p).length
        · rw [List.getElem?_append_right hl, hl2, Nat.sub_self] at hy
          simp at hy
          rw [List.getElem?_append_left (by omega)] at hx
          -- the last one before
          cases k with
          | zero => simp [wkL] at hl2
          | succ j =>
            have hpj : p j = true := by
              have hx0 : x ∈ wkL (j + 1) p := List.mem_of_getElem? hx
              unfold wkL at hx0
              obtain ⟨a, ha, rfl⟩ := List.mem_map.1 hx0
              obtain ⟨ha1, ha2⟩ := List.mem_filter.1 ha
              have ha3 : a < j + 1 := by simpa using ha1
              by_cases e : a = j
              · subst e; exact ha2
              · exact h a j (j + 1) (by omega) (by omega) (by omega) ha2 hp
            rw [wkL_succ, if_pos hpj] at hx hl2
            rw [List.length_append, List.length_singleton] at hl2
            have : i = (wkL j p).length := by omega
            subst this
            rw [List.getElem?_append_right (Nat.le_refl _), Nat.sub_self] at hx
            simp at hx
            omega
        · rw [List.getElem?_eq_none (by simp; omega)] at hy; cases hy
    · rw [if_neg hp] at hx hy
      exact ih' i x y hx hy
end Go.Proofs.Ytnhokodcmeekhaa
namespace Go.Proofs.Ytnhokodcmeekhaa
open Go Kern
/-! The law of weeks -/
structure WFacts (c : CropD) (least : Int) (w : Nat) : Prop where
  kl : (knownL c.n c.lo c.hi c.ss)[w]? = some (flF (lowF c.n (bndN c.n c.lo c.hi c.ss).1 w), ceF (upF c.n (bndN c.n c.lo c.hi c.ss).1 (bndN c.n c.lo c.hi c.ss).2 w))
  sure : (w : Int) ∈ wkL c.n (fromB (WF c.n c.lo c.hi c.ss) ⟨limI least, 1⟩) ↔ least ≤ flF (lowF c.n (bndN c.n c.lo c.hi c.ss).1 w)
  may1 : (w : Int) ∈ wkL c.n (fromB (UF c.n c.lo c.hi c.ss) ⟨limI least, 1⟩) → least ≤ ceF (upF c.n (bndN c.n c.lo c.hi c.ss).1 (bndN c.n c.lo c.hi c.ss).2 w)
  may2 : least < ceF (upF c.n (bndN c.n c.lo c.hi c.ss).1 (bndN c.n c.lo c.hi c.ss).2 w) → (w : Int) ∈ wkL c.n (fromB (UF c.n c.lo c.hi c.ss) ⟨limI least, 1⟩)
  may3 : (w : Int) ∈ wkL c.n (fromB (WF c.n c.lo c.hi c.ss) ⟨limI least, 1⟩) → (w : Int) ∈ wkL c.n (fromB (UF c.n c.lo c.hi c.ss) ⟨limI least, 1⟩)
theorem from_iff {g : Nat → Frac} {t : Int} {w : Nat} : fromB g ⟨t, 1⟩ w = true ↔ LeF ⟨t, 1⟩ (g w) := by
  unfold fromB
  rw [Bool.not_eq_true', above_not]
  exact Iff.rfl
theorem low_le_up {m w : Nat} {L H : Nat → Frac} (hN : NoCl m L H) (hw : w < m) : LeF (lowF m L w) (upF m L H w) := by
  refine fore_le (up_ge (fun i hi => hN.u i hi) hw hN.none) fun y hy => ?_
  obtain ⟨⟨i, k⟩, hp, rfl⟩ := List.mem_map.1 hy
  obtain ⟨h1, h2, h3⟩ := across_mem.1 hp
  exact across_le_up hN.u hN.all h1 h2 h3
structure CropF (c : CropD) (least : Int) : Prop where
  w : ∀ w, w < c.n → WFacts c least w
  top : ∃ t0, t0 < c.n ∧ ∃ T, topF c.n (LF c.n c.lo c.hi c.ss) = ⟨T, 1⟩ ∧ (LF c.n c.lo c.hi c.ss t0).o = T
  peaks : ∀ (i : Nat) (x y : Int), (wkL c.n (fromB (UF c.n c.lo c.hi c.ss) (topF c.n (LF c.n c.lo c.hi c.ss))))[i]? = some x → (wkL c.n (fromB (UF c.n c.lo c.hi c.ss) (topF c.n (LF c.n c.lo c.hi c.ss))))[i + 1]? = some y → y = x + 1
  nonemp : wkL c.n (fromB (UF c.n c.lo c.hi c.ss) (topF c.n (LF c.n c.lo c.hi c.ss))) ≠ []
  sures : ∀ (i : Nat) (x y : Int), (wkL c.n (fromB (WF c.n c.lo c.hi c.ss) ⟨limI least, 1⟩))[i]? = some x → (wkL c.n (fromB (WF c.n c.lo c.hi c.ss) ⟨limI least, 1⟩))[i + 1]? = some y → y = x + 1
theorem crop_f {c : CropD} (hc : c.Ok) {least : Int} (hl : 7000 ≤ least ∧ least ≤ 16000) : CropF c least := by
  have hn := n_bd c
  obtain ⟨h1, hR⟩ := crop_ss hc
  have hT := crop_truth hc h1 hR
  have hN := hT.nocl
  obtain ⟨hm, hb⟩ := base_ok h1
  obtain ⟨hLp, hHp⟩ := hN.pos
  have hlim : limI least = least := by unfold limI; omega
  have htop := top_eq (L := LF c.n c.lo c.hi c.ss) (L' := LR c.lo c.hi c.ss) (m := c.n) (by omega) fun i hi => LF_ref h1 hi
  have ht0 : ∃ t0, t0 < c.n ∧ (LF c.n c.lo c.hi c.ss t0).o = topI (LR c.lo c.hi c.ss) c.n := by
    rcases foreF_mem (bf := aboveB) (LF c.n c.lo c.hi c.ss 0) ((List.range (c.n - 1)).map fun j => LF c.n c.lo c.hi c.ss (j + 1)) with e | e
    · refine ⟨0, by omega, ?_⟩
      have : topF c.n (LF c.n c.lo c.hi c.ss) = LF c.n c.lo c.hi c.ss 0 := e
      rw [htop] at this; rw [← this]
    · obtain ⟨j, hj, e⟩ := List.mem_map.1 e
      have hj' : j < c.n - 1 := by simpa using hj
      refine ⟨j + 1, by omega, ?_⟩
      have : topF c.n (LF c.n c.lo c.hi c.ss) = LF c.n c.lo c.hi c.ss (j + 1) := e.symm
      rw [htop] at this; rw [← this]
  obtain ⟨t0, ht0, hT0⟩ := ht0
  refine ⟨fun w hw => ?_, ⟨t0, ht0, _, htop, hT0⟩, ?_, ?_, ?_⟩
  · have hlp : 0 < (lowF c.n (bndN c.n c.lo c.hi c.ss).1 w).u := low_pos hLp hw
    have hup : 0 < (upF c.n (bndN c.n c.lo c.hi c.ss).1 (bndN c.n c.lo c.hi c.ss).2 w).u := up_pos hLp hHp hw
    have hlu : LeF (lowF c.n (bndN c.n c.lo c.hi c.ss).1 w) (upF c.n (bndN c.n c.lo c.hi c.ss).1 (bndN c.n c.lo c.hi c.ss).2 w) := low_le_up hN hw
    refine ⟨by unfold knownL; rw [List.getElem?_map, List.getElem?_range hw]; rfl, ?_, fun h => ?_, fun h => ?_, fun h => ?_⟩
    · rw [wkL_mem, hlim, from_iff]
      constructor
      · rintro ⟨_, h⟩
        change LeF ⟨least, 1⟩ (lowF c.n (bndN c.n c.lo c.hi c.ss).1 w) at h
        unfold flF
        rw [Int.le_ediv_iff_mul_le hlp]
        unfold LeF at h
        simp only [Int.mul_one] at h
        exact h
      · intro h
        refine ⟨hw, ?_⟩
        unfold flF at h
        rw [Int.le_ediv_iff_mul_le hlp] at h
        show LeF ⟨least, 1⟩ (lowF c.n (bndN c.n c.lo c.hi c.ss).1 w)
        unfold LeF
        simp only [Int.mul_one]
        exact h
    · rw [wkL_mem, hlim, from_iff] at h
      exact le_ce hup h.2
    · rw [wkL_mem, hlim, from_iff]
      refine ⟨hw, ?_⟩
      rw [← ce_up hup] at h
      have h2 : least + 1 ≤ ((upF c.n (bndN c.n c.lo c.hi c.ss).1 (bndN c.n c.lo c.hi c.ss).2 w).o + (upF c.n (bndN c.n c.lo c.hi c.ss).1 (bndN c.n c.lo c.hi c.ss).2 w).u - 1) / (upF c.n (bndN c.n c.lo c.hi c.ss).1 (bndN c.n c.lo c.hi c.ss).2 w).u := by omega
      have h2' := (Int.le_ediv_iff_mul_le hup).1 h2
      rw [Int.add_mul, Int.one_mul] at h2'
      show LeF ⟨least, 1⟩ (upF c.n (bndN c.n c.lo c.hi c.ss).1 (bndN c.n c.lo c.hi c.ss).2 w)
      change least * (upF c.n (bndN c.n c.lo c.hi c.ss).1 (bndN c.n c.lo c.hi c.ss).2 w).u + (upF c.n (bndN c.n c.lo c.hi c.ss).1 (bndN c.n c.lo c.hi c.ss).2 w).u ≤ _ at h2'
      unfold LeF
      simp only [Int.mul_one]
      omega
    · rw [wkL_mem, hlim, from_iff] at h ⊢
      exact ⟨hw, LeF.trans (show (0 : Int) < 1 by decide) hlp hup h.2 hlu⟩
  · rw [htop]
    refine wkL_next fun a b c' hab hbc hc' h1 h2 => ?_
    rw [from_iff] at h1 h2 ⊢
    exact up_conv hN ht0 hT0 hab hbc hc' h1 h2
  · intro he
    have hmem : (t0 : Int) ∈ wkL c.n (fromB (UF c.n c.lo c.hi c.ss) (topF c.n (LF c.n c.lo c.hi c.ss))) := by
      rw [wkL_mem, htop, from_iff]
      refine ⟨ht0, ?_⟩
      have := up_ge (fun i hi => hN.u i hi) ht0 hN.none
      unfold LeF at this ⊢
      rw [(hN.u t0 ht0).1, hT0] at this
      exact this
    rw [he] at hmem; cases hmem
  · rw [hlim]
    refine wkL_next fun a b c' hab hbc hc' h1 h2 => ?_
    rw [from_iff] at h1 h2 ⊢
    exact low_conv hN hab hbc hc' h1 h2
end Go.Proofs.Ytnhokodcmeekhaa
namespace Go.Proofs.Ytnhokodcmeekhaa
open Go Kern
/-! The law of weeks -/
theorem wkL_elem {m : Nat} {p : Nat → Bool} {x : Int} (h : x ∈ wkL m p) : 0 ≤ x ∧ x < m := by
  unfold wkL at h
  obtain ⟨j, hj, rfl⟩ := List.mem_map.1 h
  have := (List.mem_filter.1 hj).1
  have : j < m := by simpa using this
  omega
set_option maxRecDepth 100000 in
set_option maxHeartbeats 4000000 in
theorem lawW_ev (c : CropD) (hc : c.Ok) (fv sv : Value) (goal : Int) (s : St) (hf : SlAt 1 s fv (c.falls.map u8C)) (hs : SlAt 3 s sv (c.samples.map u8T)) (hg : 0 ≤ goal ∧ goal ≤ 65535) :
    Ev TT 12 [cropV c fv sv, .int .u16 goal] s fun r _ => r = .bool true := by
  have hmd := fun s' (k : Keep s s') => made_ev c hc fv sv s' (hf.keep k) (hs.keep k)
  obtain ⟨af, cf, rfl⟩ := hf.shape
  obtain ⟨az, cz, rfl⟩ := hs.shape
  have hn := n_bd c
  unfold cropV at hmd ⊢
  simp only [List.length_map] at hmd ⊢
  have hhib := hi_bd hc
  have hnhi : ¬ 30000 < c.hi := by omega
  obtain ⟨hSS, hRight⟩ := crop_ss hc
  have hnc := (crop_truth hc hSS hRight).noHas hSS
  have hremg := intOp_rem .i64 goal 9000 hg.1 (by omega)
  have hgb := Int.emod_nonneg goal (show (9000 : Int) ≠ 0 by omega)
  have hgb2 := Int.emod_lt_of_pos goal (show (0 : Int) < 9000 by omega)
  have hCF := crop_f hc (least := 7000 + goal % 9000) (by omega)
  obtain ⟨least, hle⟩ : ∃ least, least = 7000 + goal % 9000 := ⟨_, rfl⟩
  rw [← hle] at hCF
  obtain ⟨hW, _, hPn, hPe, hSn⟩ := hCF
  refine Ev.intro (fn := Try.f12) rfl (by kernel_rfl) rfl rfl ?_
  apply zz
  refine Cd.ra (h := ?_)
  apply Run.by_eq
  · intro self
    conv => lhs; simp -implicitDefEqProofs (maxSteps := 300000) (disch := omega) [-getElem?_pos, -getElem?_neg]
  try (with_reducible refine Run.ret ?_)
  apply zz
  refine Cd.ra (h := ?_)
  apply Run.by_eq
  · intro self
    conv => lhs; simp -implicitDefEqProofs (maxSteps := 300000) (disch := omega) [-getElem?_pos, -getElem?_neg]
  try (with_reducible refine Run.ret ?_)
  apply zz
  refine Run.call ((hmd _ ⟨by (try simp only [pushed_next', upded_next']); omega, fun i hi => by simp -implicitDefEqProofs (disch := omega) []⟩).mono fun v w1 hv => ?_)
  obtain ⟨k1, q, sw, rfl, hq, hsw⟩ := hv
  have k1a := k1.1
  have k1b := k1.2
  try simp only [pushed_next', upded_next'] at k1a k1b hq
  have hQ : SmAt w1 q c.ss := hq.sl (samp_len _)
  have hq1 := SlAt.one hQ
  have hsw1 := SlAt.one hsw
  unfold fieldV
  have hvf := fun s' h => known_ev c.n c.lo c.hi q c.ss s' h (by have := (fieldErr_ok hSS).2.2.1; omega)
  have hpk := fun s' h => peaks_ev c.n c.lo c.hi q c.ss s' h (by have := (fieldErr_ok hSS).2.2.1; omega)
  have hrp := fun s' h => ripe_ev c.n c.lo c.hi least q c.ss s' h (by have := (fieldErr_ok hSS).2.2.1; omega)
  unfold fieldV at hvf hpk hrp
  obtain ⟨aq, cq, rfl⟩ := hQ.shape
  rw [List.length_map] at hQ hvf hpk hrp
  rw [List.length_map]
  have vq : veq 4 (Value.slice aq c.ss.length cq) (Value.slice aq c.ss.length cq) = true := slAt_veq hQ 3
  have hq2 : oneV (Value.slice aq c.ss.length cq) = true := rfl
  apply Run.by_eq
  · intro self
    conv => lhs; simp -implicitDefEqProofs (maxSteps := 300000) (disch := omega) [-getElem?_pos, -getElem?_neg]
  try (with_reducible refine Run.ret ?_)
  apply zz
  refine Cd.mono (Q := fun x f2 s2 => x = Ex.normal ∧ f2.marks = [] ∧ f2.get 1 = .int .u16 goal ∧ f2.get 5 = .pointer (some ⟨w1.next, 0, none⟩) ∧ f2.get 27 = .bool false ∧ Keep w1 s2 ∧ w1.next < s2.next ∧ s2.heap.get w1.next = some (.cells [.int .i64 c.n, .int .i64 c.lo, .int .i64 c.hi, .slice aq c.ss.length cq] none)) ?_ ?_
  · apply zz
    refine Cd.ra (h := ?_)
    apply Run.by_eq
    · intro self
      conv => lhs; simp -implicitDefEqProofs (maxSteps := 300000) (disch := omega) [-getElem?_pos, -getElem?_neg, hnhi]
    try (with_reducible refine Run.ret ?_)
    apply zz
    exact ⟨rfl, by simp, by simp, by simp, by simp, ⟨by (try simp only [pushed_next', upded_next']); omega, fun i hi => by simp -implicitDefEqProofs (disch := omega) []⟩, by simp, by simp -implicitDefEqProofs (disch := omega)⟩
  rintro x f s2 ⟨rfl, hm, g1, g5, g27, kp2, hnx, hP⟩
  apply zz
  apply Cd.ite rfl
  · conv => lhs; simp -implicitDefEqProofs (maxSteps := 300000) (disch := omega) [-getElem?_pos, -getElem?_neg, g27]
  all_goals intro c0
  all_goals try (cases c0; done)
  all_goals try simp only [Bool.not_eq_true', Bool.not_eq_false', decide_eq_true_eq, decide_eq_false_iff_not] at c0
  all_goals apply zz
  have hQ2 := hQ.keep kp2
  clear hmd hf hs
  -- Known
  refine Cd.mono (Q := fun x f3 s3 => x = Ex.normal ∧ f3.marks = [] ∧ f3.get 1 = .int .u16 goal ∧ f3.get 5 = .pointer (some ⟨w1.next, 0, none⟩) ∧ f3.get 8 = .int .i64 0 ∧ Keep s2 s3 ∧ ∃ kv, f3.get 7 = kv ∧ SpAt s3 kv (knownL c.n c.lo c.hi c.ss)) ?_ ?_
  · apply zz
    refine Cd.ra (h := ?_)
    apply Run.by_eq
    · intro self
      conv => lhs; simp -implicitDefEqProofs (maxSteps := 300000) (disch := omega) [-getElem?_pos, -getElem?_neg, g5, hP, vq]
    try (with_reducible refine Run.ret ?_)
    apply zz
    refine Run.call ((hvf _ hQ2).mono fun v w3 hv => ?_)
    obtain ⟨k3, kv, e, rfl, hK⟩ := hv
    have hK2 : e = 0 ∧ SpAt w3 kv (knownL c.n c.lo c.hi c.ss) := by
      rcases hK with ⟨h, _⟩ | ⟨_, _, _, h⟩ | ⟨_, h, g, _⟩
      · exact absurd hSS h
      · exact absurd h hnc
      · refine ⟨h, ?_⟩
        simp only [Int.toNat_natCast] at g
        rw [knownL_rows] at g; exact g
    obtain ⟨rfl, hkv⟩ := hK2
    have ho := SlAt.one hkv
    apply Run.by_eq
    · intro self
      conv => lhs; simp -implicitDefEqProofs (maxSteps := 300000) (disch := omega) [-getElem?_pos, -getElem?_neg]
    try (with_reducible refine Run.ret ?_)
    apply zz
    exact ⟨rfl, by simp [hm], by simp [g1], by simp [g5], by simp, k3, kv, by simp, hkv⟩
  clear hm g1 g5
  rintro x f s3 ⟨rfl, hm, g1, g5, g8, k3, kv, g7, hkv⟩
  apply zz
  have hP3 := (k3.2 _ hnx).trans hP
  have hQ3 := hQ2.keep k3
  -- Peaks
  refine Cd.mono (Q := fun x f4 s4 => x = Ex.normal ∧ f4.marks = [] ∧ f4.get 1 = .int .u16 goal ∧ f4.get 5 = .pointer (some ⟨w1.next, 0, none⟩) ∧ f4.get 8 = .int .i64 0 ∧ Keep s2 s4 ∧ f4.get 7 = kv ∧ SpAt s4 kv (knownL c.n c.lo c.hi c.ss) ∧ f4.get 10 = .int .i64 0 ∧ ∃ pv, f4.get 9 = pv ∧ IntsAt s4 pv (wkL c.n (fromB (UF c.n c.lo c.hi c.ss) (topF c.n (LF c.n c.lo c.hi c.ss))))) ?_ ?_
  · apply zz
    refine Cd.ra (h := ?_)
    apply Run.by_eq
    · intro self
      conv => lhs; simp -implicitDefEqProofs (maxSteps := 300000) (disch := omega) [-getElem?_pos, -getElem?_neg, g5, hP3, vq]
    try (with_reducible refine Run.ret ?_)
    apply zz
    refine Run.call ((hpk _ hQ3).mono fun v w4 hv => ?_)
    obtain ⟨k4, pv, e, rfl, hK⟩ := hv
    obtain ⟨rfl, hpv⟩ := (hK.mode hSS).2 hnc
    have ho := SlAt.one hpv
    apply Run.by_eq
    · intro self
      conv => lhs; simp -implicitDefEqProofs (maxSteps := 300000) (disch := omega) [-getElem?_pos, -getElem?_neg]
    try (with_reducible refine Run.ret ?_)
    apply zz
    exact ⟨rfl, by simp [hm], by simp [g1], by simp [g5], by simp [g8], k3.trans k4, by simp [g7], hkv.keep k4, by simp, pv, by simp, hpv⟩
  clear hm g1 g5 g7 g8 hkv hP3 hQ3 k3
  rintro x f s4 ⟨rfl, hm, g1, g5, g8, k4, g7, hkv, g10, pv, g9, hpv⟩
  apply zz
  have hP4 := (k4.2 _ hnx).trans hP
  have hQ4 := hQ2.keep k4
  -- the goal
  have hlb : 7000 ≤ least ∧ least ≤ 16000 := by omega
  have hle' : 7000 + goal % 9000 = least := hle.symm
  generalize hGM : goal % 9000 = GM at *
  apply zz
  refine Cd.ra (h := ?_)
  apply Run.by_eq
  · intro self
    conv => lhs; simp -implicitDefEqProofs (maxSteps := 300000) (disch := omega) [-getElem?_pos, -getElem?_neg, g1, hremg, hle']
  try (with_reducible refine Run.ret ?_)
  apply zz
  -- Ripe
  refine Cd.mono (Q := fun x f5 s5 => x = Ex.normal ∧ f5.marks = [] ∧ f5.get 5 = .pointer (some ⟨w1.next, 0, none⟩) ∧ f5.get 8 = .int .i64 0 ∧ Keep s2 s5 ∧ f5.get 7 = kv ∧ SpAt s5 kv (knownL c.n c.lo c.hi c.ss) ∧ f5.get 10 = .int .i64 0 ∧ f5.get 9 = pv ∧ IntsAt s5 pv (wkL c.n (fromB (UF c.n c.lo c.hi c.ss) (topF c.n (LF c.n c.lo c.hi c.ss)))) ∧ f5.get 11 = .int .i64 least ∧ f5.get 14 = .int .i64 0 ∧ ∃ uv mv, f5.get 12 = uv ∧ f5.get 13 = mv ∧ IntsAt s5 uv (wkL c.n (fromB (WF c.n c.lo c.hi c.ss) ⟨limI least, 1⟩)) ∧ IntsAt s5 mv (wkL c.n (fromB (UF c.n c.lo c.hi c.ss) ⟨limI least, 1⟩))) ?_ ?_
  · apply zz
    refine Cd.ra (h := ?_)
    apply Run.by_eq
    · intro self
      conv => lhs; simp -implicitDefEqProofs (maxSteps := 300000) (disch := omega) [-getElem?_pos, -getElem?_neg, g5, hP4, vq]
    try (with_reducible refine Run.ret ?_)
    apply zz
    refine Run.call ((hrp _ hQ4).mono fun v w5 hv => ?_)
    obtain ⟨k5, uv, mv, e, rfl, hK⟩ := hv
    obtain ⟨rfl, huv, hmv⟩ := (hK.mode hSS).2 hnc
    have ho := SlAt.one huv
    have ho2 := SlAt.one hmv
    apply Run.by_eq
    · intro self
      conv => lhs; simp -implicitDefEqProofs (maxSteps := 300000) (disch := omega) [-getElem?_pos, -getElem?_neg]
    try (with_reducible refine Run.ret ?_)
    apply zz
    exact ⟨rfl, by simp [hm], by simp [g5], by simp [g8], k4.trans k5, by simp [g7], hkv.keep k5, by simp [g10], by simp [g9], hpv.keep k5, by simp, by simp, uv, mv, by simp, by simp, huv, hmv⟩
  clear hm g1 g5 g7 g8 g9 g10 hkv hpv hP4 hQ4 k4
  rintro x f s5 ⟨rfl, hm, g5, g8, k5, g7, hkv, g10, g9, hpv, g11, g14, uv, mv, g12, g13, huv, hmv⟩
  apply zz
  have hP5 := (k5.2 _ hnx).trans hP
  have tF1 := fun w hw => (hW w hw).kl
  have tF2 := fun w hw => (hW w hw).sure
  have tF3 := fun w hw => (hW w hw).may1
  have tF4 := fun w hw => (hW w hw).may2
  have tF5 := fun w hw => (hW w hw).may3
  have hKlen : (knownL c.n c.lo c.hi c.ss).length = c.n := by simp [knownL]
  have hl1 := wkL_len c.n (fromB (UF c.n c.lo c.hi c.ss) (topF c.n (LF c.n c.lo c.hi c.ss)))
  have hl2 := wkL_len c.n (fromB (WF c.n c.lo c.hi c.ss) ⟨limI least, 1⟩)
  have hl3 := wkL_len c.n (fromB (UF c.n c.lo c.hi c.ss) ⟨limI least, 1⟩)
  have hE1 := fun x => wkL_elem (m := c.n) (p := fromB (UF c.n c.lo c.hi c.ss) (topF c.n (LF c.n c.lo c.hi c.ss))) (x := x)
  have hE2 := fun x => wkL_elem (m := c.n) (p := fromB (WF c.n c.lo c.hi c.ss) ⟨limI least, 1⟩) (x := x)
  clear hW hle hle' hremg hgb hgb2 hrp hpk hvf
  generalize knownL c.n c.lo c.hi c.ss = KL at *
  generalize wkL c.n (fromB (UF c.n c.lo c.hi c.ss) (topF c.n (LF c.n c.lo c.hi c.ss))) = PK at *
  generalize wkL c.n (fromB (WF c.n c.lo c.hi c.ss) ⟨limI least, 1⟩) = SU at *
  generalize wkL c.n (fromB (UF c.n c.lo c.hi c.ss) ⟨limI least, 1⟩) = MA at *
  generalize hAe : lowF c.n (bndN c.n c.lo c.hi c.ss).1 = A at *
  generalize hBe : upF c.n (bndN c.n c.lo c.hi c.ss).1 (bndN c.n c.lo c.hi c.ss).2 = B at *
  obtain ⟨ak, ck, rfl⟩ := hkv.shape
  rw [List.length_map, hKlen] at hkv g7
  have vk : veq 5 (Value.slice ak c.n ck) (Value.slice ak c.n ck) = true := slAt_veq hkv 4
  obtain ⟨ap, cp, rfl⟩ := hpv.shape
  rw [List.length_map] at hpv g9
  obtain ⟨au, cu, rfl⟩ := huv.shape
  rw [List.length_map] at huv g12
  obtain ⟨am, cm, rfl⟩ := hmv.shape
  rw [List.length_map] at hmv g13
  have vm : veq 5 (Value.slice am MA.length cm) (Value.slice am MA.length cm) = true := slAt_veq hmv 4
  have vp : veq 5 (Value.slice ap PK.length cp) (Value.slice ap PK.length cp) = true := slAt_veq hpv 4
  have vu : veq 5 (Value.slice au SU.length cu) (Value.slice au SU.length cu) = true := slAt_veq huv 4
  have hPl0 : 0 < PK.length := List.length_pos_iff.2 hPe
  have hPl : ¬ ((PK.length : Nat) : Int) = 0 := by omega
  apply zz
  refine Cd.ra (h := ?_)
  apply Run.by_eq
  · intro self
    conv => lhs; simp -implicitDefEqProofs (maxSteps := 300000) (disch := omega) [-getElem?_pos, -getElem?_neg, g8]
  try (with_reducible refine Run.ret ?_)
  apply zz
  apply Cd.ite rfl
  · conv => lhs; simp -implicitDefEqProofs (maxSteps := 300000) (disch := omega) [-getElem?_pos, -getElem?_neg]
  all_goals intro c0
  all_goals try (cases c0; done)
  all_goals try simp only [Bool.not_eq_true', Bool.not_eq_false', decide_eq_true_eq, decide_eq_false_iff_not] at c0
  all_goals apply zz
  refine Cd.mono (Q := fun x f7 s7 => x = Ex.normal ∧ f7.marks = [] ∧ f7.get 7 = .slice ak c.n ck ∧ f7.get 9 = .slice ap PK.length cp ∧ f7.get 11 = .int .i64 least ∧ f7.get 12 = .slice au SU.length cu ∧ f7.get 13 = .slice am MA.length cm ∧ f7.get 82 = .bool false ∧ s7 = s5) ?_ ?_
  · apply zz
    refine Cd.ra (h := ?_)
    apply Run.by_eq
    · intro self
      conv => lhs; simp -implicitDefEqProofs (maxSteps := 300000) (disch := omega) [-getElem?_pos, -getElem?_neg, g5, g7, g8, g9, g10, g14, hP5, hPl, hPe]
    try (with_reducible refine Run.ret ?_)
    apply zz
    exact ⟨rfl, by simp [hm], by simp [g7], by simp [g9], by simp [g11], by simp [g12], by simp [g13], by simp [hPe], rfl⟩
  clear hm g5 g7 g8 g9 g10 g11 g12 g13 g14
  rintro x f s7 ⟨rfl, hm, g7, g9, g11, g12, g13, g82, rfl⟩
  apply zz
  apply Cd.ite rfl
  · conv => lhs; simp -implicitDefEqProofs (maxSteps := 300000) (disch := omega) [-getElem?_pos, -getElem?_neg, g82]
  all_goals intro c0
  all_goals try (cases c0; done)
  all_goals try simp only [Bool.not_eq_true', Bool.not_eq_false', decide_eq_true_eq, decide_eq_false_iff_not] at c0
  all_goals apply zz
  apply zz
  refine Cd.ra (h := ?_)
  apply Run.by_eq
  · intro self
    conv => lhs; simp -implicitDefEqProofs (maxSteps := 300000) (disch := omega) [-getElem?_pos, -getElem?_neg]
  try (with_reducible refine Run.ret ?_)
  apply zz
  refine Cd.mono (Q := fun x f8 s8 => x = Ex.exit 0 ∧ f8.marks = [] ∧ f8.get 7 = .slice ak c.n ck ∧ f8.get 9 = .slice ap PK.length cp ∧ f8.get 11 = .int .i64 least ∧ f8.get 12 = .slice au SU.length cu ∧ f8.get 13 = .slice am MA.length cm ∧ s8 = s7) (Cd.inv (fun z f8 s8 => ∃ i : Nat, 1 ≤ i ∧ (i = 1 ∨ i ≤ PK.length) ∧ z = PK.length - (i - 1) ∧ f8.marks = [] ∧ f8.get 7 = .slice ak c.n ck ∧ f8.get 9 = .slice ap PK.length cp ∧ f8.get 11 = .int .i64 least ∧ f8.get 12 = .slice au SU.length cu ∧ f8.get 13 = .slice am MA.length cm ∧ f8.get 15 = .int .i64 i ∧ s8 = s7) PK.length ?_ ?_) ?_
  · exact ⟨1, by omega, by omega, rfl, by simp [hm], by simp [g7], by simp [g9], by simp [g11], by simp [g12], by simp [g13], by simp, rfl⟩
  · clear hm g7 g9 g11 g12 g13
    rintro z f s8 ⟨i, hi1, hi2, rfl, hm, g7, g9, g11, g12, g13, gi, rfl⟩
    by_cases hlt : i < PK.length
    · have hlt' : (i : Int) < PK.length := by omega
      obtain ⟨j, rfl⟩ : ∃ j, i = j + 1 := ⟨i - 1, by omega⟩
      have hjl : j < PK.length := by omega
      obtain ⟨x, hx⟩ : ∃ x, PK[j]? = some x := ⟨PK[j], by simp [hjl]⟩
      obtain ⟨y, hy⟩ : ∃ y, PK[j + 1]? = some y := ⟨PK[j + 1], by simp [hlt]⟩
      have hxy := hPn j x y hx hy
      subst hxy
      have hxb := hE1 x (List.mem_of_getElem? hx)
      obtain ⟨b, off, o, cs, gg, rfl, hb, ho, hcs, hst⟩ := IntsAt.all hpv (show PK ≠ [] by rintro h; rw [h] at hx; simp at hx)
      have t0 := hst j x hx
      have t1 := hst (j + 1) (x + 1) hy
      have hji : ((j + 1 : Nat) : Int) - 1 = (j : Nat) := by omega
      generalize hii : j + 1 = i at *
      apply zz
      refine Cd.ra (h := ?_)
      apply Run.by_eq
      · intro self
        conv => lhs; simp -implicitDefEqProofs (maxSteps := 300000) (disch := omega) [-getElem?_pos, -getElem?_neg, gi, g9, hlt']
      try (with_reducible refine Run.ret ?_)
      apply zz
      apply Cd.ite rfl
      · conv => lhs; simp -implicitDefEqProofs (maxSteps := 300000) (disch := omega) [-getElem?_pos, -getElem?_neg]
      all_goals intro c1
      all_goals try (cases c1; done)
      all_goals try simp only [Bool.not_eq_true', Bool.not_eq_false', decide_eq_true_eq, decide_eq_false_iff_not] at c1
      all_goals apply zz
      apply zz
      refine Cd.drawnH (pl := [(0, 0, false, false), (1, 0, false, false), (2, 3, false, false), (3, 7, false, false), (4, 0, false, false), (5, 0, false, false), (6, 32, false, false), (7, 112, false, false), (8, 240, false, false), (9, 496, false, false), (10, 1023, false, false)]) [false, false, false, false, false, false, false, false, false, false, false] (by kernel_rfl) (by decide) (by decide) (by conv => lhs; simp only [List.map_cons, List.map_nil]) (by conv => lhs; simp [strip, orderedG, flagH]) ?_
      apply Run.by_eq
      · intro self
        conv => lhs; simp -implicitDefEqProofs (maxSteps := 300000) (disch := omega) [-getElem?_pos, -getElem?_neg, gi, g9, hlt, hjl, ho, hcs, t0, t1, hji]
      try (with_reducible refine Run.ret ?_)
      apply zz
      apply Cd.ite rfl
      · conv => lhs; simp -implicitDefEqProofs (maxSteps := 300000) (disch := omega) [-getElem?_pos, -getElem?_neg]
      all_goals intro c2
      all_goals try (cases c2; done)
      all_goals try simp only [Bool.not_eq_true', Bool.not_eq_false', decide_eq_true_eq, decide_eq_false_iff_not] at c2
      all_goals apply zz
      apply zz
      refine Cd.ra (h := ?_)
      apply Run.by_eq
      · intro self
        conv => lhs; simp -implicitDefEqProofs (maxSteps := 300000) (disch := omega) [-getElem?_pos, -getElem?_neg, gi]
      try (with_reducible refine Run.ret ?_)
      apply zz
      exact LoopK.nm (PK.length - (i + 1 - 1)) (by omega) ⟨i + 1, by omega, by omega, rfl, by simp [hm], by simp [g7], by simp [g9], by simp [g11], by simp [g12], by simp [g13], by simp, rfl⟩
    · have hlt' : ¬ (i : Int) < PK.length := by omega
      apply zz
      refine Cd.ra (h := ?_)
      apply Run.by_eq
      · intro self
        conv => lhs; simp -implicitDefEqProofs (maxSteps := 300000) (disch := omega) [-getElem?_pos, -getElem?_neg, gi, g9, hlt']
      try (with_reducible refine Run.ret ?_)
      apply zz
      apply Cd.ite rfl
      · conv => lhs; simp -implicitDefEqProofs (maxSteps := 300000) (disch := omega) [-getElem?_pos, -getElem?_neg]
      all_goals intro c1
      all_goals try (cases c1; done)
      all_goals try simp only [Bool.not_eq_true', Bool.not_eq_false', decide_eq_true_eq, decide_eq_false_iff_not] at c1
      all_goals apply zz
      exact ⟨rfl, by simp [hm], by simp [g7], by simp [g9], by simp [g11], by simp [g12], by simp [g13], rfl⟩
  clear hm g7 g9 g11 g12 g13
  rintro x f s8 ⟨rfl, hm, g7, g9, g11, g12, g13, rfl⟩
  apply zz
  refine Cd.ra (h := ?_)
  apply Run.by_eq
  · intro self
    conv => lhs; simp -implicitDefEqProofs (maxSteps := 300000) (disch := omega) [-getElem?_pos, -getElem?_neg]
  try (with_reducible refine Run.ret ?_)
  apply zz
  refine Cd.mono (Q := fun x f8 s8b => x = Ex.exit 2 ∧ f8.marks = [] ∧ f8.get 7 = .slice ak c.n ck ∧ f8.get 11 = .int .i64 least ∧ f8.get 12 = .slice au SU.length cu ∧ f8.get 13 = .slice am MA.length cm ∧ s8b = s8) (Cd.inv (fun z f8 s8b => ∃ i : Nat, 1 ≤ i ∧ (i = 1 ∨ i ≤ SU.length) ∧ z = SU.length - (i - 1) ∧ f8.marks = [] ∧ f8.get 7 = .slice ak c.n ck ∧ f8.get 11 = .int .i64 least ∧ f8.get 12 = .slice au SU.length cu ∧ f8.get 13 = .slice am MA.length cm ∧ f8.get 16 = .int .i64 i ∧ s8b = s8) SU.length ?_ ?_) ?_
  · exact ⟨1, by omega, by omega, rfl, by simp [hm], by simp [g7], by simp [g11], by simp [g12], by simp [g13], by simp, rfl⟩
  · clear hm g7 g11 g12 g13
    rintro z f s8b ⟨i, hi1, hi2, rfl, hm, g7, g11, g12, g13, gi, rfl⟩
    by_cases hlt : i < SU.length
    · have hlt' : (i : Int) < SU.length := by omega
      obtain ⟨j, rfl⟩ : ∃ j, i = j + 1 := ⟨i - 1, by omega⟩
      have hjl : j < SU.length := by omega
      obtain ⟨x, hx⟩ : ∃ x, SU[j]? = some x := ⟨SU[j], by simp [hjl]⟩
      obtain ⟨y, hy⟩ : ∃ y, SU[j + 1]? = some y := ⟨SU[j + 1], by simp [hlt]⟩
      have hxy := hSn j x y hx hy
      subst hxy
      have hxb := hE2 x (List.mem_of_getElem? hx)
      obtain ⟨b, off, o, cs, gg, rfl, hb, ho, hcs, hst⟩ := IntsAt.all huv (show SU ≠ [] by rintro h; rw [h] at hx; simp at hx)
      have t0 := hst j x hx
      have t1 := hst (j + 1) (x + 1) hy
      have hji : ((j + 1 : Nat) : Int) - 1 = (j : Nat) := by omega
      generalize hii : j + 1 = i at *
      apply zz
      refine Cd.ra (h := ?_)
      apply Run.by_eq
      · intro self
        conv => lhs; simp -implicitDefEqProofs (maxSteps := 300000) (disch := omega) [-getElem?_pos, -getElem?_neg, gi, g12, hlt']
      try (with_reducible refine Run.ret ?_)
      apply zz
      apply Cd.ite rfl
      · conv => lhs; simp -implicitDefEqProofs (maxSteps := 300000) (disch := omega) [-getElem?_pos, -getElem?_neg]
      all_goals intro c1
      all_goals try (cases c1; done)
      all_goals try simp only [Bool.not_eq_true', Bool.not_eq_false', decide_eq_true_eq, decide_eq_false_iff_not] at c1
      all_goals apply zz
      apply zz
      refine Cd.drawnH (pl := [(0, 0, false, false), (1, 0, false, false), (2, 3, false, false), (3, 7, false, false), (4, 0, false, false), (5, 0, false, false), (6, 32, false, false), (7, 112, false, false), (8, 240, false, false), (9, 496, false, false), (10, 1023, false, false)]) [false, false, false, false, false, false, false, false, false, false, false] (by kernel_rfl) (by decide) (by decide) (by conv => lhs; simp only [List.map_cons, List.map_nil]) (by conv => lhs; simp [strip, orderedG, flagH]) ?_
      apply Run.by_eq
      · intro self
        conv => lhs; simp -implicitDefEqProofs (maxSteps := 300000) (disch := omega) [-getElem?_pos, -getElem?_neg, gi, g12, hlt, hjl, ho, hcs, t0, t1, hji]
      try (with_reducible refine Run.ret ?_)
      apply zz
      apply Cd.ite rfl
      · conv => lhs; simp -implicitDefEqProofs (maxSteps := 300000) (disch := omega) [-getElem?_pos, -getElem?_neg]
      all_goals intro c2
      all_goals try (cases c2; done)
      all_goals try simp only [Bool.not_eq_true', Bool.not_eq_false', decide_eq_true_eq, decide_eq_false_iff_not] at c2
      all_goals apply zz
      apply zz
      refine Cd.ra (h := ?_)
      apply Run.by_eq
      · intro self
        conv => lhs; simp -implicitDefEqProofs (maxSteps := 300000) (disch := omega) [-getElem?_pos, -getElem?_neg, gi]
      try (with_reducible refine Run.ret ?_)
      apply zz
      exact LoopK.nm (SU.length - (i + 1 - 1)) (by omega) ⟨i + 1, by omega, by omega, rfl, by simp [hm], by simp [g7], by simp [g11], by simp [g12], by simp [g13], by simp, rfl⟩
    · have hlt' : ¬ (i : Int) < SU.length := by omega
      apply zz
      refine Cd.ra (h := ?_)
      apply Run.by_eq
      · intro self
        conv => lhs; simp -implicitDefEqProofs (maxSteps := 300000) (disch := omega) [-getElem?_pos, -getElem?_neg, gi, g12, hlt']
      try (with_reducible refine Run.ret ?_)
      apply zz
      apply Cd.ite rfl
      · conv => lhs; simp -implicitDefEqProofs (maxSteps := 300000) (disch := omega) [-getElem?_pos, -getElem?_neg]
      all_goals intro c1
      all_goals try (cases c1; done)
      all_goals try simp only [Bool.not_eq_true', Bool.not_eq_false', decide_eq_true_eq, decide_eq_false_iff_not] at c1
      all_goals apply zz
      exact ⟨rfl, by simp [hm], by simp [g7], by simp [g11], by simp [g12], by simp [g13], rfl⟩
  clear hm g7 g11 g12 g13
  rintro x f s8b ⟨rfl, hm, g7, g11, g12, g13, rfl⟩
  apply zz
  refine Cd.ra (h := ?_)
  apply Run.by_eq
  · intro self
    conv => lhs; simp -implicitDefEqProofs (maxSteps := 300000) (disch := omega) [-getElem?_pos, -getElem?_neg, g7]
  try (with_reducible refine Run.ret ?_)
  apply zz
  refine Cd.mono (Q := fun x f9 sb => x = Ex.exit 4 ∧ f9.marks = []) (Cd.inv (fun z f9 sb => ∃ w : Nat, w ≤ c.n ∧ z = c.n - w ∧ f9.marks = [] ∧ f9.get 117 = .slice ak c.n ck ∧ f9.get 118 = .int .i64 c.n ∧ f9.get 119 = .int .i64 w ∧ f9.get 11 = .int .i64 least ∧ f9.get 12 = .slice au SU.length cu ∧ f9.get 13 = .slice am MA.length cm ∧ Keep s8b sb) c.n ?_ ?_) ?_
  · exact ⟨0, by omega, rfl, by simp [hm], by simp, by simp, by simp, by simp [g11], by simp [g12], by simp [g13], Keep.refl _⟩
  · clear hm g7 g11 g12 g13
    rintro z f sb ⟨w, hw, rfl, hm, g117, g118, g119, g11, g12, g13, k9⟩
    by_cases hlt : w < c.n
    · have hlt' : (w : Int) < c.n := by omega
      have f1 := tF1 w hlt
      have f2 := tF2 w hlt
      have f3 := tF3 w hlt
      have f4 := tF4 w hlt
      have f5 := tF5 w hlt
      obtain ⟨kb0, koff, ko, kcs, kg, rfl, kqb, kqo, kqc, kqt⟩ := SpAt.at (hkv.keep k9) f1
      apply zz
      refine Cd.ra (h := ?_)
      apply Run.by_eq
      · intro self
        conv => lhs; simp -implicitDefEqProofs (maxSteps := 300000) (disch := omega) [-getElem?_pos, -getElem?_neg, g119, g118, hlt']
      try (with_reducible refine Run.ret ?_)
      apply zz
      apply Cd.ite rfl
      · conv => lhs; simp -implicitDefEqProofs (maxSteps := 300000) (disch := omega) [-getElem?_pos, -getElem?_neg]
      all_goals intro c1
      all_goals try (cases c1; done)
      all_goals try simp only [Bool.not_eq_true', Bool.not_eq_false', decide_eq_true_eq, decide_eq_false_iff_not] at c1
      all_goals apply zz
      generalize flF (A w) = LO at *
      generalize ceF (B w) = HI at *
      refine Cd.mono (Q := fun x f10 sc => x = Ex.normal ∧ f10.marks = [] ∧ f10.get 117 = .slice (some ⟨kb0, koff, none⟩) c.n ck ∧ f10.get 118 = .int .i64 c.n ∧ f10.get 119 = .int .i64 w ∧ f10.get 11 = .int .i64 least ∧ f10.get 12 = .slice au SU.length cu ∧ f10.get 13 = .slice am MA.length cm ∧ f10.get 17 = .int .i64 w ∧ f10.get 18 = .pointer (some ⟨sb.next, 0, none⟩) ∧ Keep s8b sc ∧ sb.next < sc.next ∧ sc.heap.get sb.next = some (.cells [.int .i64 LO, .int .i64 HI] none)) ?_ ?_
      · apply zz
        refine Cd.ra (h := ?_)
        apply Run.by_eq
        · intro self
          conv => lhs; simp -implicitDefEqProofs (maxSteps := 300000) (disch := omega) [-getElem?_pos, -getElem?_neg, g117, g119, hlt, kqo, kqc, kqt]
        try (with_reducible refine Run.ret ?_)
        apply zz
        exact ⟨rfl, by simp [hm], by simp [g117], by simp [g118], by simp [g119], by simp [g11], by simp [g12], by simp [g13], by simp, by simp, k9.trans ⟨by (try simp only [pushed_next', upded_next']); omega, fun i hi => by simp -implicitDefEqProofs (disch := omega) []⟩, by simp, by simp -implicitDefEqProofs (disch := omega)⟩
      clear hm g117 g118 g119 g11 g12 g13
      rintro x f sc ⟨rfl, hm, g117, g118, g119, g11, g12, g13, g17, g18, k10, hn10, hB10⟩
      apply zz
      refine Cd.mono (Q := fun x f11 sd => x = Ex.normal ∧ f11.marks = [] ∧ f11.get 117 = .slice (some ⟨kb0, koff, none⟩) c.n ck ∧ f11.get 118 = .int .i64 c.n ∧ f11.get 119 = .int .i64 w ∧ f11.get 11 = .int .i64 least ∧ f11.get 12 = .slice au SU.length cu ∧ f11.get 13 = .slice am MA.length cm ∧ f11.get 165 = .bool false ∧ Keep s8b sd) ?_ ?_
      · by_cases hsu : (w : Int) ∈ SU
        · have hma : (w : Int) ∈ MA := f5 hsu
          have d1 : decide ((w : Int) ∈ SU) = true := by simp [hsu]
          have d2 : decide ((w : Int) ∈ MA) = true := by simp [hma]
          have n1 : least ≤ LO := f2.1 hsu
          have n2 : ¬ HI < least := by have := f3 hma; omega
          by_cases n3 : least < HI
          · skip
            apply zz
            refine Cd.drawn (pl := [(0, 0, false, false), (1, 0, false, false), (3, 0, false, false), (4, 8, false, false), (5, 0, false, false), (6, 56, false, false), (2, 3, true, false), (7, 127, false, false), (8, 255, false, false), (9, 511, false, false), (10, 511, false, false), (11, 2047, true, false), (12, 4095, false, false), (13, 8191, false, false), (14, 16383, false, false), (15, 8191, false, false), (16, 65535, false, false), (17, 131071, false, false), (18, 262143, false, false), (19, 524287, false, false), (20, 1048575, false, false), (21, 2097151, false, false), (22, 1048575, false, false), (23, 8388607, false, false), (24, 16777215, false, false), (25, 33554431, false, false), (26, 33554431, false, false), (27, 134217727, true, false), (28, 268435455, false, false), (29, 536870911, false, false), (30, 1073741823, false, false), (31, 2147483647, false, false), (32, 4294967295, false, false), (33, 4294967295, false, false), (34, 17179869183, true, false), (35, 34359738367, false, false), (36, 68719476735, false, false), (37, 68719476735, false, false), (38, 274877906943, true, false), (39, 549755813887, false, false), (40, 1099511627775, false, false), (41, 2199023255551, false, false)]) (by kernel_rfl) (by conv => lhs; simp only [List.map_cons, List.map_nil]) (by conv => lhs; simp [strip, ordered]) ?_
            apply Run.by_eq
            · intro self
              conv => lhs; simp -implicitDefEqProofs (maxSteps := 300000) (disch := omega) [filter_bt, (show ∀ i, Nat.testBit 3 i = decide (i < 2) from fun i => Nat.testBit_two_pow_sub_one 2 i), (show ∀ i, Nat.testBit 2047 i = decide (i < 11) from fun i => Nat.testBit_two_pow_sub_one 11 i), (show ∀ i, Nat.testBit 134217727 i = decide (i < 27) from fun i => Nat.testBit_two_pow_sub_one 27 i), (show ∀ i, Nat.testBit 17179869183 i = decide (i < 34) from fun i => Nat.testBit_two_pow_sub_one 34 i), (show ∀ i, Nat.testBit 274877906943 i = decide (i < 38) from fun i => Nat.testBit_two_pow_sub_one 38 i), -getElem?_pos, -getElem?_neg, vu, vm, g11, g12, g13, g17, g18, hB10, n1, n2, n3]
            try (with_reducible refine Run.ret ?_)
            apply zz
            refine Run.call ((has_ev _ SU (w : Nat) _ (huv.keep k10) (by omega)).mono fun v wa hv => ?_)
            obtain ⟨rfl, ka⟩ := hv
            rw [d1]
            have Ba := (ka.2 _ (by have := hn10; omega)).trans hB10
            have Ka := k10.trans ka
            apply Run.by_eq
            · intro self
              conv => lhs; simp -implicitDefEqProofs (maxSteps := 300000) (disch := omega) [-getElem?_pos, -getElem?_neg, g11, g12, g13, vu, vm, g17, g18, Ba, n1, n2, n3]
            try (with_reducible refine Run.ret ?_)
            apply zz
            refine Run.call ((has_ev _ MA (w : Nat) _ (hmv.keep Ka) (by omega)).mono fun v wb hv => ?_)
            obtain ⟨rfl, kb⟩ := hv
            rw [d2]
            have Bb := (kb.2 _ (by have := hn10; have := ka.1; omega)).trans Ba
            have Kb := Ka.trans kb
            apply Run.by_eq
            · intro self
              conv => lhs; simp -implicitDefEqProofs (maxSteps := 300000) (disch := omega) [-getElem?_pos, -getElem?_neg, g11, g12, g13, vu, vm, g17, g18, Bb, n1, n2, n3]
            try (with_reducible refine Run.ret ?_)
            apply zz
            refine Run.call ((has_ev _ MA (w : Nat) _ (hmv.keep Kb) (by omega)).mono fun v wc hv => ?_)
            obtain ⟨rfl, kc⟩ := hv
            rw [d2]
            have Bc := (kc.2 _ (by have := hn10; have := ka.1; have := kb.1; omega)).trans Bb
            have Kc := Kb.trans kc
            apply Run.by_eq
            · intro self
              conv => lhs; simp -implicitDefEqProofs (maxSteps := 300000) (disch := omega) [-getElem?_pos, -getElem?_neg, g11, g12, g13, vu, vm, g17, g18, Bc, n1, n2, n3]
            try (with_reducible refine Run.ret ?_)
            apply zz
            refine Run.call ((has_ev _ SU (w : Nat) _ (huv.keep Kc) (by omega)).mono fun v wd hv => ?_)
            obtain ⟨rfl, kd⟩ := hv
            rw [d1]
            have Bd := (kd.2 _ (by have := hn10; have := ka.1; have := kb.1; have := kc.1; omega)).trans Bc
            have Kd := Kc.trans kd
            apply Run.by_eq
            · intro self
              conv => lhs; simp -implicitDefEqProofs (maxSteps := 300000) (disch := omega) [-getElem?_pos, -getElem?_neg, g11, g12, g13, vu, vm, g17, g18, Bd, n1, n2, n3]
            try (with_reducible refine Run.ret ?_)
            apply zz
            refine Run.call ((has_ev _ MA (w : Nat) _ (hmv.keep Kd) (by omega)).mono fun v we hv => ?_)
            obtain ⟨rfl, ke⟩ := hv
            rw [d2]
            have Be := (ke.2 _ (by have := hn10; have := ka.1; have := kb.1; have := kc.1; have := kd.1; omega)).trans Bd
            have Ke := Kd.trans ke
            apply Run.by_eq
            · intro self
              conv => lhs; simp -implicitDefEqProofs (maxSteps := 300000) (disch := omega) [-getElem?_pos, -getElem?_neg, g11, g12, g13, vu, vm, g17, g18, Be, n1, n2, n3]
            try (with_reducible refine Run.ret ?_)
            apply zz
            exact ⟨rfl, by simp [hm], by simp [g117], by simp [g118], by simp [g119], by simp [g11], by simp [g12], by simp [g13], by simp, Ke⟩
          · skip
            apply zz
            refine Cd.drawn (pl := [(0, 0, false, false), (1, 0, false, false), (3, 0, false, false), (4, 8, false, false), (5, 0, false, false), (6, 56, false, false), (2, 3, true, false), (7, 127, false, false), (8, 255, false, false), (9, 511, false, false), (10, 511, false, false), (11, 2047, true, false), (12, 4095, false, false), (13, 8191, false, false), (14, 16383, false, false), (15, 8191, false, false), (16, 65535, false, false), (17, 131071, false, false), (18, 262143, false, false), (19, 524287, false, false), (20, 1048575, false, false), (21, 2097151, false, false), (22, 1048575, false, false), (23, 8388607, false, false), (24, 16777215, false, false), (25, 33554431, false, false), (26, 33554431, false, false), (27, 134217727, true, false), (28, 268435455, false, false), (29, 536870911, false, false), (30, 1073741823, false, false), (31, 2147483647, false, false), (32, 4294967295, false, false), (33, 4294967295, false, false), (34, 17179869183, true, false), (35, 34359738367, false, false), (36, 68719476735, false, false), (37, 68719476735, false, false), (38, 274877906943, true, false), (39, 549755813887, false, false), (40, 1099511627775, false, false), (41, 2199023255551, false, false)]) (by kernel_rfl) (by conv => lhs; simp only [List.map_cons, List.map_nil]) (by conv => lhs; simp [strip, ordered]) ?_
            apply Run.by_eq
            · intro self
              conv => lhs; simp -implicitDefEqProofs (maxSteps := 300000) (disch := omega) [filter_bt, (show ∀ i, Nat.testBit 3 i = decide (i < 2) from fun i => Nat.testBit_two_pow_sub_one 2 i), (show ∀ i, Nat.testBit 2047 i = decide (i < 11) from fun i => Nat.testBit_two_pow_sub_one 11 i), (show ∀ i, Nat.testBit 134217727 i = decide (i < 27) from fun i => Nat.testBit_two_pow_sub_one 27 i), (show ∀ i, Nat.testBit 17179869183 i = decide (i < 34) from fun i => Nat.testBit_two_pow_sub_one 34 i), (show ∀ i, Nat.testBit 274877906943 i = decide (i < 38) from fun i => Nat.testBit_two_pow_sub_one 38 i), -getElem?_pos, -getElem?_neg, vu, vm, g11, g12, g13, g17, g18, hB10, n1, n2, n3]
            try (with_reducible refine Run.ret ?_)
            apply zz
            refine Run.call ((has_ev _ SU (w : Nat) _ (huv.keep k10) (by omega)).mono fun v wa hv => ?_)
            obtain ⟨rfl, ka⟩ := hv
            rw [d1]
            have Ba := (ka.2 _ (by have := hn10; omega)).trans hB10
            have Ka := k10.trans ka
            apply Run.by_eq
            · intro self
              conv => lhs; simp -implicitDefEqProofs (maxSteps := 300000) (disch := omega) [-getElem?_pos, -getElem?_neg, g11, g12, g13, vu, vm, g17, g18, Ba, n1, n2, n3]
            try (with_reducible refine Run.ret ?_)
            apply zz
            refine Run.call ((has_ev _ MA (w : Nat) _ (hmv.keep Ka) (by omega)).mono fun v wb hv => ?_)
            obtain ⟨rfl, kb⟩ := hv
            rw [d2]
            have Bb := (kb.2 _ (by have := hn10; have := ka.1; omega)).trans Ba
            have Kb := Ka.trans kb
            apply Run.by_eq
            · intro self
              conv => lhs; simp -implicitDefEqProofs (maxSteps := 300000) (disch := omega) [-getElem?_pos, -getElem?_neg, g11, g12, g13, vu, vm, g17, g18, Bb, n1, n2, n3]
            try (with_reducible refine Run.ret ?_)
            apply zz
            refine Run.call ((has_ev _ SU (w : Nat) _ (huv.keep Kb) (by omega)).mono fun v wc hv => ?_)
            obtain ⟨rfl, kc⟩ := hv
            rw [d1]
            have Bc := (kc.2 _ (by have := hn10; have := ka.1; have := kb.1; omega)).trans Bb
            have Kc := Kb.trans kc
            apply Run.by_eq
            · intro self
              conv => lhs; simp -implicitDefEqProofs (maxSteps := 300000) (disch := omega) [-getElem?_pos, -getElem?_neg, g11, g12, g13, vu, vm, g17, g18, Bc, n1, n2, n3]
            try (with_reducible refine Run.ret ?_)
            apply zz
            refine Run.call ((has_ev _ MA (w : Nat) _ (hmv.keep Kc) (by omega)).mono fun v wd hv => ?_)
            obtain ⟨rfl, kd⟩ := hv
            rw [d2]
            have Bd := (kd.2 _ (by have := hn10; have := ka.1; have := kb.1; have := kc.1; omega)).trans Bc
            have Kd := Kc.trans kd
            apply Run.by_eq
            · intro self
              conv => lhs; simp -implicitDefEqProofs (maxSteps := 300000) (disch := omega) [-getElem?_pos, -getElem?_neg, g11, g12, g13, vu, vm, g17, g18, Bd, n1, n2, n3]
            try (with_reducible refine Run.ret ?_)
            apply zz
            exact ⟨rfl, by simp [hm], by simp [g117], by simp [g118], by simp [g119], by simp [g11], by simp [g12], by simp [g13], by simp, Kd⟩
        · have d1 : decide ((w : Int) ∈ SU) = false := by simp [hsu]
          have n1 : ¬ least ≤ LO := fun h => hsu (f2.2 h)
          by_cases hma : (w : Int) ∈ MA
          · have d2 : decide ((w : Int) ∈ MA) = true := by simp [hma]
            have n2 : ¬ HI < least := by have := f3 hma; omega
            by_cases n3 : least < HI
            · skip
              apply zz
              refine Cd.drawn (pl := [(0, 0, false, false), (1, 0, false, false), (3, 0, false, false), (4, 8, false, false), (5, 0, false, false), (6, 56, false, false), (2, 3, true, false), (7, 127, false, false), (8, 255, false, false), (9, 511, false, false), (10, 511, false, false), (11, 2047, true, false), (12, 4095, false, false), (13, 8191, false, false), (14, 16383, false, false), (15, 8191, false, false), (16, 65535, false, false), (17, 131071, false, false), (18, 262143, false, false), (19, 524287, false, false), (20, 1048575, false, false), (21, 2097151, false, false), (22, 1048575, false, false), (23, 8388607, false, false), (24, 16777215, false, false), (25, 33554431, false, false), (26, 33554431, false, false), (27, 134217727, true, false), (28, 268435455, false, false), (29, 536870911, false, false), (30, 1073741823, false, false), (31, 2147483647, false, false), (32, 4294967295, false, false), (33, 4294967295, false, false), (34, 17179869183, true, false), (35, 34359738367, false, false), (36, 68719476735, false, false), (37, 68719476735, false, false), (38, 274877906943, true, false), (39, 549755813887, false, false), (40, 1099511627775, false, false), (41, 2199023255551, false, false)]) (by kernel_rfl) (by conv => lhs; simp only [List.map_cons, List.map_nil]) (by conv => lhs; simp [strip, ordered]) ?_
              apply Run.by_eq
              · intro self
                conv => lhs; simp -implicitDefEqProofs (maxSteps := 300000) (disch := omega) [filter_bt, (show ∀ i, Nat.testBit 3 i = decide (i < 2) from fun i => Nat.testBit_two_pow_sub_one 2 i), (show ∀ i, Nat.testBit 2047 i = decide (i < 11) from fun i => Nat.testBit_two_pow_sub_one 11 i), (show ∀ i, Nat.testBit 134217727 i = decide (i < 27) from fun i => Nat.testBit_two_pow_sub_one 27 i), (show ∀ i, Nat.testBit 17179869183 i = decide (i < 34) from fun i => Nat.testBit_two_pow_sub_one 34 i), (show ∀ i, Nat.testBit 274877906943 i = decide (i < 38) from fun i => Nat.testBit_two_pow_sub_one 38 i), -getElem?_pos, -getElem?_neg, vu, vm, g11, g12, g13, g17, g18, hB10, n1, n2, n3]
              try (with_reducible refine Run.ret ?_)
              apply zz
              refine Run.call ((has_ev _ SU (w : Nat) _ (huv.keep k10) (by omega)).mono fun v wa hv => ?_)
              obtain ⟨rfl, ka⟩ := hv
              rw [d1]
              have Ba := (ka.2 _ (by have := hn10; omega)).trans hB10
              have Ka := k10.trans ka
              apply Run.by_eq
              · intro self
                conv => lhs; simp -implicitDefEqProofs (maxSteps := 300000) (disch := omega) [-getElem?_pos, -getElem?_neg, g11, g12, g13, vu, vm, g17, g18, Ba, n1, n2, n3]
              try (with_reducible refine Run.ret ?_)
              apply zz
              refine Run.call ((has_ev _ MA (w : Nat) _ (hmv.keep Ka) (by omega)).mono fun v wb hv => ?_)
              obtain ⟨rfl, kb⟩ := hv
              rw [d2]
              have Bb := (kb.2 _ (by have := hn10; have := ka.1; omega)).trans Ba
              have Kb := Ka.trans kb
              apply Run.by_eq
              · intro self
                conv => lhs; simp -implicitDefEqProofs (maxSteps := 300000) (disch := omega) [-getElem?_pos, -getElem?_neg, g11, g12, g13, vu, vm, g17, g18, Bb, n1, n2, n3]
              try (with_reducible refine Run.ret ?_)
              apply zz
              refine Run.call ((has_ev _ MA (w : Nat) _ (hmv.keep Kb) (by omega)).mono fun v wc hv => ?_)
              obtain ⟨rfl, kc⟩ := hv
              rw [d2]
              have Bc := (kc.2 _ (by have := hn10; have := ka.1; have := kb.1; omega)).trans Bb
              have Kc := Kb.trans kc
              apply Run.by_eq
              · intro self
                conv => lhs; simp -implicitDefEqProofs (maxSteps := 300000) (disch := omega) [-getElem?_pos, -getElem?_neg, g11, g12, g13, vu, vm, g17, g18, Bc, n1, n2, n3]
              try (with_reducible refine Run.ret ?_)
              apply zz
              refine Run.call ((has_ev _ SU (w : Nat) _ (huv.keep Kc) (by omega)).mono fun v wd hv => ?_)
              obtain ⟨rfl, kd⟩ := hv
              rw [d1]
              have Bd := (kd.2 _ (by have := hn10; have := ka.1; have := kb.1; have := kc.1; omega)).trans Bc
              have Kd := Kc.trans kd
              apply Run.by_eq
              · intro self
                conv => lhs; simp -implicitDefEqProofs (maxSteps := 300000) (disch := omega) [-getElem?_pos, -getElem?_neg, g11, g12, g13, vu, vm, g17, g18, Bd, n1, n2, n3]
              try (with_reducible refine Run.ret ?_)
              apply zz
              exact ⟨rfl, by simp [hm], by simp [g117], by simp [g118], by simp [g119], by simp [g11], by simp [g12], by simp [g13], by simp, Kd⟩
            · skip
              apply zz
              refine Cd.drawn (pl := [(0, 0, false, false), (1, 0, false, false), (3, 0, false, false), (4, 8, false, false), (5, 0, false, false), (6, 56, false, false), (2, 3, true, false), (7, 127, false, false), (8, 255, false, false), (9, 511, false, false), (10, 511, false, false), (11, 2047, true, false), (12, 4095, false, false), (13, 8191, false, false), (14, 16383, false, false), (15, 8191, false, false), (16, 65535, false, false), (17, 131071, false, false), (18, 262143, false, false), (19, 524287, false, false), (20, 1048575, false, false), (21, 2097151, false, false), (22, 1048575, false, false), (23, 8388607, false, false), (24, 16777215, false, false), (25, 33554431, false, false), (26, 33554431, false, false), (27, 134217727, true, false), (28, 268435455, false, false), (29, 536870911, false, false), (30, 1073741823, false, false), (31, 2147483647, false, false), (32, 4294967295, false, false), (33, 4294967295, false, false), (34, 17179869183, true, false), (35, 34359738367, false, false), (36, 68719476735, false, false), (37, 68719476735, false, false), (38, 274877906943, true, false), (39, 549755813887, false, false), (40, 1099511627775, false, false), (41, 2199023255551, false, false)]) (by kernel_rfl) (by conv => lhs; simp only [List.map_cons, List.map_nil]) (by conv => lhs; simp [strip, ordered]) ?_
              apply Run.by_eq
              · intro self
                conv => lhs; simp -implicitDefEqProofs (maxSteps := 300000) (disch := omega) [filter_bt, (show ∀ i, Nat.testBit 3 i = decide (i < 2) from fun i => Nat.testBit_two_pow_sub_one 2 i), (show ∀ i, Nat.testBit 2047 i = decide (i < 11) from fun i => Nat.testBit_two_pow_sub_one 11 i), (show ∀ i, Nat.testBit 134217727 i = decide (i < 27) from fun i => Nat.testBit_two_pow_sub_one 27 i), (show ∀ i, Nat.testBit 17179869183 i = decide (i < 34) from fun i => Nat.testBit_two_pow_sub_one 34 i), (show ∀ i, Nat.testBit 274877906943 i = decide (i < 38) from fun i => Nat.testBit_two_pow_sub_one 38 i), -getElem?_pos, -getElem?_neg, vu, vm, g11, g12, g13, g17, g18, hB10, n1, n2, n3]
              try (with_reducible refine Run.ret ?_)
              apply zz
              refine Run.call ((has_ev _ SU (w : Nat) _ (huv.keep k10) (by omega)).mono fun v wa hv => ?_)
              obtain ⟨rfl, ka⟩ := hv
              rw [d1]
              have Ba := (ka.2 _ (by have := hn10; omega)).trans hB10
              have Ka := k10.trans ka
              apply Run.by_eq
              · intro self
                conv => lhs; simp -implicitDefEqProofs (maxSteps := 300000) (disch := omega) [-getElem?_pos, -getElem?_neg, g11, g12, g13, vu, vm, g17, g18, Ba, n1, n2, n3]
              try (with_reducible refine Run.ret ?_)
              apply zz
              refine Run.call ((has_ev _ MA (w : Nat) _ (hmv.keep Ka) (by omega)).mono fun v wb hv => ?_)
              obtain ⟨rfl, kb⟩ := hv
              rw [d2]
              have Bb := (kb.2 _ (by have := hn10; have := ka.1; omega)).trans Ba
              have Kb := Ka.trans kb
              apply Run.by_eq
              · intro self
                conv => lhs; simp -implicitDefEqProofs (maxSteps := 300000) (disch := omega) [-getElem?_pos, -getElem?_neg, g11, g12, g13, vu, vm, g17, g18, Bb, n1, n2, n3]
              try (with_reducible refine Run.ret ?_)
              apply zz
              refine Run.call ((has_ev _ SU (w : Nat) _ (huv.keep Kb) (by omega)).mono fun v wc hv => ?_)
              obtain ⟨rfl, kc⟩ := hv
              rw [d1]
              have Bc := (kc.2 _ (by have := hn10; have := ka.1; have := kb.1; omega)).trans Bb
              have Kc := Kb.trans kc
              apply Run.by_eq
              · intro self
                conv => lhs; simp -implicitDefEqProofs (maxSteps := 300000) (disch := omega) [-getElem?_pos, -getElem?_neg, g11, g12, g13, vu, vm, g17, g18, Bc, n1, n2, n3]
              try (with_reducible refine Run.ret ?_)
              apply zz
              exact ⟨rfl, by simp [hm], by simp [g117], by simp [g118], by simp [g119], by simp [g11], by simp [g12], by simp [g13], by simp, Kc⟩
          · have d2 : decide ((w : Int) ∈ MA) = false := by simp [hma]
            have n3 : ¬ least < HI := fun h => hma (f4 h)
            apply zz
            refine Cd.drawn (pl := [(0, 0, false, false), (1, 0, false, false), (3, 0, false, false), (4, 8, false, false), (5, 0, false, false), (6, 56, false, false), (2, 3, true, false), (7, 127, false, false), (8, 255, false, false), (9, 511, false, false), (10, 511, false, false), (11, 2047, true, false), (12, 4095, false, false), (13, 8191, false, false), (14, 16383, false, false), (15, 8191, false, false), (16, 65535, false, false), (17, 131071, false, false), (18, 262143, false, false), (19, 524287, false, false), (20, 1048575, false, false), (21, 2097151, false, false), (22, 1048575, false, false), (23, 8388607, false, false), (24, 16777215, false, false), (25, 33554431, false, false), (26, 33554431, false, false), (27, 134217727, true, false), (28, 268435455, false, false), (29, 536870911, false, false), (30, 1073741823, false, false), (31, 2147483647, false, false), (32, 4294967295, false, false), (33, 4294967295, false, false), (34, 17179869183, true, false), (35, 34359738367, false, false), (36, 68719476735, false, false), (37, 68719476735, false, false), (38, 274877906943, true, false), (39, 549755813887, false, false), (40, 1099511627775, false, false), (41, 2199023255551, false, false)]) (by kernel_rfl) (by conv => lhs; simp only [List.map_cons, List.map_nil]) (by conv => lhs; simp [strip, ordered]) ?_
            apply Run.by_eq
            · intro self
              conv => lhs; simp -implicitDefEqProofs (maxSteps := 300000) (disch := omega) [filter_bt, (show ∀ i, Nat.testBit 3 i = decide (i < 2) from fun i => Nat.testBit_two_pow_sub_one 2 i), (show ∀ i, Nat.testBit 2047 i = decide (i < 11) from fun i => Nat.testBit_two_pow_sub_one 11 i), (show ∀ i, Nat.testBit 134217727 i = decide (i < 27) from fun i => Nat.testBit_two_pow_sub_one 27 i), (show ∀ i, Nat.testBit 17179869183 i = decide (i < 34) from fun i => Nat.testBit_two_pow_sub_one 34 i), (show ∀ i, Nat.testBit 274877906943 i = decide (i < 38) from fun i => Nat.testBit_two_pow_sub_one 38 i), -getElem?_pos, -getElem?_neg, vu, vm, g11, g12, g13, g17, g18, hB10, n1, n3]
            try (with_reducible refine Run.ret ?_)
            apply zz
            refine Run.call ((has_ev _ SU (w : Nat) _ (huv.keep k10) (by omega)).mono fun v wa hv => ?_)
            obtain ⟨rfl, ka⟩ := hv
            rw [d1]
            have Ba := (ka.2 _ (by have := hn10; omega)).trans hB10
            have Ka := k10.trans ka
            apply Run.by_eq
            · intro self
              conv => lhs; simp -implicitDefEqProofs (maxSteps := 300000) (disch := omega) [-getElem?_pos, -getElem?_neg, g11, g12, g13, vu, vm, g17, g18, Ba, n1, n3]
            try (with_reducible refine Run.ret ?_)
            apply zz
            refine Run.call ((has_ev _ MA (w : Nat) _ (hmv.keep Ka) (by omega)).mono fun v wb hv => ?_)
            obtain ⟨rfl, kb⟩ := hv
            rw [d2]
            have Bb := (kb.2 _ (by have := hn10; have := ka.1; omega)).trans Ba
            have Kb := Ka.trans kb
            apply Run.by_eq
            · intro self
              conv => lhs; simp -implicitDefEqProofs (maxSteps := 300000) (disch := omega) [-getElem?_pos, -getElem?_neg, g11, g12, g13, vu, vm, g17, g18, Bb, n1, n3]
            try (with_reducible refine Run.ret ?_)
            apply zz
            refine Run.call ((has_ev _ SU (w : Nat) _ (huv.keep Kb) (by omega)).mono fun v wc hv => ?_)
            obtain ⟨rfl, kc⟩ := hv
            rw [d1]
            have Bc := (kc.2 _ (by have := hn10; have := ka.1; have := kb.1; omega)).trans Bb
            have Kc := Kb.trans kc
            apply Run.by_eq
            · intro self
              conv => lhs; simp -implicitDefEqProofs (maxSteps := 300000) (disch := omega) [-getElem?_pos, -getElem?_neg, g11, g12, g13, vu, vm, g17, g18, Bc, n1, n3]
            try (with_reducible refine Run.ret ?_)
            apply zz
            exact ⟨rfl, by simp [hm], by simp [g117], by simp [g118], by simp [g119], by simp [g11], by simp [g12], by simp [g13], by simp, Kc⟩
      clear hm g117 g118 g119 g11 g12 g13 g17 g18
      rintro x f sd ⟨rfl, hm, g117, g118, g119, g11, g12, g13, g165, kd⟩
      apply zz
      apply Cd.ite rfl
      · conv => lhs; simp -implicitDefEqProofs (maxSteps := 300000) (disch := omega) [-getElem?_pos, -getElem?_neg, g165]
      all_goals intro c2
      all_goals try (cases c2; done)
      all_goals try simp only [Bool.not_eq_true', Bool.not_eq_false', decide_eq_true_eq, decide_eq_false_iff_not] at c2
      all_goals apply zz
      apply zz
      refine Cd.ra (h := ?_)
      apply Run.by_eq
      · intro self
        conv => lhs; simp -implicitDefEqProofs (maxSteps := 300000) (disch := omega) [-getElem?_pos, -getElem?_neg, g119]
      try (with_reducible refine Run.ret ?_)
      apply zz
      exact LoopK.nm (c.n - (w + 1)) (by omega) ⟨w + 1, by omega, rfl, by simp [hm], by simp [g117], by simp [g118], by simp, by simp [g11], by simp [g12], by simp [g13], kd⟩
    · obtain rfl : w = c.n := by omega
      apply zz
      refine Cd.ra (h := ?_)
      apply Run.by_eq
      · intro self
        conv => lhs; simp -implicitDefEqProofs (maxSteps := 300000) (disch := omega) [-getElem?_pos, -getElem?_neg, g119, g118]
      try (with_reducible refine Run.ret ?_)
      apply zz
      apply Cd.ite rfl
      · conv => lhs; simp -implicitDefEqProofs (maxSteps := 300000) (disch := omega) [-getElem?_pos, -getElem?_neg]
      all_goals intro c1
      all_goals try (cases c1; done)
      all_goals try simp only [Bool.not_eq_true', Bool.not_eq_false', decide_eq_true_eq, decide_eq_false_iff_not] at c1
      all_goals apply zz
      exact ⟨rfl, by simp [hm]⟩
  clear hm g7 g11 g12 g13
  rintro x f sb ⟨rfl, hm⟩
  apply zz
  refine Cd.ra (h := ?_)
  apply Run.by_eq
  · intro self
    conv => lhs; simp -implicitDefEqProofs (maxSteps := 300000) (disch := omega) [-getElem?_pos, -getElem?_neg]
  try (with_reducible refine Run.ret ?_)
  apply zz
  refine Run.call ((works_ev _).mono fun v wk hv => ?_)
  obtain ⟨rfl, hwk⟩ := hv
  apply Run.by_eq
  · intro self
    conv => lhs; simp -implicitDefEqProofs (maxSteps := 300000) (disch := omega) [-getElem?_pos, -getElem?_neg]
  try (with_reducible refine Run.ret ?_)
  apply zz
  apply Leave.mk (by first | exact .inl rfl | exact .inr rfl) (by simp only [Fr.marks_put, fr0_marks, hm])
  · conv => lhs; simp -implicitDefEqProofs (disch := omega) [Try.results12, hm]
  rfl
end Go.Proofs.Ytnhokodcmeekhaa
namespace Go.Proofs.Ytnhokodcmeekhaa
open Go Kern
/-! The law of clashes -/
end Go.Proofs.Ytnhokodcmeekhaa
namespace Go.Proofs.Ytnhokodcmeekhaa
open Go Kern RowKit
/-- A slice of the world whose elements are known, cell by cell. -/
def SlW (W : World) (n : Nat) (v : Value) (l : List (List Value)) : Prop :=
  (l = [] ∧ v = .slice none 0 0) ∨ ∃ (b off cap : Nat) (C : Array Value) (e : TypeId) (fr : Nat × Nat), v = .slice (some ⟨b, off, none⟩) l.length cap ∧ W.heap[b]? = some (.cells C e fr) ∧
    (l ≠ [] → off + l.flatten.length ≤ C.size ∧ (C.toList.drop off).take l.flatten.length = l.flatten)
theorem romAt_pushed {s : St} {o : AObj} {i : Nat} (h : i ≠ s.next) : romAt (s.pushed o).heap i = romAt s.heap i := by
  unfold romAt; rw [get_pushed_old _ _ _ h]
theorem WRel_rom {N : Nat} {σ : Ren} {s : St} {w : World} (hw : WRel N σ s w) {b sh : Nat} {c : List Value} {C : Array Value} {e : TypeId} {fr : Nat × Nat} (hb : w.heap[b]? = some (.cells C e fr)) (hN : b < N) (hs : sh + c.length ≤ C.size)
    (h : LRel σ c ((C.toList.drop sh).take c.length)) : WRel N (σ.add s.next b sh none) (s.pushed (.rom c)) w := by
  have hle := Ren.le_add (b := b) (sh := sh) (x := none) (hw.fresh (Nat.le_refl s.next))
  have hlt : b < w.heap.size := (Array.getElem?_eq_some_iff.1 hb).1
  refine ⟨hw.base, ?_, ?_, ?_, ?_⟩
  · intro i b' sh' x' hi
    by_cases ei : i = s.next
    · subst ei
      rw [Ren.add_same] at hi; cases hi
      have : romAt (s.pushed (.rom c)).heap s.next = true := by unfold romAt; rw [get_pushed_new]; rfl
      exact ⟨⟨fun k => (by rw [this] at k; cases k), fun _ => hN⟩, hlt⟩
    · rw [Ren.add_ne ei] at hi
      rw [romAt_pushed ei]
      exact hw.lt hi
  · intro i hi
    rw [Ren.add_ne (by have : s.next + 1 ≤ i := hi; omega)]
    exact hw.fresh (by have : s.next + 1 ≤ i := hi; omega)
  · intro i b' sh' x' o hi ho
    by_cases ei : i = s.next
    · subst ei
      rw [Ren.add_same] at hi; cases hi
      rw [get_pushed_new] at ho; cases ho
      exact ⟨_, hb, .rom rfl hs (h.mono hle)⟩
    · rw [Ren.add_ne ei] at hi
      rw [get_pushed_old _ _ _ ei] at ho
      obtain ⟨O, h1, h2⟩ := hw.real hi ho
      exact ⟨O, h1, h2.mono hle⟩
  · intro i j b' sh1 x1 sh2 x2 o1 o2 hi hj h1 h2 d1 d2 hr
    by_cases ei : i = s.next
    · subst ei
      rw [get_pushed_new] at h1; cases h1; cases hr
    · rw [Ren.add_ne ei] at hi
      rw [get_pushed_old _ _ _ ei] at h1
      by_cases ej : j = s.next
      · subst ej
        rw [Ren.add_same] at hj; cases hj
        have : romAt s.heap i = false := by unfold romAt; rw [h1]; exact hr
        exact absurd ((hw.lt hi).1.1 this) (by omega)
      · rw [Ren.add_ne ej] at hj
        rw [get_pushed_old _ _ _ ej] at h2
        exact hw.inj hi hj h1 h2 d1 d2 hr
/-- A slice of the world gets a read-only block of the calculation. -/
theorem attach {N : Nat} {σ : Ren} {s : St} {w : World} (hw : WRel N σ s w) (hN : N = w.heap.size) {n : Nat} {v : Value} {l : List (List Value)} (h : SlW w n v l) (hl : ∀ x ∈ l, x.length = n) (hc : l.flatten.all closed1 = true) :
    ∃ τ s' v', σ.le τ ∧ WRel N τ s' w ∧ VRel τ v' v ∧ SlAt n s' v' l ∧ Keep s s' := by
  rcases h with ⟨rfl, rfl⟩ | ⟨b, off, cap, C, e, fr, rfl, hb, hf⟩
  · exact ⟨σ, s, .slice none 0 0, σ.le_refl, hw, .sliceNil _ _, .nil 0, Keep.refl _⟩
  have hlt : b < w.heap.size := (Array.getElem?_eq_some_iff.1 hb).1
  by_cases he : l = []
  · subst he
    have hw2 := WRel_rom hw (sh := 0) (c := []) hb (by omega) (by simp) (by simpa using LRel.nil)
    refine ⟨_, _, .slice (some ⟨s.next, off, none⟩) 0 cap, Ren.le_add (hw.fresh (Nat.le_refl _)), hw2, ?_, ?_, (Keep.refl s).pushed _⟩
    · have := VRel.slice (σ := σ.add s.next b 0 none) (i := s.next) (o := off) (o' := off) (b := b) (s := 0) (l := 0) (c := cap) (c' := cap) (x := none) Ren.add_same ⟨rfl, rfl⟩
      rw [Nat.zero_add] at this
      exact this
    · exact SlAt.mk (l := []) (Nat.lt_succ_self _) (get_pushed_new _ _) rfl (fun i e h => by simp at h)
  · obtain ⟨h1, h2⟩ := hf he
    have hw2 := WRel_rom hw (sh := off) (c := l.flatten) hb (by omega) h1 (by rw [h2]; exact closedL_rel hc)
    refine ⟨_, _, .slice (some ⟨s.next, 0, none⟩) l.length cap, Ren.le_add (hw.fresh (Nat.le_refl _)), hw2, ?_, ?_, (Keep.refl s).pushed _⟩
    · exact VRel.slice (σ := σ.add s.next b off none) (i := s.next) (o := 0) (o' := 0) (b := b) (s := off) (l := l.length) (c := cap) (c' := cap) (x := none) Ren.add_same ⟨rfl, rfl⟩
    · exact SlAt.mk (Nat.lt_succ_self _) (get_pushed_new _ _) rfl (fun i e h => by rw [Nat.zero_add]; exact drop_flat hl h)
theorem stubOk : StubOk Try.prog TT := StubOk.none rfl
/-- What the calculation finds true holds of the call in the world. -/
theorem calls_of_ev {g : FuncId} {args : List Value} {s : St} (h : Ev TT g args s fun r _ => r = .bool true) {N : Nat} {σ : Ren} {w : World} (hw : WRel N σ s w) (hN : N = w.heap.size) {args' : Array Value} (ha : LRel σ args args'.toList) :
    Calls Try.prog g args' w fun e w' => e = .returned (.bool true) ∧ Below w.heap.size w w' := by
  obtain ⟨m, ⟨v, s'⟩, h1, h2⟩ := h
  have h2' : v = .bool true := h2
  subst h2'
  refine ((run_ok tabOk rfl stubOk m).call (h1 m (Nat.le_refl _)) hw ha).mono fun e w' he => ?_
  obtain ⟨τ, v', rfl, hx, _, hv⟩ := he
  rw [hv.of_bool]
  exact ⟨rfl, hN ▸ hx.below⟩
end Go.Proofs.Ytnhokodcmeekhaa
namespace Go.Proofs.Ytnhokodcmeekhaa
open Go Kern RowKit Go.ChangeShapes Go.WideShapes Go.ChangeAt
open Go.ChangeMaps (open_string)
theorem take_eq_of {α : Type} {L cs : List α} {k n : Nat} (hl : cs.length = n) (h : ∀ j, j < n → L[k + j]? = cs[j]?) : (L.drop k).take n = cs := by
  apply List.ext_getElem?
  intro j
  rw [List.getElem?_take, List.getElem?_drop]
  by_cases hj : j < n
  · rw [if_pos hj]; exact h j hj
  · rw [if_neg hj, List.getElem?_eq_none (by omega)]
theorem rows_flat {α : Type} {L : List α} {k n : Nat} (g : Nat → List α) : ∀ {len : Nat}, (∀ i, i < len → (L.drop (k + i * n)).take n = g i) → ((List.range len).map g).flatten = (L.drop k).take (len * n)
  | 0, _ => by simp
  | len + 1, h => by
    rw [List.range_succ, List.map_append, List.flatten_append, rows_flat g (fun i hi => h i (by omega)), List.map_cons, List.map_nil, List.flatten_cons, List.flatten_nil, List.append_nil, ← h len (by omega),
      Nat.add_mul, Nat.one_mul, List.take_add, List.drop_drop]
/-- A slice that the row reads, as a list of its elements' cells. -/
theorem slW_of {H : Type} {enc : TypeId × Value → H} {P : Program} {W : World} {t e : TypeId} {n fuel : Nat} {v : Value} {x : DataW H × List MemPlace} (ht : P.underlying t = some (.slice e)) (hn : P.cellsOf e = n) (hn0 : 0 < n)
    (hok : Cell.ok P W .any 0 t v) (h : DataW.trod enc P W 0 (fun _ => true) true fuel t [v] = some x) :
    ∃ l, SlW W n v l ∧ (∀ y ∈ l, y.length = n) ∧ ∀ y ∈ l, ∃ m z, DataW.trod enc P W 0 (fun _ => true) true m e y = some z := by
  rcases Go.Deep.open_slice ht h with ⟨hcs, _⟩ | ⟨a, len, cap, m, q, D, Pl, hcs, _, hlc, _, hm, _, hel⟩
  · simp at hcs; subst hcs
    exact ⟨[], .inl ⟨rfl, rfl⟩, by simp, by simp⟩
  · simp at hcs; subst hcs
    simp only [Cell.ok, ht] at hok
    obtain ⟨_, _, _, hsp, row, cells, hsh, _⟩ := hok
    obtain ⟨b, off, spot⟩ := a
    simp only at hsp; subst hsp
    obtain ⟨C, E, fr, hb⟩ : ∃ C E fr, W.heap[b]? = some (.cells C E fr) := by
      unfold World.shape? at hsh
      simp only at hsh
      split at hsh
      · rename_i c el fr hh; exact ⟨c, el, fr, hh⟩
      all_goals cases hsh
    rw [hn] at hel
    simp at hm; subst hm
    have hrow : ∀ i, i < len → ∃ cs', cs'.length = n ∧ (∀ j, j < n → C.toList[off + i * n + j]? = cs'[j]?) ∧ ∃ z, DataW.trod enc P W 0 (fun _ => true) true q e cs' = some z := fun i hi => by
      obtain ⟨cs', h1, h2⟩ := hel i (by omega)
      obtain ⟨_, h3, h4⟩ := World.cells?_some h1
      refine ⟨cs', h3, fun j hj => ?_, _, h2⟩
      have := h4 j hj
      rw [addr_add, addr_add] at this
      simp only [World.cell?, hb] at this
      simpa using this
    have hg : ∀ i, i < len → ((C.toList.drop (off + i * n)).take n).length = n ∧ ∃ z, DataW.trod enc P W 0 (fun _ => true) true q e ((C.toList.drop (off + i * n)).take n) = some z := fun i hi => by
      obtain ⟨cs', h1, h2, z, h3⟩ := hrow i hi
      rw [take_eq_of h1 h2]
      exact ⟨h1, z, h3⟩
    have hfl := rows_flat (L := C.toList) (k := off) (n := n) (len := len) (fun i => (C.toList.drop (off + i * n)).take n) fun _ _ => rfl
    refine ⟨(List.range len).map fun i => (C.toList.drop (off + i * n)).take n, .inr ⟨b, off, m, C, E, fr, by simp, hb, fun hne => ?_⟩, fun y hy => ?_, fun y hy => ?_⟩
    · rw [hfl]
      have hlen : 0 < len := by
        rcases Nat.eq_zero_or_pos len with h | h
        · subst h; simp at hne
        · exact h
      obtain ⟨cs', h1, h2, _⟩ := hrow (len - 1) (by omega)
      have h3 := h2 (n - 1) (by omega)
      rw [List.getElem?_eq_getElem (l := cs') (by omega)] at h3
      have h4 := (List.getElem?_eq_some_iff.1 h3).1
      have h5 : len * n = (len - 1) * n + n := by rw [← Nat.succ_mul]; congr 1; omega
      have h6 : off + len * n ≤ C.size := by simp at h4; omega
      have h7 : ((C.toList.drop off).take (len * n)).length = len * n := by simp; omega
      rw [h7]
      exact ⟨h6, rfl⟩
    · obtain ⟨i, hi, rfl⟩ := List.mem_map.1 hy
      exact (hg i (by simpa using hi)).1
    · obtain ⟨i, hi, rfl⟩ := List.mem_map.1 hy
      obtain ⟨z, hz⟩ := (hg i (by simpa using hi)).2
      exact ⟨_, z, hz⟩
theorem list_of {α β : Type} {g : β → α} : ∀ {l : List α}, (∀ y ∈ l, ∃ f, y = g f) → ∃ fs : List β, l = fs.map g
  | [], _ => ⟨[], rfl⟩
  | y :: r, h => by
    obtain ⟨f, rfl⟩ := h y (.head _)
    obtain ⟨fs, rfl⟩ := list_of (l := r) fun z hz => h z (.tail _ hz)
    exact ⟨f :: fs, rfl⟩
section
variable {H : Type} {enc : TypeId × Value → H} {W : World}
end
end Go.Proofs.Ytnhokodcmeekhaa
namespace Go.Proofs.Ytnhokodcmeekhaa
open Go Kern RowKit Go.ChangeShapes Go.WideShapes Go.ChangeAt
theorem Try.own : ownKnob Try.prog.godebug = none := by kernel_rfl
theorem laidB : laidOutB Try.prog = true := by kernel_rfl
theorem again_of {H : Type} {enc : TypeId × Value → H} {t : TypeId} {W W' : World} {v : Value} {d : DataW H} {p : List MemPlace} (hr : Try.prog.readableRec t = true) (ht : t < Try.prog.types.size)
    (h : DataW.Trod enc Try.prog W 0 (fun _ => true) true t v d p) (hb : Below W.heap.size W W') : DataW.Trod enc Try.prog W' 0 (fun b => decide (b < W.heap.size)) true t v d p :=
  Below.trod laidB hr ht h hb (DataW.TrodAll.lt (trodAll_mk1 h))
end Go.Proofs.Ytnhokodcmeekhaa
namespace Go.Proofs.Ytnhokodcmeekhaa
open Go Kern RowKit Go.ChangeShapes Go.WideShapes Go.ChangeAt
end Go.Proofs.Ytnhokodcmeekhaa
namespace Go.Proofs.Ytnhokodcmeekhaa
open Go Kern RowKit Go.ChangeShapes Go.WideShapes Go.ChangeAt
end Go.Proofs.Ytnhokodcmeekhaa
namespace Go.Proofs.Ytnhokodcmeekhaa
open Go Kern RowKit Go.ChangeShapes Go.WideShapes Go.ChangeAt
/-! A crop by numbers, as the row reads it -/
theorem un5 : Try.prog.underlying 5 = some (.int .u8) := by kernel_rfl
theorem un59 : Try.prog.underlying 59 = some (.slice 5) := by kernel_rfl
theorem un60 : Try.prog.underlying 60 = some (.array 2 5) := by kernel_rfl
theorem un61 : Try.prog.underlying 61 = some (.slice 80) := by kernel_rfl
theorem un80 : Try.prog.underlying 80 = some (.array 3 5) := by kernel_rfl
theorem un63 : ∃ f0 f1 f2 f3 f4 f5 : Field, Try.prog.underlying 63 = some (.struct #[f0, f1, f2, f3, f4, f5]) ∧ (f0.type = 5 ∧ f0.offset = 0) ∧ (f1.type = 5 ∧ f1.offset = 1) ∧ (f2.type = 5 ∧ f2.offset = 2) ∧ (f3.type = 59 ∧ f3.offset = 3) ∧ (f4.type = 60 ∧ f4.offset = 4) ∧ (f5.type = 61 ∧ f5.offset = 6) := ⟨_, _, _, _, _, _, Try.underlying63, ⟨rfl, rfl⟩, ⟨rfl, rfl⟩, ⟨rfl, rfl⟩, ⟨rfl, rfl⟩, ⟨rfl, rfl⟩, rfl, rfl⟩
theorem ce5 : Try.prog.cellsOf 5 = 1 := by kernel_rfl
theorem ce59 : Try.prog.cellsOf 59 = 1 := by kernel_rfl
theorem ce60 : Try.prog.cellsOf 60 = 2 := by kernel_rfl
theorem ce61 : Try.prog.cellsOf 61 = 1 := by kernel_rfl
theorem ce80 : Try.prog.cellsOf 80 = 3 := by kernel_rfl
theorem ce63 : Try.prog.cellsOf 63 = 7 := by kernel_rfl
theorem ct63 : Try.prog.cellTypes Try.prog.depth 63 = some [5, 5, 5, 59, 5, 5, 61] := by kernel_rfl
theorem range8_of_wf {x : Int} (h : (Lit.int .u8 x).wf = true) : Byte x := by
  simp [Lit.wf, IntKind.min, IntKind.max, IntKind.bits, IntKind.signed] at h
  unfold Byte; omega
section
variable {H : Type} {enc : TypeId × Value → H} {W : World}
theorem trod_array2 {P : Program} {base : Nat} {spare : Nat → Bool} {held : Bool} {w : World} {t e : TypeId} {fuel : Nat} {c0 c1 : Value} {x : DataW H × List MemPlace} (ht : P.underlying t = some (.array 2 e)) (hce : P.cellsOf e = 1)
    (h : DataW.trod enc P w base spare held fuel t [c0, c1] = some x) :
    ∃ y0 y1 n, DataW.trod enc P w base spare held n e [c0] = some y0 ∧ DataW.trod enc P w base spare held n e [c1] = some y1 := by
  cases fuel with
  | zero => simp [DataW.trod] at h
  | succ n =>
    unfold DataW.trod at h
    rw [ht] at h
    have r2 : List.range 2 = [0, 1] := rfl
    simp [r2, hce] at h
    obtain ⟨_, h⟩ := h
    cases h0 : DataW.trod enc P w base spare held n e [c0] with
    | none => simp [h0] at h
    | some y0 =>
      cases h1 : DataW.trod enc P w base spare held n e [c1] with
      | none => simp [h0, h1] at h
      | some y1 => exact ⟨y0, y1, n, h0, h1⟩
theorem byte_of {m : Nat} {cs : List Value} {z : DataW H × List MemPlace} (h : DataW.trod enc Try.prog W 0 (fun _ => true) true m 5 cs = some z) : ∃ x : Int, cs = [Value.int .u8 x] ∧ Byte x := by
  obtain ⟨x, e, _, w⟩ := DataW.trod_int un5 h
  exact ⟨x, e, range8_of_wf w⟩
theorem three_of {m : Nat} {cs : List Value} {z : DataW H × List MemPlace} (hl : cs.length = 3) (h : DataW.trod enc Try.prog W 0 (fun _ => true) true m 80 cs = some z) : ∃ e : { e : Int × Int × Int // Bytes3 e }, cs = u8T e.1 := by
  match cs, hl with
  | [c0, c1, c2], _ =>
    obtain ⟨y0, y1, y2, n, _, h0, h1, h2⟩ := Go.ChangeShapes.trod_array3 un80 ce5 h
    obtain ⟨x0, e0, r0⟩ := byte_of h0
    obtain ⟨x1, e1, r1⟩ := byte_of h1
    obtain ⟨x2, e2, r2⟩ := byte_of h2
    simp at e0 e1 e2
    subst e0 e1 e2
    exact ⟨⟨(x0, x1, x2), r0, r1, r2⟩, rfl⟩
set_option maxRecDepth 100000 in
theorem bytes_ok {v : Value} {fuel : Nat} {x : DataW H × List MemPlace} (hok : Cell.ok Try.prog W .any 0 59 v) (hf : DataW.trod enc Try.prog W 0 (fun _ => true) true fuel 59 [v] = some x) :
    ∃ xs : List Int, SlW W 1 v (xs.map u8C) ∧ ∀ x ∈ xs, Byte x := by
  obtain ⟨l, g1, g2, g3⟩ := slW_of un59 ce5 (by omega) hok hf
  obtain ⟨xs, rfl⟩ := list_of (g := fun x : { x : Int // Byte x } => u8C x.1) fun y hy => by
    obtain ⟨m, z, hz⟩ := g3 y hy
    obtain ⟨x, e, r⟩ := byte_of hz
    exact ⟨⟨x, r⟩, e⟩
  refine ⟨xs.map (·.1), by rw [List.map_map]; exact g1, fun x hx => ?_⟩
  obtain ⟨y, _, rfl⟩ := List.mem_map.1 hx
  exact y.2
set_option maxRecDepth 100000 in
theorem threes_ok {v : Value} {fuel : Nat} {x : DataW H × List MemPlace} (hok : Cell.ok Try.prog W .any 0 61 v) (hf : DataW.trod enc Try.prog W 0 (fun _ => true) true fuel 61 [v] = some x) :
    ∃ es : List (Int × Int × Int), SlW W 3 v (es.map u8T) ∧ ∀ e ∈ es, Bytes3 e := by
  obtain ⟨l, g1, g2, g3⟩ := slW_of un61 ce80 (by omega) hok hf
  obtain ⟨xs, rfl⟩ := list_of (g := fun e : { e : Int × Int × Int // Bytes3 e } => u8T e.1) fun y hy => by
    obtain ⟨m, z, hz⟩ := g3 y hy
    exact three_of (g2 y hy) hz
  refine ⟨xs.map (·.1), by rw [List.map_map]; exact g1, fun x hx => ?_⟩
  obtain ⟨y, _, rfl⟩ := List.mem_map.1 hx
  exact y.2
set_option maxRecDepth 100000 in
theorem crop_of {v : Value} {d : DataW H} {p : List MemPlace} (hv : Value.okWide Try.prog W .any 0 63 v) (h : DataW.Trod enc Try.prog W 0 (fun _ => true) true 63 v d p) :
    ∃ (c : CropD) (fv sv : Value), v = cropV c fv sv ∧ c.Ok ∧ SlW W 1 fv (c.falls.map u8C) ∧ SlW W 3 sv (c.samples.map u8T) := by
  obtain ⟨f0, f1, f2, f3, f4, f5, hu, ⟨t0, o0⟩, ⟨t1, o1⟩, ⟨t2, o2⟩, ⟨t3, o3⟩, ⟨t4, o4⟩, t5, o5⟩ := un63
  have hv' := hv
  simp only [Value.okWide, hu] at hv'
  obtain ⟨cs, rfl, hsz, ts, hts, _, hrow⟩ := hv'
  rw [ct63] at hts; cases hts
  rw [ce63] at hsz
  obtain ⟨fuel, hf⟩ := h
  obtain ⟨l⟩ := cs
  match l, hsz with
  | [c0, c1, c2, c3, c4, c5, c6], _ =>
    obtain ⟨xs, n, _, _, hl, hlen, hfs⟩ := DataW.trod_struct hu hf
    match xs, hlen with
    | [y0, y1, y2, y3, y4, y5], _ =>
      have h0 := hfs 0 f0 rfl
      have h1 := hfs 1 f1 rfl
      have h2 := hfs 2 f2 rfl
      have h3 := hfs 3 f3 rfl
      have h4 := hfs 4 f4 rfl
      have h5 := hfs 5 f5 rfl
      rw [t0, o0, ce5] at h0
      rw [t1, o1, ce5] at h1
      rw [t2, o2, ce5] at h2
      rw [t3, o3, ce59] at h3
      rw [t4, o4, ce60] at h4
      rw [t5, o5, ce61] at h5
      simp [Value.cells] at h0 h1 h2 h3 h4 h5
      obtain ⟨b0, e0, r0⟩ := byte_of h0
      obtain ⟨b1, e1, r1⟩ := byte_of h1
      obtain ⟨b2, e2, r2⟩ := byte_of h2
      obtain ⟨z0, z1, m, k0, k1⟩ := trod_array2 un60 ce5 h4
      obtain ⟨b4, e4, r4⟩ := byte_of k0
      obtain ⟨b5, e5, r5⟩ := byte_of k1
      simp at e0 e1 e2 e4 e5
      subst e0 e1 e2 e4 e5
      obtain ⟨w3, hw3, hok3⟩ := hrow 3 c3 rfl
      simp at hw3; subst hw3
      obtain ⟨w6, hw6, hok6⟩ := hrow 6 c6 rfl
      simp at hw6; subst hw6
      obtain ⟨a, len, cap, rfl⟩ : ∃ a len cap, c3 = .slice a len cap := by
        simp only [Cell.okWide, un59] at hok3
        cases c3 <;> simp_all [Cell.ok]
      have hok3' : Cell.ok Try.prog W .any 0 59 (.slice a len cap) := by
        simp only [Cell.okWide, un59] at hok3; exact hok3
      obtain ⟨a2, len2, cap2, rfl⟩ : ∃ a len cap, c6 = .slice a len cap := by
        simp only [Cell.okWide, un61] at hok6
        cases c6 <;> simp_all [Cell.ok]
      have hok6' : Cell.ok Try.prog W .any 0 61 (.slice a2 len2 cap2) := by
        simp only [Cell.okWide, un61] at hok6; exact hok6
      obtain ⟨fs, g1, g2⟩ := bytes_ok hok3' h3
      obtain ⟨es, g3, g4⟩ := threes_ok hok6' h5
      exact ⟨⟨b0, b1, b2, fs, b4, b5, es⟩, _, _, rfl, ⟨r0, r1, r2, g2, r4, r5, g4⟩, g1, g3⟩
end
theorem u8C_len (l : List Int) : ∀ x ∈ l.map u8C, x.length = 1 := fun x hx => by obtain ⟨f, _, rfl⟩ := List.mem_map.1 hx; rfl
theorem u8T_len (l : List (Int × Int × Int)) : ∀ x ∈ l.map u8T, x.length = 3 := fun x hx => by obtain ⟨f, _, rfl⟩ := List.mem_map.1 hx; rfl
theorem u8C_closed (l : List Int) : (l.map u8C).flatten.all closed1 = true := by
  rw [List.all_eq_true]; intro y hy
  obtain ⟨z, hz, hy⟩ := List.mem_flatten.1 hy
  obtain ⟨f, _, rfl⟩ := List.mem_map.1 hz
  simp [u8C] at hy
  subst hy; rfl
theorem u8T_closed (l : List (Int × Int × Int)) : (l.map u8T).flatten.all closed1 = true := by
  rw [List.all_eq_true]; intro y hy
  obtain ⟨z, hz, hy⟩ := List.mem_flatten.1 hy
  obtain ⟨f, _, rfl⟩ := List.mem_map.1 hz
  simp [u8T] at hy
  rcases hy with rfl | rfl | rfl <;> rfl
/-- A crop of the world in the calculation's memory. -/
theorem attach_crop {W : World} {c : CropD} {fv sv : Value} (hf : SlW W 1 fv (c.falls.map u8C)) (hs : SlW W 3 sv (c.samples.map u8T)) :
    ∃ τ s' fv' sv', WRel W.heap.size τ s' W ∧ VRel τ (cropV c fv' sv') (cropV c fv sv) ∧ SlAt 1 s' fv' (c.falls.map u8C) ∧ SlAt 3 s' sv' (c.samples.map u8T) := by
  have hw0 : WRel W.heap.size (fun _ => none) ⟨.leaf, 0⟩ W := ⟨Nat.le_refl _, (fun h => by cases h), fun _ => rfl, (fun h => by cases h), (fun h => by cases h)⟩
  obtain ⟨σ1, s1, v1, _, hw1, hv1, hs1, k1⟩ := attach hw0 rfl hf (u8C_len _) (u8C_closed _)
  obtain ⟨σ2, s2, v2, l2, hw2, hv2, hs2, k2⟩ := attach hw1 rfl hs (u8T_len _) (u8T_closed _)
  exact ⟨σ2, s2, v1, v2, hw2, .agg (.cons (.int _ _) (.cons (.int _ _) (.cons (.int _ _) (.cons (hv1.mono l2) (.cons (.int _ _) (.cons (.int _ _) (.cons hv2 .nil))))))), hs1.keep k2, hs2⟩
end Go.Proofs.Ytnhokodcmeekhaa
namespace Go.Proofs.Ytnhokodcmeekhaa
open Go Kern RowKit Go.ChangeShapes Go.WideShapes Go.ChangeAt
theorem un64 : Try.prog.underlying 64 = some (.int .u16) := by kernel_rfl
theorem range16_of_wf {x : Int} (h : (Lit.int .u16 x).wf = true) : 0 ≤ x ∧ x ≤ 65535 := by
  simp [Lit.wf, IntKind.min, IntKind.max, IntKind.bits, IntKind.signed] at h
  omega
theorem lawW_calls (c : CropD) (hc : c.Ok) (fv sv : Value) (goal : Int) (W : World) (hf : SlW W 1 fv (c.falls.map u8C)) (hs : SlW W 3 sv (c.samples.map u8T)) (hg : 0 ≤ goal ∧ goal ≤ 65535) :
    Calls Try.prog 12 #[cropV c fv sv, .int .u16 goal] W fun e w' => e = .returned (.bool true) ∧ Below W.heap.size W w' := by
  obtain ⟨σ1, s1, fv', sv', hw1, hv1, hs1, hs2⟩ := attach_crop hf hs
  refine calls_of_ev (lawW_ev c hc fv' sv' goal s1 hs1 hs2 hg) hw1 rfl ?_
  exact .cons hv1 (.cons (.int _ _) .nil)
set_option maxRecDepth 100000 in
theorem weeks_lifted (os : Os) (started : os.Started) (H : Type) (enc : TypeId × Value → H) :
    ReturnsInHanded {} Try.checked os 12 .any (Rows.ripeWeeksSpec.pre6 enc Try.prog Try.f12 Rows.ripeWeeksRow.domain false) (Rows.ripeWeeksSpec.post enc Try.prog Try.f12 false true false false) := by
  refine returnsInHanded_of_change (C := Try.checked) Try.own started (by kernel_rfl) Try.func12
    (ChangeSpec.witness6 (enc := enc) (C := Try.checked) false ⟨#[], #[.agg #[.int .u8 0, .int .u8 0, .int .u8 0, .slice none 0 0, .int .u8 0, .int .u8 0, .slice none 0 0], .int .u16 0], []⟩ 8 (by kernel_rfl) (by kernel_rfl) (by kernel_rfl) (by kernel_rfl)) ?_
  intro W base args ds gs before hval hW hcnd _
  have hW' := hW
  obtain ⟨p, q, hA0, hV, rfl, hfz, hnd⟩ := hW
  have hA : DataW.TrodAll enc Try.prog W 0 (fun _ => true) true Try.f12.params.toList args.toList ds p := hA0
  rw [Try.params12] at hA
  obtain ⟨v0, v1, d0, d1, p0, p1, rfl, rfl, rfl, h0, h1⟩ := trodAll_two hA
  obtain ⟨rfl, rfl⟩ := trodVars_none hV
  obtain ⟨c, fv, sv, rfl, hc, hf, hs⟩ := crop_of (hval 0 63 v0 rfl rfl) h0
  have h1k := h1
  obtain ⟨goal, rfl, rfl, rfl, hwf⟩ := open_int un64 (hval 1 64 v1 rfl rfl) h1
  refine (lawW_calls c hc fv sv goal W hf hs (range16_of_wf hwf)).mono fun e W' ⟨he, hb⟩ => ?_
  subst he
  exact ⟨_, rfl, [_, _], [], _, [], _, [], hW', trodAll_mk1 (shut_bool Try.underlying4 _), trodAll_mk2 (again_of (by kernel_rfl) (of_decide_eq_true (by kernel_rfl)) h0 hb) (again_of (by kernel_rfl) (of_decide_eq_true (by kernel_rfl)) h1k hb), rfl, hb.frame _, fun h => by cases h⟩

theorem weeks_holds : Rows.RipeWeeksSaid :=
  OpenClaim.holds_of_wide 12 Try.f12 rfl rfl rfl rfl rfl rfl rfl ⟨rfl, rfl, rfl, rfl, rfl⟩ rfl rfl rfl rfl rfl (by kernel_rfl) Try.func12 (by kernel_rfl)
    (of_decide_eq_true (by kernel_rfl)) (by unfold Func.isWrapper; first | (rw [if_pos (by decide +kernel)]; kernel_rfl) | (rw [if_neg (by decide +kernel)]; exact ⟨rfl, rfl⟩))
    (fun os started H enc _ => weeks_lifted os started H enc)
end Go.Proofs.Ytnhokodcmeekhaa
