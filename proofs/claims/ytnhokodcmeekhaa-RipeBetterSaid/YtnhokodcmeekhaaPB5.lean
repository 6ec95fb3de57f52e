/-
  . They hold with no condition but those that are written in each theorem.
-/
import Derived.Test.YtnhokodcmeekhaaRows
import Derived.ProofKit
import Derived.Deep.Slices
import Derived.Lib.SmallJoins
import Derived.Laws.IdiomArrays
import Derived.Deep.Strs
import Derived.Test.YtnhokodcmeekhaaPB1
import Derived.Test.YtnhokodcmeekhaaPB2
import Derived.Test.YtnhokodcmeekhaaPB3
import Derived.Test.YtnhokodcmeekhaaPB4
set_option linter.unusedSimpArgs false
set_option linter.unusedVariables false
namespace Go.Proofs.Ytnhokodcmeekhaa
open Go Kern
theorem SlAt.one {n : Nat} {s : St} {v : Value} {l : List (List Value)} (h : SlAt n s v l) : oneV v = true := by obtain ⟨a, c, rfl⟩ := h.shape; rfl
def kL : List (Int × Int) := [(980, 1020), (1180, 1545), (1380, 1420), (1275, 1640), (1170, 1230)]
theorem small_kL : SmallP kL := fun x hx => by
  unfold kL at hx
  simp only [List.mem_cons, List.not_mem_nil, or_false] at hx
  rcases hx with rfl | rfl | rfl | rfl | rfl <;> exact ⟨by unfold In62; decide, by unfold In62; decide⟩
theorem rverF_trip {n lo hi : Int} {ss : List SampD} {i j k : Nat} (h : fieldErr n lo hi ss = 0) (hi' : i < n.toNat) (hj : j < n.toNat) (hk : k < n.toNat) (hc : holdsB (fun w => (endN lo hi ss w).1) (fun w => (endN lo hi ss w).2) i j k = true) : rverF n lo hi ss [(i : Int), (j : Int), (k : Int)] = 0 := by
  unfold rverF verIn
  rw [if_pos h, if_pos (show [(i : Int), (j : Int), (k : Int)].length = 3 from rfl), if_pos (by simp [weekB]; omega)]
  simp only [List.getD_cons_zero, List.getD_cons_succ, Int.toNat_natCast]
  rw [if_pos hc]
theorem trip_ver {i j k : Nat} (hi : i < 5) (hj : j < 5) (hk : k < 5) (h : hB 0 2000 ssZ i j k = true) : verF 5 0 2000 ssZ [(i : Int), (j : Int), (k : Int)] = 0 := by
  rw [verF_eq]
  exact rverF_trip errZ hi hj hk h
set_option maxRecDepth 100000 in
set_option maxHeartbeats 4000000 in
theorem works_ev (s : St) : Ev TT 13 [] s fun r s' => r = .bool true ∧ Keep s s' := by
  have hkF := fun v s h => known_ev 5 0 2000 v ssF s h (by decide)
  have hkZ := fun v s h => known_ev 5 0 2000 v ssZ s h (by decide)
  have hcZ := fun v s h => clashTop_ev 5 0 2000 v ssZ s h (by decide)
  have hpF := fun v s h => peaks_ev 5 0 2000 v ssF s h (by decide)
  have hrF := fun v s h => ripe_ev 5 0 2000 1300 v ssF s h (by decide)
  have hgF := fun v s h => regret_ev 5 0 2000 3 v ssF s h (by decide)
  have huF := fun v s h => cut_ev 5 0 2000 v ssF s h (by decide)
  have hvZ := fun v w ws s h hw hl => verify_ev 5 0 2000 v w ssZ ws s h (by decide) hw hl
  have hvF := fun v w ws s h hw hl => verify_ev 5 0 2000 v w ssF ws s h (by decide) hw hl
  unfold fieldV at hkF hkZ hcZ hpF hrF hgF huF hvZ hvF
  refine Ev.intro (fn := Try.f13) rfl (by kernel_rfl) rfl rfl ?_
  apply zz
  refine Cd.ra (h := ?_)
  apply Run.by_eq
  · intro self
    conv => lhs; simp -implicitDefEqProofs (maxSteps := 300000) (disch := omega) [-getElem?_pos, -getElem?_neg]
  try (with_reducible refine Run.ret ?_)
  apply zz
  -- Known of F
  refine Cd.mono (Q := fun x f1 s1 => x = Ex.normal ∧ f1.marks = [] ∧ Keep s s1 ∧ ∃ kv, f1.get 1 = kv ∧ f1.get 2 = .int .i64 0 ∧ SpAt s1 kv [(980, 1020), (1180, 1545), (1380, 1420), (1275, 1640), (1170, 1230)]) ?_ ?_
  · apply zz
    refine Cd.ra (h := ?_)
    apply Run.by_eq
    · intro self
      conv => lhs; simp -implicitDefEqProofs (maxSteps := 300000) (disch := omega) [-getElem?_pos, -getElem?_neg]
    try (with_reducible refine Run.ret ?_)
    apply zz
    refine Run.call ((F_ev _).mono fun v w1 hv => ?_)
    obtain ⟨k1, b, rfl, hb1, hb2, hb3⟩ := hv
    apply Run.by_eq
    · intro self
      conv => lhs; simp -implicitDefEqProofs (maxSteps := 300000) (disch := omega) [-getElem?_pos, -getElem?_neg]
    try (with_reducible refine Run.ret ?_)
    apply zz
    refine Run.call ((hkF _ _ (smF hb2 hb3)).mono fun v w2 hv => ?_)
    obtain ⟨k2, kv, e, rfl, hK⟩ := hv
    obtain ⟨rfl, hkv⟩ := known_F hK
    have ho := SlAt.one hkv
    apply Run.by_eq
    · intro self
      conv => lhs; simp -implicitDefEqProofs (maxSteps := 300000) (disch := omega) [-getElem?_pos, -getElem?_neg]
    try (with_reducible refine Run.ret ?_)
    apply zz
    exact ⟨rfl, by simp, k1.trans k2, kv, by simp, by simp, hkv⟩
  rintro x f s1 ⟨rfl, hmk, hk, kv, g1, g2, hkv⟩
  apply zz
  -- Known of Z
  refine Cd.mono (Q := fun x f1 s1 => x = Ex.normal ∧ f1.marks = [] ∧ Keep s s1 ∧ f1.get 1 = kv ∧ f1.get 2 = .int .i64 0 ∧ f1.get 4 = .int .i64 12 ∧ SpAt s1 kv [(980, 1020), (1180, 1545), (1380, 1420), (1275, 1640), (1170, 1230)]) ?_ ?_
  · apply zz
    refine Cd.ra (h := ?_)
    apply Run.by_eq
    · intro self
      conv => lhs; simp -implicitDefEqProofs (maxSteps := 300000) (disch := omega) [-getElem?_pos, -getElem?_neg]
    try (with_reducible refine Run.ret ?_)
    apply zz
    refine Run.call ((Z_ev _).mono fun v w1 hv => ?_)
    obtain ⟨k1, b, rfl, hb1, hb2, hb3⟩ := hv
    apply Run.by_eq
    · intro self
      conv => lhs; simp -implicitDefEqProofs (maxSteps := 300000) (disch := omega) [-getElem?_pos, -getElem?_neg]
    try (with_reducible refine Run.ret ?_)
    apply zz
    refine Run.call ((hkZ _ _ (smZ hb2 hb3)).mono fun v w2 hv => ?_)
    obtain ⟨k2, zv, e, rfl, hK⟩ := hv
    obtain ⟨rfl, rfl⟩ := known_Z hK
    apply Run.by_eq
    · intro self
      conv => lhs; simp -implicitDefEqProofs (maxSteps := 300000) (disch := omega) [-getElem?_pos, -getElem?_neg]
    try (with_reducible refine Run.ret ?_)
    apply zz
    exact ⟨rfl, by simp [hmk], hk.trans (k1.trans k2), by simp [g1], by simp [g2], by simp, hkv.keep (k1.trans k2)⟩
  clear hmk g1 g2 hk hkv
  rintro x f s1 ⟨rfl, hmk, hk, g1, g2, g4, hkv⟩
  apply zz
  -- Clash of Z
  refine Cd.mono (Q := fun x f1 s1 => x = Ex.normal ∧ f1.marks = [] ∧ Keep s s1 ∧ f1.get 1 = kv ∧ f1.get 2 = .int .i64 0 ∧ f1.get 4 = .int .i64 12 ∧ SpAt s1 kv [(980, 1020), (1180, 1545), (1380, 1420), (1275, 1640), (1170, 1230)] ∧ f1.get 6 = .int .i64 0 ∧ ∃ cv, f1.get 5 = cv ∧ Trip 5 (hB 0 2000 ssZ) cv s1) ?_ ?_
  · apply zz
    refine Cd.ra (h := ?_)
    apply Run.by_eq
    · intro self
      conv => lhs; simp -implicitDefEqProofs (maxSteps := 300000) (disch := omega) [-getElem?_pos, -getElem?_neg]
    try (with_reducible refine Run.ret ?_)
    apply zz
    refine Run.call ((Z_ev _).mono fun v w1 hv => ?_)
    obtain ⟨k1, b, rfl, hb1, hb2, hb3⟩ := hv
    apply Run.by_eq
    · intro self
      conv => lhs; simp -implicitDefEqProofs (maxSteps := 300000) (disch := omega) [-getElem?_pos, -getElem?_neg]
    try (with_reducible refine Run.ret ?_)
    apply zz
    refine Run.call ((hcZ _ _ (smZ hb2 hb3)).mono fun v w2 hv => ?_)
    obtain ⟨k2, cv, e, rfl, hK⟩ := hv
    obtain ⟨rfl, hT⟩ := clash_Z hK
    have ho : oneV cv = true := by obtain ⟨_, _, _, _, _, _, _, _, rfl, _⟩ := hT; rfl
    apply Run.by_eq
    · intro self
      conv => lhs; simp -implicitDefEqProofs (maxSteps := 300000) (disch := omega) [-getElem?_pos, -getElem?_neg]
    try (with_reducible refine Run.ret ?_)
    apply zz
    exact ⟨rfl, by simp [hmk], hk.trans (k1.trans k2), by simp [g1], by simp [g2], by simp [g4], hkv.keep (k1.trans k2), by simp, cv, by simp, hT⟩
  clear hmk g1 g2 g4 hk hkv
  rintro x f s1 ⟨rfl, hmk, hk, g1, g2, g4, hkv, g6, cv, g5, hT⟩
  apply zz
  obtain ⟨ti, tj, tk, t1, t2, t3, t4, hci, bc, rfl⟩ := hT.ints
  clear hT
  -- Peaks of F
  refine Cd.mono (Q := fun x f1 s1 => x = Ex.normal ∧ f1.marks = [] ∧ Keep s s1 ∧ f1.get 1 = kv ∧ f1.get 2 = .int .i64 0 ∧ f1.get 4 = .int .i64 12 ∧ SpAt s1 kv [(980, 1020), (1180, 1545), (1380, 1420), (1275, 1640), (1170, 1230)] ∧ f1.get 6 = .int .i64 0 ∧ f1.get 5 = .slice (some bc) 3 3 ∧ IntsAt s1 (.slice (some bc) 3 3) [(ti : Int), (tj : Int), (tk : Int)] ∧ f1.get 8 = .int .i64 0 ∧ ∃ pv, f1.get 7 = pv ∧ IntsAt s1 pv [1, 2, 3]) ?_ ?_
  · apply zz
    refine Cd.ra (h := ?_)
    apply Run.by_eq
    · intro self
      conv => lhs; simp -implicitDefEqProofs (maxSteps := 300000) (disch := omega) [-getElem?_pos, -getElem?_neg]
    try (with_reducible refine Run.ret ?_)
    apply zz
    refine Run.call ((F_ev _).mono fun v w1 hv => ?_)
    obtain ⟨k1, b, rfl, hb1, hb2, hb3⟩ := hv
    apply Run.by_eq
    · intro self
      conv => lhs; simp -implicitDefEqProofs (maxSteps := 300000) (disch := omega) [-getElem?_pos, -getElem?_neg]
    try (with_reducible refine Run.ret ?_)
    apply zz
    refine Run.call ((hpF _ _ (smF hb2 hb3)).mono fun v w2 hv => ?_)
    obtain ⟨k2, pv, e, rfl, hK⟩ := hv
    obtain ⟨rfl, hP⟩ := hK.F
    have hP2 : IntsAt w2 pv [1, 2, 3] := by have := peaksF ▸ hP; exact this
    have ho := SlAt.one hP2
    apply Run.by_eq
    · intro self
      conv => lhs; simp -implicitDefEqProofs (maxSteps := 300000) (disch := omega) [-getElem?_pos, -getElem?_neg]
    try (with_reducible refine Run.ret ?_)
    apply zz
    exact ⟨rfl, by simp [hmk], hk.trans (k1.trans k2), by simp [g1], by simp [g2], by simp [g4], hkv.keep (k1.trans k2), by simp [g6], by simp [g5], hci.keep (k1.trans k2), by simp, pv, by simp, hP2⟩
  clear hmk g1 g2 g4 g5 g6 hk hkv hci
  rintro x f s1 ⟨rfl, hmk, hk, g1, g2, g4, hkv, g6, g5, hci, g8, pv, g7, hpv⟩
  apply zz
  -- Ripe of F
  refine Cd.mono (Q := fun x f1 s1 => x = Ex.normal ∧ f1.marks = [] ∧ Keep s s1 ∧ f1.get 1 = kv ∧ f1.get 2 = .int .i64 0 ∧ f1.get 4 = .int .i64 12 ∧ SpAt s1 kv [(980, 1020), (1180, 1545), (1380, 1420), (1275, 1640), (1170, 1230)] ∧ f1.get 6 = .int .i64 0 ∧ f1.get 5 = .slice (some bc) 3 3 ∧ IntsAt s1 (.slice (some bc) 3 3) [(ti : Int), (tj : Int), (tk : Int)] ∧ f1.get 8 = .int .i64 0 ∧ f1.get 7 = pv ∧ IntsAt s1 pv [1, 2, 3] ∧ f1.get 11 = .int .i64 0 ∧ ∃ sv mv, f1.get 9 = sv ∧ f1.get 10 = mv ∧ IntsAt s1 sv [2] ∧ IntsAt s1 mv [1, 2, 3]) ?_ ?_
  · apply zz
    refine Cd.ra (h := ?_)
    apply Run.by_eq
    · intro self
      conv => lhs; simp -implicitDefEqProofs (maxSteps := 300000) (disch := omega) [-getElem?_pos, -getElem?_neg]
    try (with_reducible refine Run.ret ?_)
    apply zz
    refine Run.call ((F_ev _).mono fun v w1 hv => ?_)
    obtain ⟨k1, b, rfl, hb1, hb2, hb3⟩ := hv
    apply Run.by_eq
    · intro self
      conv => lhs; simp -implicitDefEqProofs (maxSteps := 300000) (disch := omega) [-getElem?_pos, -getElem?_neg]
    try (with_reducible refine Run.ret ?_)
    apply zz
    refine Run.call ((hrF _ _ (smF hb2 hb3)).mono fun v w2 hv => ?_)
    obtain ⟨k2, sv, mv, e, rfl, hK⟩ := hv
    obtain ⟨rfl, hP⟩ := hK.F
    have hS2 : IntsAt w2 sv [2] := by have := surelyF ▸ hP.1; exact this
    have hM2 : IntsAt w2 mv [1, 2, 3] := by have := perhapsF ▸ hP.2; exact this
    have ho := SlAt.one hS2
    have ho2 := SlAt.one hM2
    apply Run.by_eq
    · intro self
      conv => lhs; simp -implicitDefEqProofs (maxSteps := 300000) (disch := omega) [-getElem?_pos, -getElem?_neg]
    try (with_reducible refine Run.ret ?_)
    apply zz
    exact ⟨rfl, by simp [hmk], hk.trans (k1.trans k2), by simp [g1], by simp [g2], by simp [g4], hkv.keep (k1.trans k2), by simp [g6], by simp [g5], hci.keep (k1.trans k2), by simp [g8], by simp [g7], hpv.keep (k1.trans k2), by simp, sv, mv, by simp, by simp, hS2, hM2⟩
  clear hmk g1 g2 g4 g5 g6 g7 g8 hk hkv hci hpv
  rintro x f s1 ⟨rfl, hmk, hk, g1, g2, g4, hkv, g6, g5, hci, g8, g7, hpv, g11, sv, mv, g9, g10, hsv, hmv⟩
  apply zz
  have hv0 := trip_ver t1 t2 t3 t4
  have vc := slAt_veq hci 4
  refine Cd.mono (Q := fun x f1 s1 => x = Ex.normal ∧ f1.marks = [] ∧ Keep s s1 ∧ f1.get 7 = pv ∧ IntsAt s1 pv [1, 2, 3] ∧ f1.get 9 = sv ∧ f1.get 10 = mv ∧ IntsAt s1 sv [2] ∧ IntsAt s1 mv [1, 2, 3] ∧ f1.get 87 = .bool false) ?_ ?_
  · have hr5 : repeatL [Value.int .i64 0, .int .i64 0] 5 = [.int .i64 0, .int .i64 0, .int .i64 0, .int .i64 0, .int .i64 0, .int .i64 0, .int .i64 0, .int .i64 0, .int .i64 0, .int .i64 0] := rfl
    apply zz
    refine Cd.ra (h := ?_)
    apply Run.by_eq
    · intro self
      conv => lhs; simp -implicitDefEqProofs (maxSteps := 300000) (disch := omega) [-getElem?_pos, -getElem?_neg, g1, g2, g4, g5, g6, g8, g11]
    try (with_reducible refine Run.ret ?_)
    apply zz
    refine Run.call ((span_ev 980 1020 _).mono fun v wa hv => ?_)
    obtain ⟨rfl, a⟩ := hv
    have aa := a.1
    have ab := a.2
    try simp only [pushed_next', upded_next'] at aa ab
    apply Run.by_eq
    · intro self
      conv => lhs; simp -implicitDefEqProofs (maxSteps := 300000) (disch := omega) [-getElem?_pos, -getElem?_neg]
    try (with_reducible refine Run.ret ?_)
    apply zz
    refine Run.call ((span_ev 1180 1545 _).mono fun v wb hv => ?_)
    obtain ⟨rfl, b⟩ := hv
    have ba := b.1
    have bb := b.2
    try simp only [pushed_next', upded_next'] at ba bb
    apply Run.by_eq
    · intro self
      conv => lhs; simp -implicitDefEqProofs (maxSteps := 300000) (disch := omega) [-getElem?_pos, -getElem?_neg]
    try (with_reducible refine Run.ret ?_)
    apply zz
    refine Run.call ((span_ev 1380 1420 _).mono fun v wc hv => ?_)
    obtain ⟨rfl, c⟩ := hv
    have ca := c.1
    have cb := c.2
    try simp only [pushed_next', upded_next'] at ca cb
    apply Run.by_eq
    · intro self
      conv => lhs; simp -implicitDefEqProofs (maxSteps := 300000) (disch := omega) [-getElem?_pos, -getElem?_neg]
    try (with_reducible refine Run.ret ?_)
    apply zz
    refine Run.call ((span_ev 1275 1640 _).mono fun v wd hv => ?_)
    obtain ⟨rfl, d⟩ := hv
    have da := d.1
    have db := d.2
    try simp only [pushed_next', upded_next'] at da db
    apply Run.by_eq
    · intro self
      conv => lhs; simp -implicitDefEqProofs (maxSteps := 300000) (disch := omega) [-getElem?_pos, -getElem?_neg]
    try (with_reducible refine Run.ret ?_)
    apply zz
    refine Run.call ((span_ev 1170 1230 _).mono fun v we hv => ?_)
    obtain ⟨rfl, e⟩ := hv
    have ea := e.1
    have eb := e.2
    try simp only [pushed_next', upded_next'] at ea eb
    have ke : Keep s1 we := ⟨by omega, fun i hi => by rw [eb i (by omega), db i (by omega), cb i (by omega), bb i (by omega)]; exact ab i hi⟩
    apply Run.by_eq
    · intro self
      conv => lhs; simp -implicitDefEqProofs (maxSteps := 300000) (disch := omega) [-getElem?_pos, -getElem?_neg, g1, hr5]
    try (with_reducible refine Run.ret ?_)
    apply zz
    have kp : Keep s1 (we.pushed (.cells [.int .i64 980, .int .i64 1020, .int .i64 1180, .int .i64 1545, .int .i64 1380, .int .i64 1420, .int .i64 1275, .int .i64 1640, .int .i64 1170, .int .i64 1230] none)) := ke.pushed _
    have hlit : SpAt (we.pushed (.cells [.int .i64 980, .int .i64 1020, .int .i64 1180, .int .i64 1545, .int .i64 1380, .int .i64 1420, .int .i64 1275, .int .i64 1640, .int .i64 1170, .int .i64 1230] none)) (.slice (some ⟨we.next, 0, none⟩) 5 5) kL := sl_of_cells (n := 2) (l := kL.map spP) (Nat.lt_succ_self _) (fun y hy => by obtain ⟨p, _, rfl⟩ := List.mem_map.1 hy; rfl) (get_pushed_new _ _)
    have hkv2 : SpAt (we.pushed (.cells [.int .i64 980, .int .i64 1020, .int .i64 1180, .int .i64 1545, .int .i64 1380, .int .i64 1420, .int .i64 1275, .int .i64 1640, .int .i64 1170, .int .i64 1230] none)) kv kL := hkv.keep kp
    refine Run.call ((spans_ev _ _ _ _ _ hkv2 hlit small_kL small_kL (by decide) (by decide)).mono fun v w6 hv => ?_)
    obtain ⟨rfl, k6⟩ := hv
    have k6' := kp.trans k6
    apply Run.by_eq
    · intro self
      conv => lhs; simp -implicitDefEqProofs (maxSteps := 300000) (disch := omega) [-getElem?_pos, -getElem?_neg]
    try (with_reducible refine Run.ret ?_)
    apply zz
    refine Run.call ((Z_ev _).mono fun v w7 hv => ?_)
    obtain ⟨k7, b7, rfl, hb1, hb2, hb3⟩ := hv
    have k7' := k6'.trans k7
    apply Run.by_eq
    · intro self
      conv => lhs; simp -implicitDefEqProofs (maxSteps := 300000) (disch := omega) [-getElem?_pos, -getElem?_neg, g5]
    try (with_reducible refine Run.ret ?_)
    apply zz
    refine Run.call ((hvZ _ _ _ _ (smZ hb2 hb3) (hci.keep k7') (by simp)).mono fun v w8 hv => ?_)
    obtain ⟨rfl, k8⟩ := hv
    have k8' := k7'.trans k8
    clear hb1 hb2 hb3
    rw [hv0]
    apply Run.by_eq
    · intro self
      conv => lhs; simp -implicitDefEqProofs (maxSteps := 300000) (disch := omega) [-getElem?_pos, -getElem?_neg]
    try (with_reducible refine Run.ret ?_)
    apply zz
    refine Run.call ((Z_ev _).mono fun v w9 hv => ?_)
    obtain ⟨k9, b9, rfl, hb1, hb2, hb3⟩ := hv
    have k9' := k8'.trans k9
    apply Run.by_eq
    · intro self
      conv => lhs; simp -implicitDefEqProofs (maxSteps := 300000) (disch := omega) [-getElem?_pos, -getElem?_neg]
    try (with_reducible refine Run.ret ?_)
    apply zz
    have kq : Keep w9 (w9.pushed (.cells [.int .i64 0, .int .i64 2, .int .i64 4] none)) := (Keep.refl _).pushed _
    have h024 : IntsAt (w9.pushed (.cells [.int .i64 0, .int .i64 2, .int .i64 4] none)) (.slice (some ⟨w9.next, 0, none⟩) 3 3) [0, 2, 4] := ints_of_cells (xs := [0, 2, 4]) (Nat.lt_succ_self _) (get_pushed_new _ _)
    refine Run.call ((hvZ _ _ _ _ ((smZ hb2 hb3).keep kq) h024 (by decide)).mono fun v w10 hv => ?_)
    obtain ⟨rfl, k10⟩ := hv
    have k10' := (k9'.trans kq).trans k10
    clear hb1 hb2 hb3
    rw [verZ]
    apply Run.by_eq
    · intro self
      conv => lhs; simp -implicitDefEqProofs (maxSteps := 300000) (disch := omega) [-getElem?_pos, -getElem?_neg]
    try (with_reducible refine Run.ret ?_)
    apply zz
    refine Run.call ((F_ev _).mono fun v w11 hv => ?_)
    obtain ⟨k11, b11, rfl, hb1, hb2, hb3⟩ := hv
    have k11' := k10'.trans k11
    apply Run.by_eq
    · intro self
      conv => lhs; simp -implicitDefEqProofs (maxSteps := 300000) (disch := omega) [-getElem?_pos, -getElem?_neg]
    try (with_reducible refine Run.ret ?_)
    apply zz
    have kq2 : Keep w11 (w11.pushed (.cells [.int .i64 0, .int .i64 2, .int .i64 4] none)) := (Keep.refl _).pushed _
    have h024' : IntsAt (w11.pushed (.cells [.int .i64 0, .int .i64 2, .int .i64 4] none)) (.slice (some ⟨w11.next, 0, none⟩) 3 3) [0, 2, 4] := ints_of_cells (xs := [0, 2, 4]) (Nat.lt_succ_self _) (get_pushed_new _ _)
    refine Run.call ((hvF _ _ _ _ ((smF hb2 hb3).keep kq2) h024' (by decide)).mono fun v w12 hv => ?_)
    obtain ⟨rfl, k12⟩ := hv
    have k12' := (k11'.trans kq2).trans k12
    clear hb1 hb2 hb3
    rw [verFF]
    apply Run.by_eq
    · intro self
      conv => lhs; simp -implicitDefEqProofs (maxSteps := 300000) (disch := omega) [-getElem?_pos, -getElem?_neg]
    try (with_reducible refine Run.ret ?_)
    apply zz
    exact ⟨rfl, by simp [hmk], hk.trans k12', by simp [g7], hpv.keep k12', by simp [g9], by simp [g10], hsv.keep k12', hmv.keep k12', by simp⟩
  clear hmk g1 g2 g4 g5 g6 g7 g8 g9 g10 g11 hk hkv hci hpv hsv hmv hv0 vc
  rintro x f s1 ⟨rfl, hmk, hk, g7, hpv, g9, g10, hsv, hmv, g87⟩
  apply zz
  apply Cd.ite rfl
  · conv => lhs; simp -implicitDefEqProofs (maxSteps := 300000) (disch := omega) [-getElem?_pos, -getElem?_neg, g87]
  all_goals intro c0
  all_goals try (cases c0; done)
  all_goals try simp only [Bool.not_eq_true', Bool.not_eq_false', decide_eq_true_eq, decide_eq_false_iff_not] at c0
  all_goals apply zz
  -- Regret of F
  refine Cd.mono (Q := fun x f1 s1 => x = Ex.normal ∧ f1.marks = [] ∧ Keep s s1 ∧ f1.get 7 = pv ∧ IntsAt s1 pv [1, 2, 3] ∧ f1.get 9 = sv ∧ f1.get 10 = mv ∧ IntsAt s1 sv [2] ∧ IntsAt s1 mv [1, 2, 3] ∧ f1.get 2 = .int .i64 0 ∧ f1.get 12 = .int .i64 250) ?_ ?_
  · apply zz
    refine Cd.ra (h := ?_)
    apply Run.by_eq
    · intro self
      conv => lhs; simp -implicitDefEqProofs (maxSteps := 300000) (disch := omega) [-getElem?_pos, -getElem?_neg]
    try (with_reducible refine Run.ret ?_)
    apply zz
    refine Run.call ((F_ev _).mono fun v w1 hv => ?_)
    obtain ⟨k1, b, rfl, hb1, hb2, hb3⟩ := hv
    apply Run.by_eq
    · intro self
      conv => lhs; simp -implicitDefEqProofs (maxSteps := 300000) (disch := omega) [-getElem?_pos, -getElem?_neg]
    try (with_reducible refine Run.ret ?_)
    apply zz
    refine Run.call ((hgF _ _ (smF hb2 hb3)).mono fun v w2 hv => ?_)
    obtain ⟨k2, rg, e, rfl, hK⟩ := hv
    obtain ⟨rfl, rfl⟩ := reg_F hK
    apply Run.by_eq
    · intro self
      conv => lhs; simp -implicitDefEqProofs (maxSteps := 300000) (disch := omega) [-getElem?_pos, -getElem?_neg]
    try (with_reducible refine Run.ret ?_)
    apply zz
    have k2' := k1.trans k2
    exact ⟨rfl, by simp [hmk], hk.trans k2', by simp [g7], hpv.keep k2', by simp [g9], by simp [g10], hsv.keep k2', hmv.keep k2', by simp, by simp⟩
  clear hmk g7 g9 g10 g87 hk hpv hsv hmv
  rintro x f s1 ⟨rfl, hmk, hk, g7, hpv, g9, g10, hsv, hmv, g2, g12⟩
  apply zz
  -- Cut of F
  refine Cd.mono (Q := fun x f1 s1 => x = Ex.normal ∧ f1.marks = [] ∧ Keep s s1 ∧ f1.get 7 = pv ∧ IntsAt s1 pv [1, 2, 3] ∧ f1.get 9 = sv ∧ f1.get 10 = mv ∧ IntsAt s1 sv [2] ∧ IntsAt s1 mv [1, 2, 3] ∧ f1.get 2 = .int .i64 0 ∧ f1.get 12 = .int .i64 250 ∧ f1.get 13 = .int .i64 2 ∧ f1.get 14 = .int .i64 220 ∧ f1.get 4 = .int .i64 0) ?_ ?_
  · apply zz
    refine Cd.ra (h := ?_)
    apply Run.by_eq
    · intro self
      conv => lhs; simp -implicitDefEqProofs (maxSteps := 300000) (disch := omega) [-getElem?_pos, -getElem?_neg]
    try (with_reducible refine Run.ret ?_)
    apply zz
    refine Run.call ((F_ev _).mono fun v w1 hv => ?_)
    obtain ⟨k1, b, rfl, hb1, hb2, hb3⟩ := hv
    apply Run.by_eq
    · intro self
      conv => lhs; simp -implicitDefEqProofs (maxSteps := 300000) (disch := omega) [-getElem?_pos, -getElem?_neg]
    try (with_reducible refine Run.ret ?_)
    apply zz
    refine Run.call ((huF _ _ (smF hb2 hb3)).mono fun v w2 hv => ?_)
    obtain ⟨k2, cw, cx, e, rfl, hK⟩ := hv
    obtain ⟨rfl, hcw, hcx⟩ := hK.F
    have e1 : bestI (RF 5 0 2000 ssF) ((5 : Int).toNat - 1) = 2 := cutF1
    rw [e1] at hcw hcx
    rw [cutF2] at hcx
    subst hcw hcx
    apply Run.by_eq
    · intro self
      conv => lhs; simp -implicitDefEqProofs (maxSteps := 300000) (disch := omega) [-getElem?_pos, -getElem?_neg]
    try (with_reducible refine Run.ret ?_)
    apply zz
    have k2' := k1.trans k2
    exact ⟨rfl, by simp [hmk], hk.trans k2', by simp [g7], hpv.keep k2', by simp [g9], by simp [g10], hsv.keep k2', hmv.keep k2', by simp [g2], by simp [g12], by simp, by simp, by simp⟩
  clear hmk g7 g9 g10 g2 g12 hk hpv hsv hmv
  rintro x f s1 ⟨rfl, hmk, hk, g7, hpv, g9, g10, hsv, hmv, g2, g12, g13, g14, g4⟩
  apply zz
  refine Cd.ra (h := ?_)
  apply Run.by_eq
  · intro self
    conv => lhs; simp -implicitDefEqProofs (maxSteps := 300000) (disch := omega) [-getElem?_pos, -getElem?_neg, g2, g4, g12, g13, g14, g7]
  try (with_reducible refine Run.ret ?_)
  apply zz
  have kp1 : Keep s1 (s1.pushed (.cells [.int .i64 1, .int .i64 2, .int .i64 3] none)) := (Keep.refl _).pushed _
  refine Run.call ((numbers_ev _ _ _ _ _ (hpv.keep kp1) (ints_of_cells (xs := [1, 2, 3]) (Nat.lt_succ_self _) (get_pushed_new _ _)) (by decide) (by decide)).mono fun v w1 hv => ?_)
  obtain ⟨rfl, k1⟩ := hv
  have k1' := kp1.trans k1
  apply Run.by_eq
  · intro self
    conv => lhs; simp -implicitDefEqProofs (maxSteps := 300000) (disch := omega) [-getElem?_pos, -getElem?_neg, g9]
  try (with_reducible refine Run.ret ?_)
  apply zz
  have kp2 : Keep w1 (w1.pushed (.cells [.int .i64 2] none)) := (Keep.refl _).pushed _
  refine Run.call ((numbers_ev _ _ _ _ _ (hsv.keep (k1'.trans kp2)) (ints_of_cells (xs := [2]) (Nat.lt_succ_self _) (get_pushed_new _ _)) (by decide) (by decide)).mono fun v w2 hv => ?_)
  obtain ⟨rfl, k2⟩ := hv
  have k2' := (k1'.trans kp2).trans k2
  apply Run.by_eq
  · intro self
    conv => lhs; simp -implicitDefEqProofs (maxSteps := 300000) (disch := omega) [-getElem?_pos, -getElem?_neg, g10]
  try (with_reducible refine Run.ret ?_)
  apply zz
  have kp3 : Keep w2 (w2.pushed (.cells [.int .i64 1, .int .i64 2, .int .i64 3] none)) := (Keep.refl _).pushed _
  refine Run.call ((numbers_ev _ _ _ _ _ (hmv.keep (k2'.trans kp3)) (ints_of_cells (xs := [1, 2, 3]) (Nat.lt_succ_self _) (get_pushed_new _ _)) (by decide) (by decide)).mono fun v w3 hv => ?_)
  obtain ⟨rfl, k3⟩ := hv
  apply Run.by_eq
  · intro self
    conv => lhs; simp -implicitDefEqProofs (maxSteps := 300000) (disch := omega) [-getElem?_pos, -getElem?_neg]
  try (with_reducible refine Run.ret ?_)
  apply zz
  apply Leave.mk (by first | exact .inl rfl | exact .inr rfl) (by simp only [Fr.marks_put, fr0_marks, hmk])
  · conv => lhs; simp -implicitDefEqProofs (disch := omega) [Try.results13, hmk]
  exact ⟨rfl, hk.trans ((k2'.trans kp3).trans k3)⟩
end Go.Proofs.Ytnhokodcmeekhaa
namespace Go.Proofs.Ytnhokodcmeekhaa
open Go Kern
/-! The law of fields -/
theorem fl_bd {x : Frac} (h0 : 0 ≤ x.o) (h : Mid 3600000 30 x) : In62 (flF x) := by
  unfold Mid at h
  have h1 : 0 ≤ x.o / x.u := Int.ediv_nonneg h0 (by omega)
  have h2 : x.o / x.u ≤ x.o := Int.ediv_le_self _ h0
  unfold In62 flF; omega
theorem ce_bd {x : Frac} (h0 : 0 ≤ x.o) (h : Mid 3600000 30 x) : In62 (ceF x) := by
  unfold Mid at h
  rw [← ce_up h.2.1]
  have h1 : 0 ≤ (x.o + x.u - 1) / x.u := Int.ediv_nonneg (by omega) (by omega)
  have h2 : (x.o + x.u - 1) / x.u ≤ x.o + x.u - 1 := Int.ediv_le_self _ (by omega)
  unfold In62; omega
def knownL (m : Nat) (lo hi : Int) (ss : List SampD) : List (Int × Int) := (List.range m).map fun w => (flF (lowF m (bndN m lo hi ss).1 w), ceF (upF m (bndN m lo hi ss).1 (bndN m lo hi ss).2 w))
theorem knownL_rows (m : Nat) (lo hi : Int) (ss : List SampD) : (List.range m).map (knownRow m lo hi ss) = (knownL m lo hi ss).map spP := by
  unfold knownL; rw [List.map_map]; rfl
/-- What both answers of Known have in common. -/
theorem KnownA.both {n lo hi : Int} {ss : List SampD} {w w' : Value} {e e' : Int} {s s' : St} (h : KnownA n lo hi ss w e s) (h' : KnownA n lo hi ss w' e' s') : e' = e ∧ ∃ l, SpAt s w l ∧ SpAt s' w' l ∧ SmallP l ∧ l.length ≤ 1000 := by
  rcases h with ⟨h1, rfl, rfl⟩ | ⟨h1, rfl, rfl, h4⟩ | ⟨h1, rfl, h3, h4⟩
  · rcases h' with ⟨_, rfl, rfl⟩ | ⟨k1, _⟩ | ⟨k1, _⟩
    · exact ⟨rfl, [], .nil 0, .nil 0, (fun x hx => by cases hx), by simp⟩
    · exact absurd k1 h1
    · exact absurd k1 h1
  · rcases h' with ⟨k1, _⟩ | ⟨_, rfl, rfl, _⟩ | ⟨_, _, _, k4⟩
    · exact absurd h1 k1
    · exact ⟨rfl, [], .nil 0, .nil 0, (fun x hx => by cases hx), by simp⟩
    · obtain ⟨i, j, k, hi, hj, hk, h⟩ := h4
      rw [k4 i j k hi hj hk] at h; cases h
  · rcases h' with ⟨k1, _⟩ | ⟨_, _, _, i, j, k, hi, hj, hk, h⟩ | ⟨_, rfl, k3, _⟩
    · exact absurd h1 k1
    · rw [h4 i j k hi hj hk] at h; cases h
    · rw [knownL_rows] at h3 k3
      have hok := (fieldErr_ok h1).1
      obtain ⟨m, rfl⟩ : ∃ m : Nat, n = m := ⟨n.toNat, by omega⟩
      simp only [Int.toNat_natCast] at h3 k3 h4
      refine ⟨rfl, knownL m lo hi ss, h3, k3, fun x hx => ?_, by simp [knownL]; omega⟩
      obtain ⟨w, hw, rfl⟩ := List.mem_map.1 hx
      obtain ⟨⟨v1, v2⟩, v3, v4⟩ := vals_ok h1 h4 (w := w) (by simpa using hw)
      exact ⟨fl_bd v1 v2, ce_bd v3 v4⟩
end Go.Proofs.Ytnhokodcmeekhaa
namespace Go.Proofs.Ytnhokodcmeekhaa
open Go Kern
/-! The law of peaks -/
theorem Ans.both {n lo hi : Int} {ss : List SampD} {e e' : Int} {bad good bad' good' : Prop} (h : Ans n lo hi ss e bad good) (h' : Ans n lo hi ss e' bad' good') : e' = e ∧ ((bad ∧ bad') ∨ (good ∧ good')) := by
  rcases h with ⟨h1, rfl, h3⟩ | ⟨h1, rfl, h3, h4⟩ | ⟨h1, rfl, h3, h4⟩
  · rcases h' with ⟨_, rfl, k3⟩ | ⟨k1, _⟩ | ⟨k1, _⟩
    · exact ⟨rfl, .inl ⟨h3, k3⟩⟩
    · exact absurd k1 h1
    · exact absurd k1 h1
  · rcases h' with ⟨k1, _⟩ | ⟨_, rfl, k3, _⟩ | ⟨_, _, _, k4⟩
    · exact absurd h1 k1
    · exact ⟨rfl, .inl ⟨h3, k3⟩⟩
    · obtain ⟨i, j, k, hi, hj, hk, h⟩ := h4
      rw [k4 i j k hi hj hk] at h; cases h
  · rcases h' with ⟨k1, _⟩ | ⟨_, _, _, i, j, k, hi, hj, hk, h⟩ | ⟨_, rfl, k3, _⟩
    · exact absurd h1 k1
    · rw [h4 i j k hi hj hk] at h; cases h
    · exact ⟨rfl, .inr ⟨h3, k3⟩⟩
end Go.Proofs.Ytnhokodcmeekhaa
namespace Go.Proofs.Ytnhokodcmeekhaa
open Go Kern
/-! Crops by numbers -/
structure CropD where
  weeks : Int
  first : Int
  step : Int
  falls : List Int
  r0 : Int
  r1 : Int
  samples : List (Int × Int × Int)
def Byte (x : Int) : Prop := 0 ≤ x ∧ x ≤ 255
structure CropD.Ok (c : CropD) : Prop where
  weeks : Byte c.weeks
  first : Byte c.first
  step : Byte c.step
  falls : ∀ x ∈ c.falls, Byte x
  r0 : Byte c.r0
  r1 : Byte c.r1
  samples : ∀ x ∈ c.samples, Byte x.1 ∧ Byte x.2.1 ∧ Byte x.2.2
def u8C (x : Int) : List Value := [.int .u8 x]
def u8T (x : Int × Int × Int) : List Value := [.int .u8 x.1, .int .u8 x.2.1, .int .u8 x.2.2]
def cropV (c : CropD) (fv sv : Value) : Value := .agg #[.int .u8 c.weeks, .int .u8 c.first, .int .u8 c.step, fv, .int .u8 c.r0, .int .u8 c.r1, sv]
namespace CropD
def n (c : CropD) : Nat := 1 + (c.weeks % 12).toNat
def fall (c : CropD) (k : Nat) : Int := if k < c.falls.length then c.falls.getD k 0 / 2 else 0
def stp (c : CropD) : Nat → Int
  | 0 => 2 * c.step
  | k + 1 => c.stp k - c.fall k
def sweet (c : CropD) : Nat → Int
  | 0 => 8000 + 20 * c.first
  | k + 1 => c.sweet k + c.stp k
def lst (c : CropD) (k : Nat) : Int := ((List.range k).map c.sweet).foldl min (c.sweet 0)
def mst (c : CropD) (k : Nat) : Int := ((List.range k).map c.sweet).foldl max (c.sweet 0)
def lo (c : CropD) : Int := max 0 (c.lst c.n - 10 * c.r0)
def hi (c : CropD) : Int := c.mst c.n + 10 * c.r1
/-- What a sample of the numbers is. -/
def samp (c : CropD) (x : Int × Int × Int) : SampD := ⟨x.1 % c.n, max 0 (c.sweet (x.1 % c.n).toNat - x.2.1 + x.2.2 % (2 * x.2.1 + 1)), x.2.1⟩
def ss (c : CropD) : List SampD := (c.samples.take 15).map c.samp
end CropD
theorem n_bd (c : CropD) : 1 ≤ c.n ∧ c.n ≤ 12 := by unfold CropD.n; omega
theorem fall_bd {c : CropD} (h : c.Ok) (k : Nat) : 0 ≤ c.fall k ∧ c.fall k ≤ 127 := by
  unfold CropD.fall
  split
  · rename_i hk
    have := h.falls (c.falls.getD k 0) (by
      rw [List.getD_eq_getElem?_getD, List.getElem?_eq_getElem hk]; simp)
    unfold Byte at this; omega
  · omega
theorem stp_bd {c : CropD} (h : c.Ok) : ∀ k : Nat, -(127 * (k : Int)) ≤ c.stp k ∧ c.stp k ≤ 510
  | 0 => by have := h.step; unfold Byte at this; unfold CropD.stp; omega
  | k + 1 => by
    have h1 := stp_bd h k
    have h2 := fall_bd h k
    unfold CropD.stp; omega
theorem sweet_bd {c : CropD} (h : c.Ok) : ∀ k : Nat, k ≤ 12 → 16000 - 127 * ((k : Int) * ((k : Int) - 1)) ≤ 2 * c.sweet k ∧ c.sweet k ≤ 13100 + 510 * (k : Int)
  | 0, _ => by have := h.first; unfold Byte at this; unfold CropD.sweet; omega
  | k + 1, hk => by
    have h1 := sweet_bd h k (by omega)
    have h2 := stp_bd h k
    unfold CropD.sweet
    have e : ((k + 1 : Nat) : Int) * (((k + 1 : Nat) : Int) - 1) = (k : Int) * ((k : Int) - 1) + 2 * k := by grind
    rw [e]
    omega
theorem sweet_nn {c : CropD} (h : c.Ok) {k : Nat} (hk : k < 12) : 1000 ≤ c.sweet k ∧ c.sweet k ≤ 18710 := by
  have h1 := sweet_bd h k (by omega)
  have h2 : (k : Int) * ((k : Int) - 1) ≤ 110 := by
    have : (k : Int) * ((k : Int) - 1) ≤ 11 * ((k : Int) - 1) ∨ k = 0 := by
      by_cases h0 : k = 0
      · exact .inr h0
      · exact .inl (Int.mul_le_mul_of_nonneg_right (by omega) (by omega))
    rcases this with h | rfl
    · omega
    · simp
  omega
theorem foldmin_le : ∀ (l : List Int) (a : Int), l.foldl min a ≤ a ∧ ∀ x ∈ l, l.foldl min a ≤ x
  | [], a => ⟨Int.le_refl _, fun x h => by cases h⟩
  | y :: r, a => by
    obtain ⟨h1, h2⟩ := foldmin_le r (min a y)
    refine ⟨by rw [List.foldl_cons]; omega, fun x hx => ?_⟩
    rw [List.foldl_cons]
    cases hx with
    | head => omega
    | tail _ hx => exact h2 x hx
theorem foldmax_ge : ∀ (l : List Int) (a : Int), a ≤ l.foldl max a ∧ ∀ x ∈ l, x ≤ l.foldl max a
  | [], a => ⟨Int.le_refl _, fun x h => by cases h⟩
  | y :: r, a => by
    obtain ⟨h1, h2⟩ := foldmax_ge r (max a y)
    refine ⟨by rw [List.foldl_cons]; omega, fun x hx => ?_⟩
    rw [List.foldl_cons]
    cases hx with
    | head => omega
    | tail _ hx => exact h2 x hx
theorem foldmm_mem (f : Int → Int → Int) (hf : ∀ a b, f a b = a ∨ f a b = b) : ∀ (l : List Int) (a : Int), l.foldl f a = a ∨ l.foldl f a ∈ l
  | [], a => .inl rfl
  | y :: r, a => by
    rw [List.foldl_cons]
    rcases foldmm_mem f hf r (f a y) with h | h
    · rw [h]
      rcases hf a y with h | h
      · rw [h]; exact .inl rfl
      · rw [h]; exact .inr (.head _)
    · exact .inr (.tail _ h)
theorem lst_mst {c : CropD} (h : c.Ok) {k : Nat} (hk : k ≤ 12) : (1000 ≤ c.lst k ∧ c.lst k ≤ 18710) ∧ 1000 ≤ c.mst k ∧ c.mst k ≤ 18710 := by
  have key : ∀ x, x = c.sweet 0 ∨ x ∈ (List.range k).map c.sweet → 1000 ≤ x ∧ x ≤ 18710 := fun x hx => by
    rcases hx with rfl | hx
    · exact sweet_nn h (by omega)
    · obtain ⟨j, hj, rfl⟩ := List.mem_map.1 hx
      exact sweet_nn h (by have : j < k := by simpa using hj
                           omega)
  exact ⟨key _ (foldmm_mem min (fun a b => by omega) _ _), key _ (foldmm_mem max (fun a b => by omega) _ _)⟩
/-- The sweetness lies between both ends of the range. -/
theorem sweet_range {c : CropD} (h : c.Ok) {w : Nat} (hw : w < c.n) : c.lo ≤ c.sweet w ∧ c.sweet w ≤ c.hi := by
  have hn := n_bd c
  have hr0 := h.r0
  have hr1 := h.r1
  unfold Byte at hr0 hr1
  have hs := sweet_nn h (k := w) (by omega)
  have h1 := (foldmin_le ((List.range c.n).map c.sweet) (c.sweet 0)).2 (c.sweet w) (List.mem_map_of_mem (by simpa using hw))
  have h2 := (foldmax_ge ((List.range c.n).map c.sweet) (c.sweet 0)).2 (c.sweet w) (List.mem_map_of_mem (by simpa using hw))
  unfold CropD.lo CropD.hi CropD.lst CropD.mst
  omega
theorem samp_ok {c : CropD} (h : c.Ok) {x : Int × Int × Int} (hx : Byte x.1 ∧ Byte x.2.1 ∧ Byte x.2.2) : (0 ≤ (c.samp x).week ∧ (c.samp x).week < c.n) ∧ (0 ≤ (c.samp x).val ∧ (c.samp x).val ≤ 20000) ∧ (0 ≤ (c.samp x).off ∧ (c.samp x).off ≤ 255) ∧ (c.samp x).val - (c.samp x).off ≤ c.sweet (c.samp x).week.toNat ∧ c.sweet (c.samp x).week.toNat ≤ (c.samp x).val + (c.samp x).off := by
  obtain ⟨h1, h2, h3⟩ := hx
  unfold Byte at h1 h2 h3
  have hn := n_bd c
  have hm1 := Int.emod_nonneg x.1 (show (c.n : Int) ≠ 0 by omega)
  have hm2 := Int.emod_lt_of_pos x.1 (show (0 : Int) < c.n by omega)
  have hm3 := Int.emod_nonneg x.2.2 (show 2 * x.2.1 + 1 ≠ 0 by omega)
  have hm4 := Int.emod_lt_of_pos x.2.2 (show 0 < 2 * x.2.1 + 1 by omega)
  have hs := sweet_nn h (k := (x.1 % c.n).toNat) (by omega)
  unfold CropD.samp
  simp only []
  omega
theorem hi_bd {c : CropD} (h : c.Ok) : (0 ≤ c.lo ∧ c.lo ≤ c.hi) ∧ c.hi ≤ 30000 := by
  have hn := n_bd c
  have h1 := lst_mst h (k := c.n) (by omega)
  have hr0 := h.r0
  have hr1 := h.r1
  unfold Byte at hr0 hr1
  have h3 := sweet_range h (w := 0) (by omega)
  have h4 := sweet_nn h (k := 0) (by omega)
  unfold CropD.hi at h3 ⊢
  refine ⟨⟨?_, by omega⟩, by omega⟩
  unfold CropD.lo; omega
/-- A crop's field is valid. -/
theorem crop_valid {c : CropD} (h : c.Ok) (ss : List SampD) (hl : ss.length ≤ 100) (hss : ∀ x ∈ ss, (0 ≤ x.week ∧ x.week < c.n) ∧ (0 ≤ x.val ∧ x.val ≤ 30000) ∧ 0 ≤ x.off ∧ x.off ≤ 30000) : fieldErr c.n c.lo c.hi ss = 0 := by
  have hn := n_bd c
  obtain ⟨⟨h1, h2⟩, h3⟩ := hi_bd h
  have hf : ∀ x ∈ ss, sampErr c.n x = 0 := fun x hx => by
    obtain ⟨⟨a1, a2⟩, ⟨b1, b2⟩, c1, c2⟩ := hss x hx
    unfold sampErr weekB sweetB
    simp [a1, a2, b1, b2, c1, c2]
  unfold fieldErr
  rw [if_neg (by omega), if_neg (by simp [sweetB]; omega), if_neg (by omega)]
  exact firstS_zero fun j x hj => hf x (List.mem_of_getElem? hj)
end Go.Proofs.Ytnhokodcmeekhaa
namespace Go.Proofs.Ytnhokodcmeekhaa
open Go Kern
/-! Rows in a block that may not grow in place -/
theorem appV_fix {s : St} {size b b2 n : Nat} {old new : List Value} {g : Option Nat} (h1 : s.heap.get b = some (.cells old none)) (hb : s.heap.get b2 = some (.cells new g)) (hn : new.length = size) (ho : new.all oneV = true) (hl : old.length = n * size) (hm : n + 1 ≤ 1048576) :
    appV size (.slice (some ⟨b, 0, none⟩) n n) (.slice (some ⟨b2, 0, none⟩) 1 1) s = some (.slice (some ⟨s.next, 0, none⟩) (n + 1) (n + 1), s.pushed (.cells (old ++ new) (some size))) := by
  subst hn
  show ob (ob (ob (s.heap.get b2) cellsOf) fun c => ob (takeL (1 * new.length) (dropL 0 c.1)) fun l => gd (l.all oneV) (some l)) _ = _
  rw [hb]
  show ob (ob (takeL (1 * new.length) new) fun l => gd (l.all oneV) (some l)) _ = _
  rw [Nat.one_mul, takeL_all]
  show ob (gd (new.all oneV) (some new)) _ = _
  rw [ho]
  show gd (Nat.ble (n + 1) 1048576) (bt (Nat.ble (n + 1) n) _ (ob (ob (s.heap.get b) cellsOf) fun c => ob (takeL (n * new.length) (dropL 0 c.1)) fun old => ob (killF s new.length c.2 b) fun s =>
      exNew s (.cells (old ++ new) (some new.length)) fun i => .slice (some ⟨i, 0, none⟩) (n + 1) (n + 1))) = _
  have e1 : Nat.ble (n + 1) 1048576 = true := by simpa using hm
  have e2 : Nat.ble (n + 1) n = false := by
    cases h : Nat.ble (n + 1) n with
    | false => rfl
    | true => have := Nat.le_of_ble_eq_true h; omega
  rw [e1, e2, h1]
  show ob (takeL (n * new.length) old) (fun old => ob (some s) fun s => exNew s (.cells (old ++ new) (some new.length)) fun i => .slice (some ⟨i, 0, none⟩) (n + 1) (n + 1)) = _
  rw [← hl, takeL_all]; rfl
/-- Some rows, in a block of their own. -/
def OwnN (n N : Nat) (s : St) (w : Value) (l : List (List Value)) : Prop :=
  ∃ b g, w = .slice (some ⟨b, 0, none⟩) l.length l.length ∧ l ≠ [] ∧ N ≤ b ∧ b < s.next ∧ s.heap.get b = some (.cells l.flatten g) ∧ (g = none ∨ g = some n)
theorem OwnN.keep {n N : Nat} {s s' : St} {w : Value} {l : List (List Value)} (h : OwnN n N s w l) (h1 : s.next ≤ s'.next) (h2 : ∀ i, N ≤ i → i < s.next → s'.heap.get i = s.heap.get i) : OwnN n N s' w l := by
  obtain ⟨b, g, k1, k2, k3, k4, k5, k6⟩ := h
  exact ⟨b, g, k1, k2, k3, by omega, (h2 b k3 k4).trans k5, k6⟩
theorem OwnN.sl {n N : Nat} {s : St} {w : Value} {l : List (List Value)} (h : OwnN n N s w l) (hn : ∀ x ∈ l, x.length = n) : SlAt n s w l := by
  obtain ⟨b, g, rfl, k2, k3, k4, k5, k6⟩ := h
  exact sl_of_cells k4 hn k5
theorem app_n {n N b2 : Nat} {s : St} {w : Value} {l : List (List Value)} {x : List Value} {g : Option Nat} (hO : OwnN n N s w l) (hn : ∀ y ∈ l, y.length = n) (hx : x.length = n) (ho : onesL x = true) (hb2 : s.heap.get b2 = some (.cells x g)) (hN : N ≤ s.next) (hl : l.length ≤ 1000000) :
    ∃ s', appV n w (.slice (some ⟨b2, 0, none⟩) 1 1) s = some (.slice (some ⟨s.next, 0, none⟩) (l.length + 1) (l.length + 1), s') ∧ s'.next = s.next + 1 ∧ (∀ i, i < N → s'.heap.get i = s.heap.get i) ∧ OwnN n N s' (.slice (some ⟨s.next, 0, none⟩) (l.length + 1) (l.length + 1)) (l ++ [x]) := by
  obtain ⟨b, gg, rfl, hne, h1, h2, h3, h4⟩ := hO
  rcases h4 with rfl | rfl
  · refine ⟨_, appV_fix h3 hb2 hx (by rw [onesL_eq]; exact ho) (flatlen hn) (by omega), rfl, fun i hi => get_pushed_old _ _ _ (by omega), s.next, some n, by simp, by simp, hN, Nat.lt_succ_self _, ?_, .inr rfl⟩
    rw [get_pushed_new]; simp
  · refine ⟨_, appV_more h3 hb2 hx (by rw [onesL_eq]; exact ho) (flatlen hn) (by omega), rfl, fun i hi => ?_, s.next, some n, by simp, by simp, hN, Nat.lt_succ_self _, ?_, .inr rfl⟩
    · rw [get_pushed_old _ _ _ (by show i ≠ s.next; omega), get_upded_other _ _ _ _ (by omega)]
    · show ((s.upded b .dead).pushed _).heap.get (s.upded b .dead).next = _
      rw [get_pushed_new]; simp
theorem iC_flat : ∀ (l : List Int), (iC l).flatten = l.map (Value.int .i64)
  | [] => rfl
  | x :: r => by
    show [Value.int .i64 x] ++ (iC r).flatten = Value.int .i64 x :: r.map (Value.int .i64)
    rw [iC_flat r]; rfl
theorem swL_get {c : CropD} {k j : Nat} (h : j < k) : ((iC ((List.range k).map c.sweet)).flatten)[j]? = some (.int .i64 (c.sweet j)) := by
  rw [iC_flat, List.getElem?_map, List.getElem?_map, List.getElem?_range h]; rfl
@[simp] theorem conv_5_3 {self : Self} {f : Fr} {s : St} {x : Operand} : actO TT self (.convert 5 3 x) f s = pureR (vConv .i64 x f.eval s.heap) s := o_convert_3 (by rw [und_5]; rfl)
theorem OwnG.less {n N M : Nat} {s : St} {w : Value} {l : List (List Value)} (h : OwnG n N s w l) (hM : M ≤ N) : OwnG n M s w l := by
  rcases h with h | ⟨b, h1, h2, h3, h4⟩
  · exact .inl h
  · exact .inr ⟨b, h1, h2, by omega, h4⟩
theorem OwnG.b {n N : Nat} {s : St} {w : Value} {l : List (List Value)} (h : OwnG n N s w l) : ∃ b, OwnB n N s w l b := by
  rcases h with h | ⟨b, h⟩
  · exact ⟨none, .inl ⟨rfl, h⟩⟩
  · exact ⟨some b, .inr ⟨b, rfl, h⟩⟩
@[simp] theorem newObj_a82 {f : Fr} : Kern.newObj TT (.alloc 82) f = some (.cells [.int .i64 0, .int .i64 0, .int .i64 0] none) := newObj_alloc 82 zero_82
set_option maxRecDepth 100000 in
set_option maxHeartbeats 4000000 in
theorem made_ev (c : CropD) (hc : c.Ok) (fv sv : Value) (s : St) (hf : SlAt 1 s fv (c.falls.map u8C)) (hs : SlAt 3 s sv (c.samples.map u8T)) :
    Ev TT 33 [cropV c fv sv] s fun r s' => Keep s s' ∧ ∃ q sw, r = .tuple #[fieldV c.n c.lo c.hi q, sw] ∧ OwnG 3 s.next s' q (c.ss.map SampD.cs) ∧ IntsAt s' sw ((List.range c.n).map c.sweet) := by
  obtain ⟨af, cf, rfl⟩ := hf.shape
  obtain ⟨az, cs', rfl⟩ := hs.shape
  rw [List.length_map] at hf hs ⊢
  rw [List.length_map]
  have hn := n_bd c
  have hnW : c.weeks % 12 = (c.n : Int) - 1 := by unfold CropD.n; omega
  have h_w := hc.weeks
  have h_f := hc.first
  have h_s := hc.step
  unfold Byte at h_w h_f h_s
  have hrem := intOp_rem .i64 c.weeks 12 h_w.1 (by omega)
  rw [hnW] at hrem
  have hn1 : (1 : Int) + ((c.n : Int) - 1) = c.n := by omega
  have hs0 : 8000 + 20 * c.first = c.sweet 0 := rfl
  have ht0 : 2 * c.step = c.stp 0 := rfl
  have hswb := fun k (hk : k < 12) => sweet_nn hc hk
  have hstb := fun k => stp_bd hc k
  unfold cropV
  refine Ev.intro (fn := Try.f33) rfl (by kernel_rfl) rfl rfl ?_
  apply zz
  refine Cd.ra (h := ?_)
  apply Run.by_eq
  · intro self
    conv => lhs; simp -implicitDefEqProofs (maxSteps := 300000) (disch := omega) [-getElem?_pos, -getElem?_neg]
  try (with_reducible refine Run.ret ?_)
  apply zz
  refine Cd.ra (h := ?_)
  apply Run.by_eq
  · intro self
    conv => lhs; simp -implicitDefEqProofs (maxSteps := 300000) (disch := omega) [-getElem?_pos, -getElem?_neg, hrem, hn1]
  try (with_reducible refine Run.ret ?_)
  apply zz
  refine Cd.ra (h := ?_)
  apply Run.by_eq
  · intro self
    conv => lhs; simp -implicitDefEqProofs (maxSteps := 300000) (disch := omega) [-getElem?_pos, -getElem?_neg, hs0]
  try (with_reducible refine Run.ret ?_)
  apply zz
  refine Cd.ra (h := ?_)
  apply Run.by_eq
  · intro self
    conv => lhs; simp -implicitDefEqProofs (maxSteps := 300000) (disch := omega) [-getElem?_pos, -getElem?_neg, ht0]
  try (with_reducible refine Run.ret ?_)
  apply zz
  refine Cd.ra (h := ?_)
  apply Run.by_eq
  · intro self
    conv => lhs; simp -implicitDefEqProofs (maxSteps := 300000) (disch := omega) [-getElem?_pos, -getElem?_neg]
  try (with_reducible refine Run.ret ?_)
  apply zz
  have hS0 := hswb 0 (by omega)
  refine Cd.mono (Q := fun x f2 s2 => x = Ex.exit 0 ∧ f2.marks = [] ∧ f2.get 1 = .pointer (some ⟨s.next, 0, none⟩) ∧ f2.get 2 = .pointer (some ⟨s.next + 1, 0, none⟩) ∧ f2.get 4 = .int .i64 c.n ∧ Keep s s2 ∧ s.next + 1 + 1 ≤ s2.next ∧ s2.heap.get s.next = some (.cells [.int .u8 c.weeks, .int .u8 c.first, .int .u8 c.step, .slice af c.falls.length cf, .int .u8 c.r0, .int .u8 c.r1, .slice az c.samples.length cs'] none) ∧ s2.heap.get (s.next + 1) = some (.cells [.int .i64 0, .int .i64 0, .int .i64 0, .slice none 0 0] none) ∧ OwnN 1 (s.next + 1 + 1) s2 (f2.get 5) (iC ((List.range c.n).map c.sweet))) (Cd.inv (fun z f2 s2 => ∃ k : Nat, k + 1 ≤ c.n ∧ z = c.n - (k + 1) ∧ f2.marks = [] ∧ f2.get 1 = .pointer (some ⟨s.next, 0, none⟩) ∧ f2.get 2 = .pointer (some ⟨s.next + 1, 0, none⟩) ∧ f2.get 4 = .int .i64 c.n ∧ f2.get 6 = .int .i64 (c.stp k) ∧ f2.get 7 = .int .i64 (k + 1 : Nat) ∧ Keep s s2 ∧ s.next + 1 + 1 ≤ s2.next ∧ s2.heap.get s.next = some (.cells [.int .u8 c.weeks, .int .u8 c.first, .int .u8 c.step, .slice af c.falls.length cf, .int .u8 c.r0, .int .u8 c.r1, .slice az c.samples.length cs'] none) ∧ s2.heap.get (s.next + 1) = some (.cells [.int .i64 0, .int .i64 0, .int .i64 0, .slice none 0 0] none) ∧ OwnN 1 (s.next + 1 + 1) s2 (f2.get 5) (iC ((List.range (k + 1)).map c.sweet))) (c.n - 1) ?_ ?_) ?_
  · refine ⟨0, by omega, rfl, by simp, by simp, by simp, by simp, by simp, by simp, ⟨by (try simp only [pushed_next', upded_next']); omega, fun i hi => by simp -implicitDefEqProofs (disch := omega) []⟩, by simp, by simp -implicitDefEqProofs (disch := omega), by simp -implicitDefEqProofs (disch := omega), s.next + 1 + 1, none, by simp, by simp, by omega, by simp, ?_, .inl rfl⟩
    show _ = some (AObj.cells [.int .i64 (c.sweet 0)] none)
    simp -implicitDefEqProofs (disch := omega)
  · rintro z f s1 ⟨k, hk, rfl, hm, g1, g2, g4, g6, g7, hkp, hnx, hg0, hg1, hO⟩
    have hkpa := hkp.1
    have hkpb := hkp.2
    have hk1 : ((k + 1 : Nat) : Int) - 1 = (k : Int) := by omega
    have hSk := hswb k (by omega)
    have hTk := hstb k
    by_cases hlt : k + 1 < c.n
    · have hSk1 := hswb (k + 1) (by omega)
      have hTk1 := hstb (k + 1)
      have hadd : c.sweet k + c.stp k = c.sweet (k + 1) := rfl
      have hsub : c.stp k - c.fall k = c.stp (k + 1) := rfl
      have hrows := iC_len ((List.range (k + 1)).map c.sweet)
      have hrl : (iC ((List.range (k + 1)).map c.sweet)).length = k + 1 := by simp
      have hrn : iC ((List.range (k + 1 + 1)).map c.sweet) = iC ((List.range (k + 1)).map c.sweet) ++ [[.int .i64 (c.sweet (k + 1))]] := by rw [List.range_succ, List.map_append]; exact iC_snoc _ _
      have hget := swL_get (c := c) (k := k + 1) (j := k) (by omega)
      obtain ⟨b, g, e5, _, hb1, hb2, hb3, hb4⟩ := id hO
      rw [hrl] at e5
      have kx2 : Keep s1 (s1.pushed (.cells [.int .i64 (c.sweet (k + 1))] none)) := (Keep.refl _).pushed _
      obtain ⟨s4, happ, hn4, hk4, hO4⟩ := app_n (n := 1) (b2 := s1.next) (x := [.int .i64 (c.sweet (k + 1))]) (g := none) (hO.keep (by simp) fun i h1 h2 => kx2.2 i h2) hrows rfl rfl (get_pushed_new _ _) (by simp only [pushed_next']; omega) (by omega)
      rw [e5] at happ
      simp only [pushed_next', hrl] at happ hn4 hO4
      generalize hrw : (iC ((List.range (k + 1)).map c.sweet)).flatten = cells at hb3 hget
      generalize hK : k + 1 = k1 at *
      have hlt' : (k1 : Int) < c.n := by omega
      have hkk : k < k1 := by omega
      apply zz
      refine Cd.ra (h := ?_)
      apply Run.by_eq
      · intro self
        conv => lhs; simp -implicitDefEqProofs (maxSteps := 300000) (disch := omega) [-getElem?_pos, -getElem?_neg, g7, g4, hlt']
      try (with_reducible refine Run.ret ?_)
      apply zz
      apply Cd.ite rfl
      · conv => lhs; simp -implicitDefEqProofs (maxSteps := 300000) (disch := omega) [-getElem?_pos, -getElem?_neg]
      all_goals intro c0
      all_goals try (cases c0; done)
      all_goals try simp only [Bool.not_eq_true', Bool.not_eq_false', decide_eq_true_eq, decide_eq_false_iff_not] at c0
      all_goals apply zz
      apply zz
      refine Cd.ra (h := ?_)
      apply Run.by_eq
      · intro self
        conv => lhs; simp -implicitDefEqProofs (maxSteps := 300000) (disch := omega) [-getElem?_pos, -getElem?_neg, e5, g6, g7, hk1, hkk, hb3, hget, hadd, happ]
      try (with_reducible refine Run.ret ?_)
      apply zz
      have q0 : s4.heap.get s.next = _ := (hk4 _ (by omega)).trans ((kx2.2 _ (by omega)).trans hg0)
      have q1 : s4.heap.get (s.next + 1) = _ := (hk4 _ (by omega)).trans ((kx2.2 _ (by omega)).trans hg1)
      have kq : Keep s s4 := ⟨by omega, fun i hi => (hk4 i (by omega)).trans ((kx2.2 i (by omega)).trans (hkpb i hi))⟩
      by_cases hfl : k1 ≤ c.falls.length
      · have hfl' : (k1 : Int) ≤ c.falls.length := by omega
        obtain ⟨y, hy⟩ : ∃ y, c.falls[k]? = some y := ⟨c.falls[k]'(by omega), by simp⟩
        have hyb := hc.falls y (List.mem_of_getElem? hy)
        unfold Byte at hyb
        have hfe : c.fall k = y / 2 := by
          unfold CropD.fall
          rw [if_pos (by omega), List.getD_eq_getElem?_getD, hy]; rfl
        obtain ⟨fb, foff, fo, fcs, fg, rfl, qb, qo, qc, qt⟩ := SlAt.at (hf.keep kq) (k := k) (e := u8C y) (by rw [List.getElem?_map, hy]; rfl)
        have qt1 : fcs[foff + k]? = some (.int .u8 y) := by
          have := takeL_one qt
          rw [List.getElem?_drop, Nat.mul_one] at this; exact this
        have hquo := intOp_quo .i64 y 2 hyb.1 (by omega)
        have hwr : wrapF .i64 (y / 2) = y / 2 := by simp -implicitDefEqProofs (disch := omega)
        rw [hwr, ← hfe] at hquo
        have hkf : k < c.falls.length := by omega
        have hfb := fall_bd hc k
        generalize c.fall k = FK at *
        apply zz
        refine Cd.ra (h := ?_)
        apply Run.by_eq
        · intro self
          conv => lhs; simp -implicitDefEqProofs (maxSteps := 300000) (disch := omega) [-getElem?_pos, -getElem?_neg, g7, g1, q0, hfl']
        try (with_reducible refine Run.ret ?_)
        apply zz
        apply Cd.ite rfl
        · conv => lhs; simp -implicitDefEqProofs (maxSteps := 300000) (disch := omega) [-getElem?_pos, -getElem?_neg]
        all_goals intro c1
        all_goals try (cases c1; done)
        all_goals try simp only [Bool.not_eq_true', Bool.not_eq_false', decide_eq_true_eq, decide_eq_false_iff_not] at c1
        all_goals apply zz
        apply zz
        refine Cd.ra (h := ?_)
        apply Run.by_eq
        · intro self
          conv => lhs; simp -implicitDefEqProofs (maxSteps := 300000) (disch := omega) [-getElem?_pos, -getElem?_neg, g6, g7, g1, q0, hk1, hkf, qo, qc, qt1, hquo, hsub]
        try (with_reducible refine Run.ret ?_)
        apply zz
        refine Cd.ra (h := ?_)
        apply Run.by_eq
        · intro self
          conv => lhs; simp -implicitDefEqProofs (maxSteps := 300000) (disch := omega) [-getElem?_pos, -getElem?_neg, g7]
        try (with_reducible refine Run.ret ?_)
        apply zz
        refine LoopK.nm (c.n - (k1 + 1)) (by omega) ⟨k1, by omega, rfl, by simp [hm], by simp [g1], by simp [g2], by simp [g4], by simp, by simp, kq, by omega, q0, q1, ?_⟩
        rw [hrn]; simpa using hO4
      · have hfl' : ¬ (k1 : Int) ≤ c.falls.length := by omega
        have hf0 : c.fall k = 0 := by unfold CropD.fall; rw [if_neg (by omega)]
        have hst : c.stp k1 = c.stp k := by rw [← hsub, hf0]; omega
        apply zz
        refine Cd.ra (h := ?_)
        apply Run.by_eq
        · intro self
          conv => lhs; simp -implicitDefEqProofs (maxSteps := 300000) (disch := omega) [-getElem?_pos, -getElem?_neg, g7, g1, q0, hfl']
        try (with_reducible refine Run.ret ?_)
        apply zz
        apply Cd.ite rfl
        · conv => lhs; simp -implicitDefEqProofs (maxSteps := 300000) (disch := omega) [-getElem?_pos, -getElem?_neg]
        all_goals intro c1
        all_goals try (cases c1; done)
        all_goals try simp only [Bool.not_eq_true', Bool.not_eq_false', decide_eq_true_eq, decide_eq_false_iff_not] at c1
        all_goals apply zz
        apply zz
        refine Cd.ra (h := ?_)
        apply Run.by_eq
        · intro self
          conv => lhs; simp -implicitDefEqProofs (maxSteps := 300000) (disch := omega) [-getElem?_pos, -getElem?_neg, g7]
        try (with_reducible refine Run.ret ?_)
        apply zz
        refine LoopK.nm (c.n - (k1 + 1)) (by omega) ⟨k1, by omega, rfl, by simp [hm], by simp [g1], by simp [g2], by simp [g4], by simp [g6, hst], by simp, kq, by omega, q0, q1, ?_⟩
        rw [hrn]; simpa using hO4
    · have hkn : c.n = k + 1 := by omega
      have hlt' : ¬ ((k + 1 : Nat) : Int) < c.n := by omega
      generalize hK : k + 1 = k1 at *
      apply zz
      refine Cd.ra (h := ?_)
      apply Run.by_eq
      · intro self
        conv => lhs; simp -implicitDefEqProofs (maxSteps := 300000) (disch := omega) [-getElem?_pos, -getElem?_neg, g7, g4, hlt']
      try (with_reducible refine Run.ret ?_)
      apply zz
      apply Cd.ite rfl
      · conv => lhs; simp -implicitDefEqProofs (maxSteps := 300000) (disch := omega) [-getElem?_pos, -getElem?_neg]
      all_goals intro c0
      all_goals try (cases c0; done)
      all_goals try simp only [Bool.not_eq_true', Bool.not_eq_false', decide_eq_true_eq, decide_eq_false_iff_not] at c0
      all_goals apply zz
      exact ⟨rfl, by simp [hm], by simp [g1], by simp [g2], by simp [g4], hkp, hnx, hg0, hg1, by rw [hkn]; simpa using hO⟩
  rintro x f s1 ⟨rfl, hm, g1, g2, g4, hkp, hnx, hg0, hg1, hO⟩
  apply zz
  have hsw : IntsAt s1 (f.get 5) ((List.range c.n).map c.sweet) := hO.sl (iC_len _)
  have hlenS : ((List.range c.n).map c.sweet).length = c.n := by simp
  obtain ⟨sb, gS, e5, hne5, hsb1, hsb2, hsb3, hsb4⟩ := id hO
  have e5' : f.get 5 = .slice (some ⟨sb, 0, none⟩) c.n c.n := by rw [e5]; simp
  have hO' : OwnN 1 (s.next + 1 + 1) s1 (.slice (some ⟨sb, 0, none⟩) c.n c.n) (iC ((List.range c.n).map c.sweet)) := e5' ▸ hO
  clear e5 hne5
  have hgetS := fun j (h : j < c.n) => swL_get (c := c) (k := c.n) h
  have hget0 : (iC ((List.range c.n).map c.sweet)).flatten[0]? = some (.int .i64 (c.sweet 0)) := hgetS 0 (by omega)
  have hcn0 : 0 < c.n := by omega
  generalize (iC ((List.range c.n).map c.sweet)).flatten = cells at *
  have ve5 : veq 5 (Value.slice (some ⟨sb, 0, none⟩) c.n c.n) (Value.slice (some ⟨sb, 0, none⟩) c.n c.n) = true := veq_slice _ _ _ _ _
  apply zz
  refine Cd.drawn (pl := [(0, 0, false, false), (1, 1, false, false), (2, 3, false, false), (3, 0, false, false), (4, 8, false, false), (5, 24, false, false), (6, 7, false, false), (7, 127, false, false)]) (by kernel_rfl) (by conv => lhs; simp only [List.map_cons, List.map_nil]) (by conv => lhs; simp [strip, ordered]) ?_
  apply Run.by_eq
  · intro self
    conv => lhs; simp -implicitDefEqProofs (maxSteps := 300000) (disch := omega) [filter_bt, -getElem?_pos, -getElem?_neg, e5', hsb3, hget0, hcn0, ve5]
  try (with_reducible refine Run.ret ?_)
  apply zz
  refine Cd.ra (h := ?_)
  apply Run.by_eq
  · intro self
    conv => lhs; simp -implicitDefEqProofs (maxSteps := 300000) (disch := omega) [-getElem?_pos, -getElem?_neg, e5']
  try (with_reducible refine Run.ret ?_)
  apply zz
  refine Cd.mono (Q := fun x f2 s2 => x = Ex.exit 2 ∧ f2.marks = [] ∧ f2.get 1 = .pointer (some ⟨s.next, 0, none⟩) ∧ f2.get 2 = .pointer (some ⟨s.next + 1, 0, none⟩) ∧ f2.get 4 = .int .i64 c.n ∧ f2.get 5 = .slice (some ⟨sb, 0, none⟩) c.n c.n ∧ f2.get 8 = .int .i64 (c.lst c.n) ∧ f2.get 9 = .int .i64 (c.mst c.n) ∧ s2 = s1) (Cd.inv (fun z f2 s2 => ∃ k : Nat, k ≤ c.n ∧ z = c.n - k ∧ f2.marks = [] ∧ f2.get 1 = .pointer (some ⟨s.next, 0, none⟩) ∧ f2.get 2 = .pointer (some ⟨s.next + 1, 0, none⟩) ∧ f2.get 4 = .int .i64 c.n ∧ f2.get 5 = .slice (some ⟨sb, 0, none⟩) c.n c.n ∧ f2.get 67 = .slice (some ⟨sb, 0, none⟩) c.n c.n ∧ f2.get 68 = .int .i64 c.n ∧ f2.get 69 = .int .i64 k ∧ f2.get 8 = .int .i64 (c.lst k) ∧ f2.get 9 = .int .i64 (c.mst k) ∧ s2 = s1) c.n ?_ ?_) ?_
  · exact ⟨0, by omega, rfl, by simp [hm], by simp [g1], by simp [g2], by simp [g4], by simp [e5'], by simp, by simp, by simp, by simp [CropD.lst], by simp [CropD.mst], rfl⟩
  · clear hm g1 g2 g4
    rintro z f2 s2 ⟨k, hk, rfl, hm, g1, g2, g4, g5, g67, g68, g69, g8, g9, rfl⟩
    by_cases hlt : k < c.n
    · have hlt' : (k : Int) < c.n := by omega
      have hgk := hgetS k hlt
      have hl1 : min (c.lst k) (c.sweet k) = c.lst (k + 1) := by unfold CropD.lst; rw [List.range_succ, List.map_append, List.foldl_append]; rfl
      have hm1 : max (c.mst k) (c.sweet k) = c.mst (k + 1) := by unfold CropD.mst; rw [List.range_succ, List.map_append, List.foldl_append]; rfl
      apply zz
      refine Cd.ra (h := ?_)
      apply Run.by_eq
      · intro self
        conv => lhs; simp -implicitDefEqProofs (maxSteps := 300000) (disch := omega) [-getElem?_pos, -getElem?_neg, g69, g68, hlt']
      try (with_reducible refine Run.ret ?_)
      apply zz
      apply Cd.ite rfl
      · conv => lhs; simp -implicitDefEqProofs (maxSteps := 300000) (disch := omega) [-getElem?_pos, -getElem?_neg]
      all_goals intro c0
      all_goals try (cases c0; done)
      all_goals try simp only [Bool.not_eq_true', Bool.not_eq_false', decide_eq_true_eq, decide_eq_false_iff_not] at c0
      all_goals apply zz
      apply zz
      refine Cd.ra (h := ?_)
      apply Run.by_eq
      · intro self
        conv => lhs; simp -implicitDefEqProofs (maxSteps := 300000) (disch := omega) [-getElem?_pos, -getElem?_neg, g67, g69, hlt, hsb3, hgk]
      try (with_reducible refine Run.ret ?_)
      apply zz
      refine Cd.ra (h := ?_)
      apply Run.by_eq
      · intro self
        conv => lhs; simp -implicitDefEqProofs (maxSteps := 300000) (disch := omega) [-getElem?_pos, -getElem?_neg, g8, g9, hl1, hm1]
      try (with_reducible refine Run.ret ?_)
      apply zz
      refine Cd.ra (h := ?_)
      apply Run.by_eq
      · intro self
        conv => lhs; simp -implicitDefEqProofs (maxSteps := 300000) (disch := omega) [-getElem?_pos, -getElem?_neg, g69]
      try (with_reducible refine Run.ret ?_)
      apply zz
      exact LoopK.nm (c.n - (k + 1)) (by omega) ⟨k + 1, by omega, rfl, by simp [hm], by simp [g1], by simp [g2], by simp [g4], by simp [g5], by simp [g67], by simp [g68], by simp, by simp, by simp, rfl⟩
    · obtain rfl : k = c.n := by omega
      apply zz
      refine Cd.ra (h := ?_)
      apply Run.by_eq
      · intro self
        conv => lhs; simp -implicitDefEqProofs (maxSteps := 300000) (disch := omega) [-getElem?_pos, -getElem?_neg, g69, g68]
      try (with_reducible refine Run.ret ?_)
      apply zz
      apply Cd.ite rfl
      · conv => lhs; simp -implicitDefEqProofs (maxSteps := 300000) (disch := omega) [-getElem?_pos, -getElem?_neg]
      all_goals intro c0
      all_goals try (cases c0; done)
      all_goals try simp only [Bool.not_eq_true', Bool.not_eq_false', decide_eq_true_eq, decide_eq_false_iff_not] at c0
      all_goals apply zz
      exact ⟨rfl, by simp [hm], by simp [g1], by simp [g2], by simp [g4], by simp [g5], by simp [g8], by simp [g9], rfl⟩
  clear hm g1 g2 g4 e5'
  rintro x f s2 ⟨rfl, hm, g1, g2, g4, g5, g8, g9, rfl⟩
  apply zz
  have h_r0 := hc.r0
  have h_r1 := hc.r1
  unfold Byte at h_r0 h_r1
  have hLM := lst_mst hc (k := c.n) (by omega)
  have hloE : max 0 (c.lst c.n - 10 * c.r0) = c.lo := rfl
  have hhiE : c.mst c.n + 10 * c.r1 = c.hi := rfl
  have hlob := hi_bd hc
  apply zz
  refine Cd.ra (h := ?_)
  apply Run.by_eq
  · intro self
    conv => lhs; simp -implicitDefEqProofs (maxSteps := 300000) (disch := omega) [-getElem?_pos, -getElem?_neg, g1, g4, g8, g9, hg0, hloE, hhiE]
  try (with_reducible refine Run.ret ?_)
  apply zz
  refine Run.call ((span_ev c.lo c.hi _).mono fun v wy hv => ?_)
  obtain ⟨rfl, y⟩ := hv
  have ya := y.1
  have yb := y.2
  try simp only [pushed_next', upded_next'] at ya yb
  have y0 := (yb _ (by omega)).trans hg0
  have y1 := (yb _ (by omega)).trans hg1
  apply Run.by_eq
  · intro self
    conv => lhs; simp -implicitDefEqProofs (maxSteps := 300000) (disch := omega) [-getElem?_pos, -getElem?_neg, y0, y1]
  try (with_reducible refine Run.ret ?_)
  apply zz
  refine Cd.ra (h := ?_)
  apply Run.by_eq
  · intro self
    conv => lhs; simp -implicitDefEqProofs (maxSteps := 300000) (disch := omega) [-getElem?_pos, -getElem?_neg]
  try (with_reducible refine Run.ret ?_)
  apply zz
  have hsl : c.ss.length ≤ 15 := by unfold CropD.ss; simp; omega
  have hssk : ∀ k x, k < 15 → c.samples[k]? = some x → (c.samples.take (k + 1)).map c.samp = (c.samples.take k).map c.samp ++ [c.samp x] := fun k x hk hx => by rw [List.take_add_one, hx, List.map_append]; rfl
  have y2 : wy.heap.get sb = some (.cells cells gS) := (yb _ (by omega)).trans hsb3
  refine Cd.inv (fun z f s' => ∃ (k : Nat) (qv : Value), k ≤ c.samples.length ∧ k ≤ 15 ∧ z = 15 - k ∧ f.marks = [] ∧ f.get 1 = .pointer (some ⟨s.next, 0, none⟩) ∧ f.get 2 = .pointer (some ⟨s.next + 1, 0, none⟩) ∧ f.get 4 = .int .i64 c.n ∧ f.get 5 = .slice (some ⟨sb, 0, none⟩) c.n c.n ∧ f.get 12 = .pointer (some ⟨wy.next, 0, none⟩) ∧ f.get 13 = .int .i64 k ∧ Keep wy s' ∧ wy.next + 1 ≤ s'.next ∧ s'.heap.get wy.next = some (.cells [.int .i64 c.n, .int .i64 c.lo, .int .i64 c.hi, qv] none) ∧ OwnG 3 (wy.next + 1) s' qv (((c.samples.take k).map c.samp).map SampD.cs)) 15 ?_ ?_
  · exact ⟨0, .slice none 0 0, by omega, by omega, rfl, by simp [hm], by simp [g1], by simp [g2], by simp [g4], by simp [g5], by simp, by simp, ⟨by (try simp only [pushed_next', upded_next']); omega, fun i hi => by simp -implicitDefEqProofs (disch := omega) []⟩, by simp, by simp -implicitDefEqProofs (disch := omega), .inl ⟨rfl, rfl⟩⟩
  clear hm g1 g2 g4 g5 g8 g9
  rintro z f s3 ⟨k, qv, hk1, hk2, rfl, hm, g1, g2, g4, g5, g12, g13, hkp3, hnx3, hgq, hQ⟩
  have k3a := hkp3.1
  have k3b := hkp3.2
  have z0 := (k3b _ (by omega)).trans y0
  have z1 := (k3b _ (by omega)).trans y1
  have z2 := (k3b _ (by omega)).trans y2
  have hk3s : Keep s s3 := ⟨by omega, fun i hi => by rw [k3b i (by omega), yb i (by omega)]; exact hkp.2 i hi⟩
  by_cases hlt : k < c.samples.length ∧ k < 15
  · obtain ⟨hlt1, hlt2⟩ := hlt
    have hlt1' : (k : Int) < c.samples.length := by omega
    have hlt2' : (k : Int) < 15 := by omega
    obtain ⟨x, hx⟩ : ∃ x, c.samples[k]? = some x := ⟨c.samples[k], by simp⟩
    have hxb := hc.samples x (List.mem_of_getElem? hx)
    obtain ⟨xb0, xo, xob, xcs, xg, rfl, qb, qo, qc, qt⟩ := SlAt.at (hs.keep hk3s) (k := k) (e := u8T x) (by rw [List.getElem?_map, hx]; rfl)
    have hrowS := hssk k x hlt2 hx
    have hsok := samp_ok hc hxb
    have hrows := samp_len ((c.samples.take k).map c.samp)
    have hrl : (((c.samples.take k).map c.samp).map SampD.cs).length = k := by simp; omega
    obtain ⟨hb1, hb2, hb3⟩ := hxb
    unfold Byte at hb1 hb2 hb3
    have hw1 := Int.emod_nonneg x.1 (show (c.n : Int) ≠ 0 by omega)
    have hw2 := Int.emod_lt_of_pos x.1 (show (0 : Int) < c.n by omega)
    obtain ⟨wk, hwk⟩ : ∃ wk : Nat, x.1 % c.n = wk := ⟨(x.1 % c.n).toNat, by omega⟩
    have hwkn : wk < c.n := by omega
    have hr1 := intOp_rem .i64 x.1 c.n hb1.1 (by omega)
    rw [hwk] at hr1
    have hr2 := intOp_rem .i64 x.2.2 (2 * x.2.1 + 1) hb3.1 (by omega)
    have hm3 := Int.emod_nonneg x.2.2 (show 2 * x.2.1 + 1 ≠ 0 by omega)
    have hm4 := Int.emod_lt_of_pos x.2.2 (show 0 < 2 * x.2.1 + 1 by omega)
    have hgw := hgetS wk hwkn
    have hswk := hswb wk (by omega)
    have hval : max 0 (c.sweet wk - x.2.1 + x.2.2 % (2 * x.2.1 + 1)) = (c.samp x).val := by
      unfold CropD.samp; simp only []; rw [hwk]; rfl
    have hSc : c.samp x = ⟨wk, (c.samp x).val, x.2.1⟩ := by unfold CropD.samp; simp only [hwk]
    have ht80 : u8T x = [.int .u8 x.1, .int .u8 x.2.1, .int .u8 x.2.2] := rfl
    rw [ht80] at qt
    have hvb := hsok.2.1
    rw [hSc] at hrowS
    generalize (c.samp x).val = VAL at *
    clear hsok hSc
    generalize hRM : x.2.2 % (2 * x.2.1 + 1) = RM at *
    obtain ⟨x0, x1, x2⟩ := x
    simp only [] at *
    apply zz
    refine Cd.ra (h := ?_)
    apply Run.by_eq
    · intro self
      conv => lhs; simp -implicitDefEqProofs (maxSteps := 300000) (disch := omega) [-getElem?_pos, -getElem?_neg, g13, g1, z0, hlt1', hlt2']
    try (with_reducible refine Run.ret ?_)
    apply zz
    apply Cd.ite rfl
    · conv => lhs; simp -implicitDefEqProofs (maxSteps := 300000) (disch := omega) [-getElem?_pos, -getElem?_neg]
    all_goals intro c0
    all_goals try (cases c0; done)
    all_goals try simp only [Bool.not_eq_true', Bool.not_eq_false', decide_eq_true_eq, decide_eq_false_iff_not] at c0
    all_goals apply zz
    apply zz
    refine Cd.ra (h := ?_)
    apply Run.by_eq
    · intro self
      conv => lhs; simp -implicitDefEqProofs (maxSteps := 300000) (disch := omega) [-getElem?_pos, -getElem?_neg, g1, g13, z0, hlt1, qo, qc, qt]
    try (with_reducible refine Run.ret ?_)
    apply zz
    refine Cd.drawn (pl := [(0, 0, false, false), (1, 1, false, false), (2, 3, false, false), (3, 0, false, false), (4, 15, false, false), (5, 0, false, false), (6, 32, false, false), (7, 96, false, false), (8, 255, false, false), (9, 0, false, true), (10, 1023, true, false)]) (by kernel_rfl) (by conv => lhs; simp only [List.map_cons, List.map_nil]) (by conv => lhs; simp [strip, ordered]) ?_
    apply Run.by_eq
    · intro self
      conv => lhs; simp -implicitDefEqProofs (maxSteps := 300000) (disch := omega) [filter_bt, (show ∀ i, Nat.testBit 1023 i = decide (i < 10) from fun i => Nat.testBit_two_pow_sub_one 10 i), -getElem?_pos, -getElem?_neg, g4, hr1]
    try (with_reducible refine Run.ret ?_)
    apply zz
    refine Cd.mono (Q := fun x f2 s4 => x = Ex.normal ∧ f2.marks = [] ∧ f2.get 1 = .pointer (some ⟨s.next, 0, none⟩) ∧ f2.get 2 = .pointer (some ⟨s.next + 1, 0, none⟩) ∧ f2.get 4 = .int .i64 c.n ∧ f2.get 5 = .slice (some ⟨sb, 0, none⟩) c.n c.n ∧ f2.get 12 = .pointer (some ⟨wy.next, 0, none⟩) ∧ f2.get 13 = .int .i64 k ∧ f2.get 15 = .pointer (some ⟨s3.next + 1, 0, none⟩) ∧ Keep s3 s4 ∧ s3.next + 1 + 1 ≤ s4.next ∧ s4.heap.get (s3.next + 1) = some (.cells [.int .i64 wk, .int .i64 VAL, .int .i64 x1] none)) ?_ ?_
    · apply zz
      refine Cd.drawn (pl := [(0, 0, false, false), (1, 0, false, false), (2, 2, false, false), (3, 7, false, false), (4, 15, false, false), (5, 0, false, false), (6, 32, false, false), (7, 127, false, false), (8, 0, false, false), (9, 256, false, false), (10, 768, false, false), (11, 0, false, false), (12, 2048, false, false), (13, 6144, false, false), (14, 14336, false, false), (15, 32512, false, false), (16, 65535, false, false), (17, 131071, false, false), (18, 262143, false, false), (19, 524287, true, false)]) (by kernel_rfl) (by conv => lhs; simp only [List.map_cons, List.map_nil]) (by conv => lhs; simp [strip, ordered]) ?_
      apply Run.by_eq
      · intro self
        conv => lhs; simp -implicitDefEqProofs (maxSteps := 300000) (disch := omega) [filter_bt, (show ∀ i, Nat.testBit 524287 i = decide (i < 19) from fun i => Nat.testBit_two_pow_sub_one 19 i), -getElem?_pos, -getElem?_neg, g5, z2, hgw, hwkn, ve5, hr2, hval]
      try (with_reducible refine Run.ret ?_)
      apply zz
      exact ⟨rfl, by simp [hm], by simp [g1], by simp [g2], by simp [g4], by simp [g5], by simp [g12], by simp [g13], by simp, ⟨by (try simp only [pushed_next', upded_next']); omega, fun i hi => by simp -implicitDefEqProofs (disch := omega) []⟩, by simp, by simp -implicitDefEqProofs (disch := omega)⟩
    clear hm g1 g2 g4 g5 g12 g13
    rintro x f2 s4 ⟨rfl, hm, g1, g2, g4, g5, g12, g13, g15, k4, hn4, hg15⟩
    apply zz
    have k4a := k4.1
    have hgq4 := (k4.2 _ (by omega)).trans hgq
    have kx2 : Keep s3 (s4.pushed (.cells [.int .i64 wk, .int .i64 VAL, .int .i64 x1] none)) := k4.pushed _
    generalize hRows : ((c.samples.take k).map c.samp).map SampD.cs = rows at *
    obtain ⟨s5, happ, hn5, hk5, hO5⟩ := app_one (n := 3) (b2 := s4.next) (x := [.int .i64 wk, .int .i64 VAL, .int .i64 x1]) (g := none) (hQ.keepK kx2) hrows rfl rfl (get_pushed_new _ _) (by simp only [pushed_next']; omega) (by omega)
    simp only [pushed_next', hrl] at happ hn5 hO5
    have hvq : oneV qv = true := by rcases hQ with ⟨_, rfl⟩ | ⟨_, rfl, _⟩ <;> rfl
    have hq5 : s5.heap.get wy.next = _ := (hk5 _ (by omega)).trans ((kx2.2 _ (by omega)).trans hgq)
    apply zz
    refine Cd.ra (h := ?_)
    apply Run.by_eq
    · intro self
      conv => lhs; simp -implicitDefEqProofs (maxSteps := 300000) (disch := omega) [-getElem?_pos, -getElem?_neg, g12, g15, hgq4, hg15, happ, hq5]
    try (with_reducible refine Run.ret ?_)
    apply zz
    refine Cd.ra (h := ?_)
    apply Run.by_eq
    · intro self
      conv => lhs; simp -implicitDefEqProofs (maxSteps := 300000) (disch := omega) [-getElem?_pos, -getElem?_neg, g13]
    try (with_reducible refine Run.ret ?_)
    apply zz
    refine LoopK.nm (15 - (k + 1)) (by omega) ⟨k + 1, .slice (some ⟨s4.next + 1, 0, none⟩) (k + 1) (k + 1), by omega, by omega, rfl, by simp [hm], by simp [g1], by simp [g2], by simp [g4], by simp [g5], by simp [g12], by simp, ⟨by (try simp only [upded_next']); omega, fun i hi => ?_⟩, by (try simp only [upded_next']); omega, get_upded_same _ _ _, ?_⟩
    · rw [get_upded_other _ _ _ _ (by omega), hk5 i (by omega), kx2.2 i (by omega)]; exact k3b i hi
    · rw [hrowS, List.map_append, hRows]
      exact (hO5.keep (by (try simp only [upded_next']); omega) fun i h1 h2 => get_upded_other _ _ _ _ (by omega))
  · have hcd : ¬ ((k : Int) < c.samples.length ∧ (k : Int) < 15) := fun h => hlt ⟨by omega, by omega⟩
    have hss : c.ss = (c.samples.take k).map c.samp := by
      unfold CropD.ss
      by_cases h15 : k = 15
      · rw [h15]
      · have : k = c.samples.length := by omega
        rw [this, List.take_of_length_le (by omega), List.take_of_length_le (by omega)]
    have hrows := samp_len ((c.samples.take k).map c.samp)
    have hQs := hQ.sl hrows
    have hvq : oneV qv = true := by rcases hQ with ⟨_, rfl⟩ | ⟨_, rfl, _⟩ <;> rfl
    apply zz
    refine Cd.mono (Q := fun x f2 s4 => x = Ex.normal ∧ f2.marks = [] ∧ f2.get 2 = .pointer (some ⟨s.next + 1, 0, none⟩) ∧ f2.get 5 = .slice (some ⟨sb, 0, none⟩) c.n c.n ∧ f2.get 12 = .pointer (some ⟨wy.next, 0, none⟩) ∧ f2.get 106 = .bool false ∧ s4 = s3) ?_ ?_
    · by_cases h1 : (k : Int) < c.samples.length
      · have h2 : ¬ (k : Int) < 15 := fun h => hcd ⟨h1, h⟩
        apply zz
        refine Cd.ra (h := ?_)
        apply Run.by_eq
        · intro self
          conv => lhs; simp -implicitDefEqProofs (maxSteps := 300000) (disch := omega) [-getElem?_pos, -getElem?_neg, g13, g1, z0, h1, h2]
        try (with_reducible refine Run.ret ?_)
        apply zz
        exact ⟨rfl, by simp [hm], by simp [g2], by simp [g5], by simp [g12], by simp, rfl⟩
      · apply zz
        refine Cd.ra (h := ?_)
        apply Run.by_eq
        · intro self
          conv => lhs; simp -implicitDefEqProofs (maxSteps := 300000) (disch := omega) [-getElem?_pos, -getElem?_neg, g13, g1, z0, h1]
        try (with_reducible refine Run.ret ?_)
        apply zz
        exact ⟨rfl, by simp [hm], by simp [g2], by simp [g5], by simp [g12], by simp, rfl⟩
    clear hm g1 g2 g4 g5 g12 g13
    rintro x f2 s4 ⟨rfl, hm, g2, g5, g12, g106, rfl⟩
    apply zz
    apply Cd.ite rfl
    · conv => lhs; simp -implicitDefEqProofs (maxSteps := 300000) (disch := omega) [-getElem?_pos, -getElem?_neg, g106]
    all_goals intro c0
    all_goals try (cases c0; done)
    all_goals try simp only [Bool.not_eq_true', Bool.not_eq_false', decide_eq_true_eq, decide_eq_false_iff_not] at c0
    all_goals apply zz
    apply zz
    refine Cd.ra (h := ?_)
    apply Run.by_eq
    · intro self
      conv => lhs; simp -implicitDefEqProofs (maxSteps := 300000) (disch := omega) [-getElem?_pos, -getElem?_neg, g2, g5, g12, z1, hgq, hvq]
    try (with_reducible refine Run.ret ?_)
    apply zz
    apply Leave.mk (by first | exact .inl rfl | exact .inr rfl) (by simp only [Fr.marks_put, fr0_marks, hm, g2, hvq])
    · conv => lhs; simp -implicitDefEqProofs (disch := omega) [Try.results33, hm, g2, hvq]
    refine ⟨⟨by (try simp only [upded_next']); omega, fun i hi => ?_⟩, qv, _, rfl, ?_, ?_⟩
    · rw [get_upded_other _ _ _ _ (by omega)]; exact hk3s.2 i hi
    · rw [hss]
      exact OwnG.less (hQ.keep (s' := s4.upded (s.next + 1) _) (by (try simp only [upded_next']); omega) fun i h1 h2 => get_upded_other _ _ _ _ (by omega)) (by omega)
    · have hkk : Keep s2 s4 := ⟨by omega, fun i hi => by rw [k3b i (by omega), yb i (by omega)]⟩
      refine OwnN.sl (OwnN.keep hO' ?_ fun i h1 h2 => ?_) (iC_len _)
      · (try simp only [upded_next']); omega
      · rw [get_upded_other _ _ _ _ (by omega)]; exact hkk.2 i h2
end Go.Proofs.Ytnhokodcmeekhaa
namespace Go.Proofs.Ytnhokodcmeekhaa
open Go Kern
/-! The law of cuts -/
end Go.Proofs.Ytnhokodcmeekhaa
namespace Go.Proofs.Ytnhokodcmeekhaa
open Go Kern
/-! The law of proofs -/
def HasClash (n lo hi : Int) (ss : List SampD) : Prop := ∃ i j k, i < n.toNat ∧ j < n.toNat ∧ k < n.toNat ∧ hB lo hi ss i j k = true
theorem Ans.mode {n lo hi : Int} {ss : List SampD} {e : Int} {bad good : Prop} (h1 : fieldErr n lo hi ss = 0) (h : Ans n lo hi ss e bad good) : (HasClash n lo hi ss → e = 12 ∧ bad) ∧ (¬ HasClash n lo hi ss → e = 0 ∧ good) := by
  rcases h with ⟨h, _⟩ | ⟨_, h, g, hc⟩ | ⟨_, h, g, hc⟩
  · exact absurd h1 h
  · exact ⟨fun _ => ⟨h, g⟩, fun hn => absurd hc hn⟩
  · refine ⟨fun ⟨i, j, k, a, b, c, d⟩ => ?_, fun _ => ⟨h, g⟩⟩
    rw [hc i j k a b c] at d; cases d
theorem ClashA.mode {n lo hi : Int} {ss : List SampD} {w : Value} {e : Int} {s : St} (h1 : fieldErr n lo hi ss = 0) (h : ClashA (fieldErr n lo hi ss) n.toNat (holdsB (fun w => (endN lo hi ss w).1) (fun w => (endN lo hi ss w).2)) w e s) : (HasClash n lo hi ss → e = 0 ∧ Trip n.toNat (hB lo hi ss) w s) ∧ (¬ HasClash n lo hi ss → e = 5 ∧ w = .slice none 0 0) := by
  rcases h with ⟨h, _⟩ | ⟨_, h, g, hc⟩ | ⟨_, h, g⟩
  · exact absurd h1 h
  · refine ⟨fun ⟨i, j, k, a, b, c, d⟩ => ?_, fun _ => ⟨h, g⟩⟩
    have := hc i j k a b c
    change hB lo hi ss i j k = false at this
    rw [this] at d; cases d
  · refine ⟨fun _ => ⟨h, g⟩, fun hn => ?_⟩
    obtain ⟨i, j, k, a, b, c, d, _⟩ := g
    exact absurd ⟨i, j, k, a, b, c, d⟩ hn
def wsamp (n : Nat) (x : Int × Int × Int) : SampD := ⟨x.1 % n, 7000 + 40 * x.2.1, x.2.2⟩
@[simp] theorem newObj_24 {f : Fr} {pl0 : Array (Nat × Operand)} : Kern.newObj TT (.buildSlice 24 1 pl0) f = ob (fillL f.eval (placesA 3 pl0.toList) (repeatL [.int .i64 0, .int .i64 0, .int .i64 0] 1)) fun c => some (.cells c none) :=
  newObj_buildSlice 24 1 pl0 und_24 size_82 zero_82 rfl
def Bytes3 (x : Int × Int × Int) : Prop := Byte x.1 ∧ Byte x.2.1 ∧ Byte x.2.2
end Go.Proofs.Ytnhokodcmeekhaa
namespace Go.Proofs.Ytnhokodcmeekhaa
open Go Kern
/-! What is true lies within what is known -/
/-- A truth: within all lows and highs, in steps that never become greater. -/
structure Truth (m : Nat) (L H : Nat → Frac) (x : Nat → Int) : Prop where
  u : ∀ w, w < m → (L w).u = 1 ∧ (H w).u = 1
  lo : ∀ w, w < m → (L w).o ≤ x w
  hi : ∀ w, w < m → x w ≤ (H w).o
  con : ∀ i j k, i < j → j < k → k < m → x i * ((k : Int) - j) + x k * ((j : Int) - i) ≤ x j * ((k : Int) - i)
theorem mul_le2 {a b c d p q : Int} (h1 : a ≤ b) (h2 : c ≤ d) (hp : 0 ≤ p) (hq : 0 ≤ q) : a * p + c * q ≤ b * p + d * q := by
  have := Int.mul_le_mul_of_nonneg_right h1 hp
  have := Int.mul_le_mul_of_nonneg_right h2 hq
  omega
theorem Truth.nocl {m : Nat} {L H : Nat → Frac} {x : Nat → Int} (h : Truth m L H x) : NoCl m L H := by
  refine ⟨h.u, fun i j k hi hj hk => ?_⟩
  unfold clashB
  split
  · rename_i e
    obtain ⟨rfl, rfl⟩ := e
    rw [above_not, (h.u i hi).1, (h.u i hi).2, Int.mul_one, Int.mul_one]
    exact Int.le_trans (h.lo i hi) (h.hi i hi)
  · by_cases h1 : i < j
    · by_cases h2 : j < k
      · rw [decide_eq_true h1, decide_eq_true h2, Bool.true_and, Bool.true_and, above_not]
        unfold lineF lineO
        rw [if_neg (by omega)]
        simp only [(h.u i hi).1, (h.u k hk).1, (h.u j hj).2, Int.mul_one, Int.one_mul]
        have a := h.con i j k h1 h2 hk
        have b := mul_le2 (h.lo i hi) (h.lo k hk) (show (0 : Int) ≤ (k : Int) - j by omega) (show (0 : Int) ≤ (j : Int) - i by omega)
        have c := Int.mul_le_mul_of_nonneg_right (h.hi j hj) (show (0 : Int) ≤ (k : Int) - i by omega)
        omega
      · rw [decide_eq_false h2, Bool.false_and, Bool.and_false]
    · rw [decide_eq_false h1, Bool.false_and]
theorem Truth.line_le {m w i k : Nat} {L H : Nat → Frac} {x : Nat → Int} (h : Truth m L H x) (hi : i < w) (hk : w < k) (hkm : k < m) : LeF (lineF i (L i) k (L k) w) ⟨x w, 1⟩ := by
  unfold lineF lineO LeF
  rw [if_neg (by omega)]
  simp only [(h.u i (by omega)).1, (h.u k hkm).1, Int.mul_one, Int.one_mul]
  have a := h.con i w k hi hk hkm
  have b := mul_le2 (h.lo i (by omega)) (h.lo k hkm) (show (0 : Int) ≤ (k : Int) - w by omega) (show (0 : Int) ≤ (w : Int) - i by omega)
  omega
theorem Truth.up {m w : Nat} {L H : Nat → Frac} {x : Nat → Int} (h : Truth m L H x) (hw : w < m) : LeF ⟨x w, 1⟩ (upF m L H w) := by
  unfold upF
  rcases foreF_mem (bf := belowB) (H w) ((towardL m w).map fun p => lineF p.1 (L p.1) p.2 (H p.2) w) with e | e
  · rw [e]; unfold LeF; rw [(h.u w hw).2]; simp only [Int.mul_one]; exact h.hi w hw
  · obtain ⟨⟨a, b⟩, hp, hx⟩ := List.mem_map.1 e
    rw [← hx]
    have hm := toward_mem.1 hp
    simp only [] at hm ⊢
    obtain ⟨ha, hm | hm⟩ := hm
    · have c := h.con a b w hm.1 hm.2 hw
      have d := Int.mul_le_mul_of_nonneg_right (h.hi b (by omega)) (show (0 : Int) ≤ (w : Int) - a by omega)
      have e := Int.mul_le_mul_of_nonneg_right (h.lo a ha) (show (0 : Int) ≤ (w : Int) - b by omega)
      unfold lineF lineO LeF
      rw [if_neg (by omega)]
      simp only [(h.u a ha).1, (h.u b (by omega)).2, Int.mul_one, Int.one_mul]
      have e1 : (L a).o * ((b : Int) - w) = -((L a).o * ((w : Int) - b)) := by rw [← Int.mul_neg]; congr 1; omega
      omega
    · have c := h.con w b a hm.1 hm.2 ha
      have d := Int.mul_le_mul_of_nonneg_right (h.hi b (by omega)) (show (0 : Int) ≤ (a : Int) - w by omega)
      have e := Int.mul_le_mul_of_nonneg_right (h.lo a ha) (show (0 : Int) ≤ (b : Int) - w by omega)
      unfold lineF lineO LeF
      rw [if_pos (by omega)]
      simp only [(h.u a ha).1, (h.u b (by omega)).2, Int.mul_one, Int.one_mul]
      have e1 : (L a).o * ((w : Int) - b) = -((L a).o * ((b : Int) - w)) := by rw [← Int.mul_neg]; congr 1; omega
      omega
theorem ce_mono {x y : Frac} (hx : 0 < x.u) (hy : 0 < y.u) (h : LeF x y) : ceF x ≤ ceF y := by
  have key : LeF ⟨-y.o, y.u⟩ ⟨-x.o, x.u⟩ := by unfold LeF at *; simp only [Int.neg_mul]; omega
  have h1 : (-y.o) / y.u ≤ (-x.o) / x.u := by
    rw [Int.le_ediv_iff_mul_le hx]
    have h2 : (-y.o) / y.u * y.u ≤ -y.o := Int.ediv_mul_le _ (by omega)
    have h3 := Int.mul_le_mul_of_nonneg_right h2 (Int.le_of_lt hx)
    unfold LeF at key
    simp only [] at key
    have h4 : (-y.o) / y.u * x.u * y.u ≤ -x.o * y.u := by rw [Int.mul_right_comm]; omega
    exact Int.le_of_mul_le_mul_right h4 hy
  unfold ceF
  omega
/-- Of all truths' losses none is greater than the regret. -/
theorem Truth.loss {m w o : Nat} {L H : Nat → Frac} {x : Nat → Int} (h : Truth m L H x) (hw : w < m) (ho : o < m) : LeF ⟨x o - x w, 1⟩ (lossF m L H w o) := by
  have hN := h.nocl
  obtain ⟨hLp, hHp⟩ := hN.pos
  have hU := up_pos hLp hHp ho
  have hxU := h.up ho
  have hRw : raisedL m L H o o = upF m L H o := if_pos rfl
  have hRn : ∀ i, i ≠ o → raisedL m L H o i = L i := fun i h => if_neg h
  have hRp : ∀ i, i < m → 0 < (raisedL m L H o i).u := fun i hi => by
    unfold raisedL updF; split
    · exact hU
    · exact hLp i hi
  -- below what lies at most the truth's sweetness
  have key : ∀ X : Frac, 0 < X.u → LeF X ⟨x w, 1⟩ → LeF ⟨x o - x w, 1⟩ (minusF (upF m L H o) X) := fun X hX hle => by
    unfold LeF minusF at *
    simp only [Int.mul_one] at *
    have a := Int.mul_le_mul_of_nonneg_right hxU (Int.le_of_lt hX)
    have b := Int.mul_le_mul_of_nonneg_right hle (Int.le_of_lt hU)
    have e : (x o - x w) * ((upF m L H o).u * X.u) = x o * (upF m L H o).u * X.u - x w * X.u * (upF m L H o).u := by grind
    omega
  -- a line from the raised week to another one
  have line : ∀ i : Nat, i < m → ((i < w ∧ w < o) ∨ (o < w ∧ w < i)) → LeF ⟨x o - x w, 1⟩ (minusF (upF m L H o) (lineF i (L i) o (upF m L H o) w)) := fun i hi hb => by
    generalize hUe : upF m L H o = U at *
    obtain ⟨uo, uu⟩ := U
    unfold LeF at hxU ⊢
    simp only [Int.mul_one] at hU hxU
    have hlo := h.lo i hi
    rcases hb with ⟨h1, h2⟩ | ⟨h1, h2⟩
    · have c := h.con i w o h1 h2 ho
      unfold minusF lineF lineO
      rw [if_neg (by omega)]
      simp only [(h.u i hi).1, Int.one_mul, Int.mul_one]
      -- U - X = (U - L i) (o - w) / (o - i)
      have g1 : 0 ≤ (uo - x o * uu) * ((o : Int) - w) := Int.mul_nonneg (by omega) (by omega)
      have g2 : 0 ≤ (x i - (L i).o) * uu * ((o : Int) - w) := Int.mul_nonneg (Int.mul_nonneg (by omega) (by omega)) (by omega)
      have g3 : 0 ≤ (x w * ((o : Int) - i) - (x i * ((o : Int) - w) + x o * ((w : Int) - i))) * uu := Int.mul_nonneg (by omega) (by omega)
      have g4 := Int.mul_nonneg (show 0 ≤ (uo - x o * uu) * ((o : Int) - w) + (x i - (L i).o) * uu * ((o : Int) - w) + (x w * ((o : Int) - i) - (x i * ((o : Int) - w) + x o * ((w : Int) - i))) * uu by omega) (Int.le_of_lt hU)
      have e : (uo * (uu * ((o : Int) - i)) - ((L i).o * uu * ((o : Int) - w) + uo * ((w : Int) - i)) * uu) - (x o - x w) * (uu * (uu * ((o : Int) - i))) = ((uo - x o * uu) * ((o : Int) - w) + (x i - (L i).o) * uu * ((o : Int) - w) + (x w * ((o : Int) - i) - (x i * ((o : Int) - w) + x o * ((w : Int) - i))) * uu) * uu := by grind
      omega
    · have c := h.con o w i h1 h2 hi
      unfold minusF lineF lineO
      rw [if_pos (by omega)]
      simp only [(h.u i hi).1, Int.one_mul, Int.mul_one]
      have g1 : 0 ≤ (uo - x o * uu) * ((w : Int) - o) := Int.mul_nonneg (by omega) (by omega)
      have g2 : 0 ≤ (x i - (L i).o) * uu * ((w : Int) - o) := Int.mul_nonneg (Int.mul_nonneg (by omega) (by omega)) (by omega)
      have g3 : 0 ≤ (x w * ((i : Int) - o) - (x o * ((i : Int) - w) + x i * ((w : Int) - o))) * uu := Int.mul_nonneg (by omega) (by omega)
      have g4 := Int.mul_nonneg (show 0 ≤ (uo - x o * uu) * ((w : Int) - o) + (x i - (L i).o) * uu * ((w : Int) - o) + (x w * ((i : Int) - o) - (x o * ((i : Int) - w) + x i * ((w : Int) - o))) * uu by omega) (Int.le_of_lt hU)
      have e : (uo * (uu * ((i : Int) - o)) - (uo * ((i : Int) - w) + (L i).o * uu * ((w : Int) - o)) * uu) - (x o - x w) * (uu * (uu * ((i : Int) - o))) = ((uo - x o * uu) * ((w : Int) - o) + (x i - (L i).o) * uu * ((w : Int) - o) + (x w * ((i : Int) - o) - (x o * ((i : Int) - w) + x i * ((w : Int) - o))) * uu) * uu := by grind
      omega
  unfold lossF
  have hmem := foreF_mem (bf := aboveB) (raisedL m L H o w) ((acrossL m w).map fun p => lineF p.1 (raisedL m L H o p.1) p.2 (raisedL m L H o p.2) w)
  have eR : lowF m (raisedL m L H o) w = foreF aboveB (raisedL m L H o w) ((acrossL m w).map fun p => lineF p.1 (raisedL m L H o p.1) p.2 (raisedL m L H o p.2) w) := rfl
  rw [← eR] at hmem
  by_cases hwo : w = o
  · subst hwo
    have hz : (x w - x w : Int) = 0 := by omega
    rw [hz]
    have key0 : ∀ X : Frac, LeF X (upF m L H w) → LeF ⟨0, 1⟩ (minusF (upF m L H w) X) := fun X hX => by
      unfold LeF minusF at *
      simp only [Int.zero_mul, Int.mul_one]
      omega
    refine key0 _ ?_
    rcases hmem with e | e
    · rw [e, hRw]; exact LeF.refl _
    · obtain ⟨⟨i, k⟩, hp, hx⟩ := List.mem_map.1 e
      obtain ⟨h1, h2, h3⟩ := across_mem.1 hp
      simp only [] at h1 h2 h3 hx
      rw [← hx, hRn i (by omega), hRn k (by omega)]
      exact across_le_up h.u hN.all h1 h2 h3
  · rcases hmem with e | e
    · rw [e, hRn w hwo]
      refine key _ (hLp w hw) ?_
      unfold LeF; rw [(h.u w hw).1]; simp only [Int.mul_one]; exact h.lo w hw
    · obtain ⟨⟨i, k⟩, hp, hx⟩ := List.mem_map.1 e
      obtain ⟨h1, h2, h3⟩ := across_mem.1 hp
      simp only [] at h1 h2 h3 hx
      rw [← hx]
      by_cases hio : i = o
      · subst hio
        rw [hRw, hRn k (by omega), line_swap _ _ _ _ _ (by omega)]
        exact line k h3 (by omega)
      · by_cases hko : k = o
        · subst hko
          rw [hRw, hRn i hio]
          exact line i (by omega) (by omega)
        · rw [hRn i hio, hRn k hko]
          exact key _ (line_pos (hLp i (by omega)) (hLp k h3) (by omega)) (h.line_le h1 h2 h3)
theorem wkL_mem {m w : Nat} {p : Nat → Bool} : (w : Int) ∈ wkL m p ↔ w < m ∧ p w = true := by
  unfold wkL
  simp only [List.mem_map, List.mem_filter, List.mem_range]
  constructor
  · rintro ⟨j, ⟨h1, h2⟩, h3⟩
    have : j = w := by omega
    subst this; exact ⟨h1, h2⟩
  · rintro ⟨h1, h2⟩; exact ⟨w, ⟨h1, h2⟩, rfl⟩
end Go.Proofs.Ytnhokodcmeekhaa
namespace Go.Proofs.Ytnhokodcmeekhaa
open Go Kern
/-! A crop's sweetness is a truth of its field -/
theorem stp_le {c : CropD} (h : c.Ok) {a b : Nat} (hab : a ≤ b) : c.stp b ≤ c.stp a := by
  induction b with
  | zero => have : a = 0 := by omega
            subst this; exact Int.le_refl _
  | succ b ih =>
    by_cases e : a = b + 1
    · subst e; exact Int.le_refl _
    · have h1 := ih (by omega)
      have h2 := (fall_bd h b).1
      have h3 : c.stp (b + 1) = c.stp b - c.fall b := rfl
      omega
theorem sweet_lo {c : CropD} (h : c.Ok) {i j : Nat} (hij : i ≤ j) : ((j : Int) - i) * c.stp j ≤ c.sweet j - c.sweet i := by
  obtain ⟨d, rfl⟩ : ∃ d, j = i + d := ⟨j - i, by omega⟩
  have key : ∀ d e : Nat, d ≤ e → (d : Int) * c.stp (i + e) ≤ c.sweet (i + d) - c.sweet i := by
    intro d
    induction d with
    | zero => intro e _; simp
    | succ d ih =>
      intro e he
      have h1 := ih e (by omega)
      have h2 := stp_le h (show i + d ≤ i + e by omega)
      have h3 : c.sweet (i + (d + 1)) = c.sweet (i + d) + c.stp (i + d) := rfl
      have h4 : ((d + 1 : Nat) : Int) * c.stp (i + e) = (d : Int) * c.stp (i + e) + c.stp (i + e) := by push_cast; rw [Int.add_mul]; omega
      omega
  have := key d d (Nat.le_refl _)
  rw [show ((i + d : Nat) : Int) - i = d by omega]
  exact this
theorem sweet_hi {c : CropD} (h : c.Ok) {j k : Nat} (hjk : j ≤ k) : c.sweet k - c.sweet j ≤ ((k : Int) - j) * c.stp j := by
  obtain ⟨d, rfl⟩ : ∃ d, k = j + d := ⟨k - j, by omega⟩
  have key : ∀ d : Nat, c.sweet (j + d) - c.sweet j ≤ (d : Int) * c.stp j := by
    intro d
    induction d with
    | zero => simp
    | succ d ih =>
      have h2 := stp_le h (show j ≤ j + d by omega)
      have h3 : c.sweet (j + (d + 1)) = c.sweet (j + d) + c.stp (j + d) := rfl
      have h4 : ((d + 1 : Nat) : Int) * c.stp j = (d : Int) * c.stp j + c.stp j := by push_cast; rw [Int.add_mul]; omega
      omega
  rw [show ((j + d : Nat) : Int) - j = d by omega]
  exact key d
theorem sweet_con {c : CropD} (h : c.Ok) {i j k : Nat} (hij : i < j) (hjk : j < k) : c.sweet i * ((k : Int) - j) + c.sweet k * ((j : Int) - i) ≤ c.sweet j * ((k : Int) - i) := by
  have a := Int.mul_le_mul_of_nonneg_right (sweet_lo h (show i ≤ j by omega)) (show (0 : Int) ≤ (k : Int) - j by omega)
  have b := Int.mul_le_mul_of_nonneg_right (sweet_hi h (show j ≤ k by omega)) (show (0 : Int) ≤ (j : Int) - i by omega)
  have e1 : ((j : Int) - i) * c.stp j * ((k : Int) - j) = ((k : Int) - j) * c.stp j * ((j : Int) - i) := by ac_rfl
  have e2 : c.sweet j * ((k : Int) - i) - (c.sweet i * ((k : Int) - j) + c.sweet k * ((j : Int) - i)) = (c.sweet j - c.sweet i) * ((k : Int) - j) - (c.sweet k - c.sweet j) * ((j : Int) - i) := by grind
  omega
/-- A sample that is right. -/
def Right (x : Nat → Int) (s : SampD) : Prop := s.val - s.off ≤ x s.week.toNat ∧ x s.week.toNat ≤ s.val + s.off
theorem end_truth {x : Nat → Int} (w : Nat) : ∀ (ss : List SampD) (p : Int × Int), p.1 ≤ x w ∧ x w ≤ p.2 → (∀ s ∈ ss, Right x s) → (ss.foldl (endS w) p).1 ≤ x w ∧ x w ≤ (ss.foldl (endS w) p).2
  | [], _, h, _ => h
  | s :: r, p, h, hs => by
    refine end_truth w r (endS w p s) ?_ fun y hy => hs y (.tail _ hy)
    have h1 := hs s (.head _)
    unfold endS
    split
    · rename_i e
      unfold Right at h1
      rw [e, Int.toNat_natCast] at h1
      simp only []
      omega
    · exact h
theorem crop_truth {c : CropD} (hc : c.Ok) {ss : List SampD} (h1 : fieldErr c.n c.lo c.hi ss = 0) (hs : ∀ s ∈ ss, Right c.sweet s) : Truth c.n (LF c.n c.lo c.hi ss) (HF c.n c.lo c.hi ss) c.sweet := by
  have key : ∀ w, w < c.n → (LF c.n c.lo c.hi ss w).o ≤ c.sweet w ∧ c.sweet w ≤ (HF c.n c.lo c.hi ss w).o := fun w hw => by
    rw [LF_ref h1 hw, HF_ref h1 hw]
    exact end_truth w ss (c.lo, c.hi) (sweet_range hc hw) hs
  refine ⟨fun w hw => by rw [LF_ref h1 hw, HF_ref h1 hw]; exact ⟨rfl, rfl⟩, fun w hw => (key w hw).1, fun w hw => (key w hw).2, fun i j k hij hjk _ => sweet_con hc hij hjk⟩
theorem crop_ss {c : CropD} (hc : c.Ok) : fieldErr c.n c.lo c.hi c.ss = 0 ∧ ∀ s ∈ c.ss, Right c.sweet s := by
  have hsl : c.ss.length ≤ 15 := by unfold CropD.ss; simp; omega
  refine ⟨crop_valid hc _ (by omega) fun x hx => ?_, fun x hx => ?_⟩
  · obtain ⟨z, hz, rfl⟩ := List.mem_map.1 hx
    obtain ⟨a1, a2, a3, _⟩ := samp_ok hc (hc.samples z (List.mem_of_mem_take hz))
    omega
  · obtain ⟨z, hz, rfl⟩ := List.mem_map.1 hx
    obtain ⟨_, _, _, a4⟩ := samp_ok hc (hc.samples z (List.mem_of_mem_take hz))
    exact a4
theorem Truth.noHas {m : Nat} {lo hi : Int} {ss : List SampD} {x : Nat → Int} (h1 : fieldErr m lo hi ss = 0) (h : Truth m (LF m lo hi ss) (HF m lo hi ss) x) : ¬ HasClash m lo hi ss := by
  rintro ⟨i, j, k, a, b, c, d⟩
  simp only [Int.toNat_natCast] at a b c
  have := h.nocl.all i j k a b c
  rw [show clashB (LF m lo hi ss) (HF m lo hi ss) i j k = hB lo hi ss i j k from hB_eq h1 i j k a b c] at this
  rw [this] at d; cases d
/-! A number of a list -/
set_option maxRecDepth 100000 in
set_option maxHeartbeats 2000000 in
theorem has_ev (v : Value) (l : List Int) (x : Int) (s : St) (h : IntsAt s v l) (hl : l.length ≤ 1000000) : Ev TT 34 [v, .int .i64 x] s fun r s' => r = .bool (decide (x ∈ l)) ∧ Keep s s' := by
  obtain ⟨a, c, rfl⟩ := h.shape
  rw [List.length_map] at h ⊢
  refine Ev.intro (fn := Try.f34) rfl (by kernel_rfl) rfl rfl ?_
  apply zz
  refine Cd.ra (h := ?_)
  apply Run.by_eq
  · intro self
    conv => lhs; simp -implicitDefEqProofs (maxSteps := 300000) (disch := omega) [-getElem?_pos, -getElem?_neg]
  try (with_reducible refine Run.ret ?_)
  apply zz
  refine Cd.ra (h := ?_)
  apply Run.by_eq
  · intro self
    conv => lhs; simp -implicitDefEqProofs (maxSteps := 300000) (disch := omega) [-getElem?_pos, -getElem?_neg]
  try (with_reducible refine Run.ret ?_)
  apply zz
  refine Cd.inv (fun z f s' => ∃ k : Nat, k ≤ l.length ∧ z = l.length - k ∧ f.marks = [] ∧ f.get 1 = .int .i64 x ∧ f.get 7 = .slice a l.length c ∧ f.get 8 = .int .i64 l.length ∧ f.get 9 = .int .i64 k ∧ Keep s s' ∧ ∀ (j : Nat) (y : Int), j < k → l[j]? = some y → y ≠ x) l.length ?_ ?_
  · exact ⟨0, by omega, rfl, by simp, by simp, by simp, by simp, by simp, ⟨by (try simp only [pushed_next', upded_next']); omega, fun i hi => by simp -implicitDefEqProofs (disch := omega) []⟩, fun j y h => by omega⟩
  rintro z f s' ⟨k, hk, rfl, hm, g1, g7, g8, g9, hkp, hz⟩
  by_cases hlt : k < l.length
  · have hlt' : (k : Int) < l.length := by omega
    obtain ⟨y, hy⟩ : ∃ y, l[k]? = some y := ⟨l[k], by simp [hlt]⟩
    obtain ⟨b, off, o, cs, gg, rfl, hb, ho, hc, ht⟩ := IntsAt.at (h.keep hkp) hy
    apply zz
    refine Cd.ra (h := ?_)
    apply Run.by_eq
    · intro self
      conv => lhs; simp -implicitDefEqProofs (maxSteps := 300000) (disch := omega) [-getElem?_pos, -getElem?_neg, g9, g8, hlt']
    try (with_reducible refine Run.ret ?_)
    apply zz
    apply Cd.ite rfl
    · conv => lhs; simp -implicitDefEqProofs (maxSteps := 300000) (disch := omega) [-getElem?_pos, -getElem?_neg]
    all_goals intro c0
    all_goals try (cases c0; done)
    all_goals try simp only [Bool.not_eq_true', Bool.not_eq_false', decide_eq_true_eq, decide_eq_false_iff_not] at c0
    all_goals apply zz
    apply zz
    refine Cd.ra (h := ?_)
    apply Run.by_eq
    · intro self
      conv => lhs; simp -implicitDefEqProofs (maxSteps := 300000) (disch := omega) [-getElem?_pos, -getElem?_neg, g7, g9, hlt, ho, hc, ht]
    try (with_reducible refine Run.ret ?_)
    apply zz
    by_cases hyx : y = x
    · have hd : decide (x ∈ l) = true := by rw [← hyx]; simpa using List.mem_of_getElem? hy
      rw [hd]
      apply zz
      refine Cd.ra (h := ?_)
      apply Run.by_eq
      · intro self
        conv => lhs; simp -implicitDefEqProofs (maxSteps := 300000) (disch := omega) [-getElem?_pos, -getElem?_neg, g1, hyx]
      try (with_reducible refine Run.ret ?_)
      apply zz
      apply Cd.ite rfl
      · conv => lhs; simp -implicitDefEqProofs (maxSteps := 300000) (disch := omega) [-getElem?_pos, -getElem?_neg]
      all_goals intro c1
      all_goals try (cases c1; done)
      all_goals try simp only [Bool.not_eq_true', Bool.not_eq_false', decide_eq_true_eq, decide_eq_false_iff_not] at c1
      all_goals apply zz
      apply zz
      refine Cd.ra (h := ?_)
      apply Run.by_eq
      · intro self
        conv => lhs; simp -implicitDefEqProofs (maxSteps := 300000) (disch := omega) [-getElem?_pos, -getElem?_neg]
      try (with_reducible refine Run.ret ?_)
      apply zz
      apply Leave.mk (by first | exact .inl rfl | exact .inr rfl) (by simp only [Fr.marks_put, fr0_marks, hm])
      · conv => lhs; simp -implicitDefEqProofs (disch := omega) [Try.results34, hm]
      exact ⟨rfl, hkp⟩
    · apply zz
      refine Cd.ra (h := ?_)
      apply Run.by_eq
      · intro self
        conv => lhs; simp -implicitDefEqProofs (maxSteps := 300000) (disch := omega) [-getElem?_pos, -getElem?_neg, g1, hyx]
      try (with_reducible refine Run.ret ?_)
      apply zz
      apply Cd.ite rfl
      · conv => lhs; simp -implicitDefEqProofs (maxSteps := 300000) (disch := omega) [-getElem?_pos, -getElem?_neg]
      all_goals intro c1
      all_goals try (cases c1; done)
      all_goals try simp only [Bool.not_eq_true', Bool.not_eq_false', decide_eq_true_eq, decide_eq_false_iff_not] at c1
      all_goals apply zz
      apply zz
      refine Cd.ra (h := ?_)
      apply Run.by_eq
      · intro self
        conv => lhs; simp -implicitDefEqProofs (maxSteps := 300000) (disch := omega) [-getElem?_pos, -getElem?_neg, g9]
      try (with_reducible refine Run.ret ?_)
      apply zz
      refine LoopK.nm (l.length - (k + 1)) (by omega) ⟨k + 1, by omega, rfl, by simp [hm], by simp [g1], by simp [g7], by simp [g8], by simp, hkp, fun j y' hj hy' => ?_⟩
      by_cases e : j = k
      · subst e; rw [hy] at hy'; cases hy'; exact hyx
      · exact hz j y' (by omega) hy'
  · obtain rfl : k = l.length := by omega
    have hd : decide (x ∈ l) = false := by
      simp only [decide_eq_false_iff_not]
      intro hx
      obtain ⟨j, hj, e⟩ := List.mem_iff_getElem.1 hx
      exact hz j x hj (by rw [List.getElem?_eq_getElem hj, e]) rfl
    rw [hd]
    apply zz
    refine Cd.ra (h := ?_)
    apply Run.by_eq
    · intro self
      conv => lhs; simp -implicitDefEqProofs (maxSteps := 300000) (disch := omega) [-getElem?_pos, -getElem?_neg, g9, g8]
    try (with_reducible refine Run.ret ?_)
    apply zz
    apply Cd.ite rfl
    · conv => lhs; simp -implicitDefEqProofs (maxSteps := 300000) (disch := omega) [-getElem?_pos, -getElem?_neg]
    all_goals intro c0
    all_goals try (cases c0; done)
    all_goals try simp only [Bool.not_eq_true', Bool.not_eq_false', decide_eq_true_eq, decide_eq_false_iff_not] at c0
    all_goals apply zz
    apply zz
    refine Cd.ra (h := ?_)
    apply Run.by_eq
    · intro self
      conv => lhs; simp -implicitDefEqProofs (maxSteps := 300000) (disch := omega) [-getElem?_pos, -getElem?_neg]
    try (with_reducible refine Run.ret ?_)
    apply zz
    apply Leave.mk (by first | exact .inl rfl | exact .inr rfl) (by simp only [Fr.marks_put, fr0_marks, hm])
    · conv => lhs; simp -implicitDefEqProofs (disch := omega) [Try.results34, hm]
    exact ⟨rfl, hkp⟩
end Go.Proofs.Ytnhokodcmeekhaa
namespace Go.Proofs.Ytnhokodcmeekhaa
open Go Kern
/-! The stage's theorem: its law -/
structure TFacts (c : CropD) (least : Int) (w : Nat) : Prop where
  kl : (knownL c.n c.lo c.hi c.ss)[w]? = some (flF (lowF c.n (bndN c.n c.lo c.hi c.ss).1 w), ceF (upF c.n (bndN c.n c.lo c.hi c.ss).1 (bndN c.n c.lo c.hi c.ss).2 w))
  lo : flF (lowF c.n (bndN c.n c.lo c.hi c.ss).1 w) ≤ c.sweet w
  hi : c.sweet w ≤ ceF (upF c.n (bndN c.n c.lo c.hi c.ss).1 (bndN c.n c.lo c.hi c.ss).2 w)
  loss : c.mst c.n - c.sweet w ≤ ceF (RF c.n c.lo c.hi c.ss w)
  best : ceF (RF c.n c.lo c.hi c.ss (bestI (RF c.n c.lo c.hi c.ss) (c.n - 1))) ≤ ceF (RF c.n c.lo c.hi c.ss w)
  peak : c.sweet w = c.mst c.n → (w : Int) ∈ wkL c.n (fromB (UF c.n c.lo c.hi c.ss) (topF c.n (LF c.n c.lo c.hi c.ss)))
  sure : (w : Int) ∈ wkL c.n (fromB (WF c.n c.lo c.hi c.ss) ⟨limI least, 1⟩) → least ≤ c.sweet w
  maybe : least ≤ c.sweet w → (w : Int) ∈ wkL c.n (fromB (UF c.n c.lo c.hi c.ss) ⟨limI least, 1⟩)
theorem RegA.okw {n lo hi week r e : Int} {ss : List SampD} (h1 : fieldErr n lo hi ss = 0) (hn : ¬ HasClash n lo hi ss) (hw : weekB n week = true) (h : RegA n lo hi ss week r e) : e = 0 ∧ r = ceF (RF n lo hi ss week.toNat) := by
  rcases h with ⟨h, _⟩ | ⟨_, _, _, h⟩ | ⟨_, h, _⟩
  · exact absurd h1 h
  · exact absurd h hn
  · rcases h with ⟨h, _⟩ | ⟨_, h, g⟩
    · rw [hw] at h; cases h
    · exact ⟨h, g⟩
@[simp] theorem conv_64_3 {self : Self} {f : Fr} {s : St} {x : Operand} : actO TT self (.convert 64 3 x) f s = pureR (vConv .i64 x f.eval s.heap) s := o_convert_3 (by rw [und_64]; rfl)
end Go.Proofs.Ytnhokodcmeekhaa
namespace Go.Proofs.Ytnhokodcmeekhaa
open Go Kern
/-! Ripe weeks, and those of peaks, lie next to each other -/
/-- What it says that the greatest sweetness is at least some number. -/
structure UpGe (m : Nat) (L H : Nat → Frac) (T : Int) (w : Nat) : Prop where
  h : T ≤ (H w).o
  left : ∀ a b, a < b → b < w → T * ((b : Int) - a) ≤ (L a).o * ((b : Int) - w) + (H b).o * ((w : Int) - a)
  right : ∀ a b, w < b → b < a → a < m → T * ((a : Int) - b) ≤ (H b).o * ((a : Int) - w) + (L a).o * ((w : Int) - b)
end Go.Proofs.Ytnhokodcmeekhaa
namespace Go.Proofs.Ytnhokodcmeekhaa
open Go Kern
/-! The law of weeks -/
structure WFacts (c : CropD) (least : Int) (w : Nat) : Prop where
  kl : (knownL c.n c.lo c.hi c.ss)[w]? = some (flF (lowF c.n (bndN c.n c.lo c.hi c.ss).1 w), ceF (upF c.n (bndN c.n c.lo c.hi c.ss).1 (bndN c.n c.lo c.hi c.ss).2 w))
  sure : (w : Int) ∈ wkL c.n (fromB (WF c.n c.lo c.hi c.ss) ⟨limI least, 1⟩) ↔ least ≤ flF (lowF c.n (bndN c.n c.lo c.hi c.ss).1 w)
  may1 : (w : Int) ∈ wkL c.n (fromB (UF c.n c.lo c.hi c.ss) ⟨limI least, 1⟩) → least ≤ ceF (upF c.n (bndN c.n c.lo c.hi c.ss).1 (bndN c.n c.lo c.hi c.ss).2 w)
  may2 : least < ceF (upF c.n (bndN c.n c.lo c.hi c.ss).1 (bndN c.n c.lo c.hi c.ss).2 w) → (w : Int) ∈ wkL c.n (fromB (UF c.n c.lo c.hi c.ss) ⟨limI least, 1⟩)
  may3 : (w : Int) ∈ wkL c.n (fromB (WF c.n c.lo c.hi c.ss) ⟨limI least, 1⟩) → (w : Int) ∈ wkL c.n (fromB (UF c.n c.lo c.hi c.ss) ⟨limI least, 1⟩)
structure CropF (c : CropD) (least : Int) : Prop where
  w : ∀ w, w < c.n → WFacts c least w
  top : ∃ t0, t0 < c.n ∧ ∃ T, topF c.n (LF c.n c.lo c.hi c.ss) = ⟨T, 1⟩ ∧ (LF c.n c.lo c.hi c.ss t0).o = T
  peaks : ∀ (i : Nat) (x y : Int), (wkL c.n (fromB (UF c.n c.lo c.hi c.ss) (topF c.n (LF c.n c.lo c.hi c.ss))))[i]? = some x → (wkL c.n (fromB (UF c.n c.lo c.hi c.ss) (topF c.n (LF c.n c.lo c.hi c.ss))))[i + 1]? = some y → y = x + 1
  nonemp : wkL c.n (fromB (UF c.n c.lo c.hi c.ss) (topF c.n (LF c.n c.lo c.hi c.ss))) ≠ []
  sures : ∀ (i : Nat) (x y : Int), (wkL c.n (fromB (WF c.n c.lo c.hi c.ss) ⟨limI least, 1⟩))[i]? = some x → (wkL c.n (fromB (WF c.n c.lo c.hi c.ss) ⟨limI least, 1⟩))[i + 1]? = some y → y = x + 1
end Go.Proofs.Ytnhokodcmeekhaa
namespace Go.Proofs.Ytnhokodcmeekhaa
open Go Kern
/-! What is known of less is within what is known of more: monotony in lows and highs -/
def q (x : Frac) : Rat := (x.o : Rat) / (x.u : Rat)
theorem ratpos {n : Int} (h : 0 < n) : (0 : Rat) < (n : Rat) := by
  have := Rat.intCast_lt_intCast.2 h
  exact this
theorem q_le {x y : Frac} (hx : 0 < x.u) (hy : 0 < y.u) : LeF x y ↔ q x ≤ q y := by
  have h1 := ratpos hx
  have h2 := ratpos hy
  unfold LeF q
  rw [← Rat.not_lt, Rat.lt_div_iff h1, ← Int.not_lt]
  have e : (y.o : Rat) / (y.u : Rat) * (x.u : Rat) = ((y.o : Rat) * x.u) / y.u := by grind
  rw [e, Rat.div_lt_iff h2, ← Rat.intCast_mul, ← Rat.intCast_mul, Rat.intCast_lt_intCast]
theorem q_minus {x y : Frac} (hx : 0 < x.u) (hy : 0 < y.u) : q (minusF x y) = q x - q y := by
  have h1 := ratpos hx
  have h2 := ratpos hy
  unfold q minusF
  simp only [Rat.intCast_sub, Rat.intCast_mul]
  grind
def cA (a b w : Int) : Rat := ((b : Rat) - w) / ((b : Rat) - a)
def cB (a b w : Int) : Rat := ((w : Rat) - a) / ((b : Rat) - a)
theorem ratne {a b : Int} (h : a ≠ b) : (b : Rat) - a ≠ 0 := by
  intro e
  have : (b : Rat) = a := by grind
  exact h (Rat.intCast_inj.1 this).symm
theorem c_one {a b w : Int} (h : a ≠ b) : cA a b w + cB a b w = 1 := by
  have := ratne h
  unfold cA cB
  grind
theorem q_line {a b w : Int} {x y : Frac} (hx : 0 < x.u) (hy : 0 < y.u) (h : a ≠ b) : q (lineF a x b y w) = q x * cA a b w + q y * cB a b w := by
  have h1 := ratpos hx
  have h2 := ratpos hy
  have h3 := ratne h
  have h4 := ratne (Ne.symm h)
  unfold lineF lineO
  split
  · unfold q cA cB
    simp only [Rat.intCast_sub, Rat.intCast_mul, Rat.intCast_add]
    grind
  · unfold q cA cB
    simp only [Rat.intCast_sub, Rat.intCast_mul, Rat.intCast_add]
    grind
theorem frac_nn {n d : Rat} (h : 0 ≤ n) (hd : 0 < d) : 0 ≤ n / d := by
  rw [← Rat.not_lt, Rat.div_lt_iff hd]
  grind
theorem ratlt {a b : Int} (h : a < b) : (0 : Rat) < (b : Rat) - a := by
  have := Rat.intCast_lt_intCast.2 h
  grind
theorem c_mid {a b w : Int} (h1 : a < w) (h2 : w < b) : 0 ≤ cA a b w ∧ 0 ≤ cB a b w := by
  have d := ratlt (show a < b by omega)
  have d1 := ratlt h1
  have d2 := ratlt h2
  exact ⟨frac_nn (by grind) d, frac_nn (by grind) d⟩
theorem c_out {a b w : Int} (h : (a < b ∧ b < w) ∨ (w < b ∧ b < a)) : 0 ≤ -cA a b w ∧ 0 ≤ cB a b w := by
  rcases h with ⟨h1, h2⟩ | ⟨h1, h2⟩
  · have d := ratlt h1
    have d1 := ratlt h2
    have e : -cA a b w = ((w : Rat) - b) / ((b : Rat) - a) := by unfold cA; grind
    rw [e]
    exact ⟨frac_nn (by grind) d, frac_nn (by grind) d⟩
  · have d := ratlt h1
    have d1 := ratlt h2
    have e : -cA a b w = ((b : Rat) - w) / ((a : Rat) - b) := by unfold cA; grind
    have e2 : cB a b w = ((a : Rat) - w) / ((a : Rat) - b) := by unfold cB; grind
    rw [e, e2]
    exact ⟨frac_nn (by grind) d1, frac_nn (by grind) d1⟩
theorem low_lip {m w : Nat} {L L' : Nat → Frac} {D : Rat} (hL : ∀ i, i < m → 0 < (L i).u) (hL' : ∀ i, i < m → 0 < (L' i).u) (h : ∀ i, i < m → q (L i) ≤ q (L' i) + D) (hw : w < m) : q (lowF m L w) ≤ q (lowF m L' w) + D := by
  have hlp : ∀ x ∈ (acrossL m w).map (fun p => lineF p.1 (L' p.1) p.2 (L' p.2) w), 0 < x.u := fun x hx => by
    obtain ⟨⟨i, k⟩, hp, rfl⟩ := List.mem_map.1 hx
    obtain ⟨h1, h2, h3⟩ := across_mem.1 hp
    exact line_pos (hL' i (by omega)) (hL' k h3) (by omega)
  obtain ⟨m1, m2, m3⟩ := fore_max _ _ (hL' w hw) hlp
  change 0 < (lowF m L' w).u at m1
  have m2' : q (L' w) ≤ q (lowF m L' w) := (q_le (hL' w hw) m1).1 m2
  have hw0 := h w hw
  rcases foreF_mem (bf := aboveB) (L w) ((acrossL m w).map fun p => lineF p.1 (L p.1) p.2 (L p.2) w) with e | e
  · have e' : lowF m L w = L w := e
    rw [e']; grind
  · obtain ⟨⟨i, k⟩, hp, e2⟩ := List.mem_map.1 e
    have e' : lowF m L w = lineF i (L i) k (L k) w := e2.symm
    obtain ⟨h1, h2, h3⟩ := across_mem.1 hp
    simp only [] at h1 h2 h3
    have hne : (i : Int) ≠ k := by omega
    have hx := m3 _ (List.mem_map_of_mem hp)
    simp only [] at hx
    have hx' := (q_le (line_pos (hL' i (by omega)) (hL' k h3) hne) m1).1 hx
    change q (lineF i (L' i) k (L' k) w) ≤ q (lowF m L' w) at hx'
    rw [e', q_line (hL i (by omega)) (hL k h3) hne]
    rw [q_line (hL' i (by omega)) (hL' k h3) hne] at hx'
    obtain ⟨c1, c2⟩ := c_mid (a := i) (b := k) (w := w) (by omega) (by omega)
    have c3 := c_one (w := w) hne
    have a1 := Rat.mul_le_mul_of_nonneg_right (h i (by omega)) c1
    have a2 := Rat.mul_le_mul_of_nonneg_right (h k h3) c2
    have a3 : D * cA i k w + D * cB i k w = D := by rw [← Rat.mul_add, c3, Rat.mul_one]
    grind
theorem low_mono {m w : Nat} {L L' : Nat → Frac} (hL : ∀ i, i < m → 0 < (L i).u) (hL' : ∀ i, i < m → 0 < (L' i).u) (h : ∀ i, i < m → LeF (L i) (L' i)) (hw : w < m) : LeF (lowF m L w) (lowF m L' w) := by
  rw [q_le (low_pos hL hw) (low_pos hL' hw)]
  have := low_lip (D := 0) hL hL' (fun i hi => by have := (q_le (hL i hi) (hL' i hi)).1 (h i hi); grind) hw
  grind
structure Nar (m : Nat) (L H L' H' : Nat → Frac) : Prop where
  pL : ∀ i, i < m → 0 < (L i).u
  pH : ∀ i, i < m → 0 < (H i).u
  pL' : ∀ i, i < m → 0 < (L' i).u
  pH' : ∀ i, i < m → 0 < (H' i).u
  lo : ∀ i, i < m → LeF (L i) (L' i)
  hi : ∀ i, i < m → LeF (H' i) (H i)
theorem Nar.up {m w : Nat} {L H L' H' : Nat → Frac} (h : Nar m L H L' H') (hw : w < m) : LeF (upF m L' H' w) (upF m L H w) := by
  obtain ⟨m1, m2, m3⟩ := fore_min _ _ (h.pH' w hw) (up_lines_pos h.pL' h.pH' hw)
  change 0 < (upF m L' H' w).u at m1
  have hup := up_pos h.pL h.pH hw
  rcases foreF_mem (bf := belowB) (H w) ((towardL m w).map fun p => lineF p.1 (L p.1) p.2 (H p.2) w) with e | e
  · have e' : upF m L H w = H w := e
    rw [e']
    exact LeF.trans m1 (h.pH' w hw) (h.pH w hw) m2 (h.hi w hw)
  · obtain ⟨⟨a, b⟩, hp, e2⟩ := List.mem_map.1 e
    have e' : upF m L H w = lineF a (L a) b (H b) w := e2.symm
    obtain ⟨h1, h2⟩ := toward_mem.1 hp
    simp only [] at h1 h2
    have hb : b < m := by omega
    have hne : (a : Int) ≠ b := by omega
    have hx := m3 _ (List.mem_map_of_mem hp)
    simp only [] at hx
    have hx' := (q_le m1 (line_pos (h.pL' a h1) (h.pH' b hb) hne)).1 hx
    change q (upF m L' H' w) ≤ q (lineF a (L' a) b (H' b) w) at hx'
    rw [e', q_le m1 (line_pos (h.pL a h1) (h.pH b hb) hne), q_line (h.pL a h1) (h.pH b hb) hne]
    rw [q_line (h.pL' a h1) (h.pH' b hb) hne] at hx'
    obtain ⟨c1, c2⟩ := c_out (a := a) (b := b) (w := w) (by omega)
    have a1 := Rat.mul_le_mul_of_nonneg_right ((q_le (h.pL a h1) (h.pL' a h1)).1 (h.lo a h1)) c1
    have a2 := Rat.mul_le_mul_of_nonneg_right ((q_le (h.pH' b hb) (h.pH b hb)).1 (h.hi b hb)) c2
    grind
theorem Nar.loss {m w o : Nat} {L H L' H' : Nat → Frac} (h : Nar m L H L' H') (hw : w < m) (ho : o < m) : LeF (lossF m L' H' w o) (lossF m L H w o) := by
  have hU := up_pos h.pL h.pH ho
  have hU' := up_pos h.pL' h.pH' ho
  have hR : ∀ i, i < m → 0 < (raisedL m L H o i).u := fun i hi => by unfold raisedL updF; split; (· exact hU); exact h.pL i hi
  have hR' : ∀ i, i < m → 0 < (raisedL m L' H' o i).u := fun i hi => by unfold raisedL updF; split; (· exact hU'); exact h.pL' i hi
  have hq := (q_le hU' hU).1 (h.up ho)
  have hl := low_lip (D := q (upF m L H o) - q (upF m L' H' o)) hR hR' (fun i hi => by
    unfold raisedL updF
    split
    · grind
    · have := (q_le (h.pL i hi) (h.pL' i hi)).1 (h.lo i hi)
      grind) hw
  have p1 := low_pos hR hw
  have p2 := low_pos hR' hw
  unfold lossF
  rw [q_le (Int.mul_pos hU' p2) (Int.mul_pos hU p1), q_minus hU' p2, q_minus hU p1]
  grind
theorem Nar.loss_pos {m w o : Nat} {L H : Nat → Frac} (hL : ∀ i, i < m → 0 < (L i).u) (hH : ∀ i, i < m → 0 < (H i).u) (hw : w < m) (ho : o < m) : 0 < (lossF m L H w o).u := by
  have hU := up_pos hL hH ho
  have hR : ∀ i, i < m → 0 < (raisedL m L H o i).u := fun i hi => by unfold raisedL updF; split; (· exact hU); exact hL i hi
  exact Int.mul_pos hU (low_pos hR hw)
theorem Nar.reg {m w : Nat} {L H L' H' : Nat → Frac} (h : Nar m L H L' H') (hw : w < m) : (0 < (regF m L' H' w).u ∧ 0 < (regF m L H w).u) ∧ LeF (regF m L' H' w) (regF m L H w) := by
  have hp : ∀ x ∈ (List.range m).map (lossF m L H w), 0 < x.u := fun x hx => by
    obtain ⟨o, ho, rfl⟩ := List.mem_map.1 hx
    exact Nar.loss_pos h.pL h.pH hw (by simpa using ho)
  have hp' : ∀ x ∈ (List.range m).map (lossF m L' H' w), 0 < x.u := fun x hx => by
    obtain ⟨o, ho, rfl⟩ := List.mem_map.1 hx
    exact Nar.loss_pos h.pL' h.pH' hw (by simpa using ho)
  obtain ⟨m1, m2, m3⟩ := fore_max _ ⟨0, 1⟩ (show (0 : Int) < 1 by decide) hp
  obtain ⟨n1, _, _⟩ := fore_max _ ⟨0, 1⟩ (show (0 : Int) < 1 by decide) hp'
  refine ⟨⟨n1, m1⟩, fore_le m2 fun x hx => ?_⟩
  obtain ⟨o, ho, rfl⟩ := List.mem_map.1 hx
  have ho' : o < m := by simpa using ho
  exact LeF.trans (Nar.loss_pos h.pL' h.pH' hw ho') (Nar.loss_pos h.pL h.pH hw ho') m1 (h.loss hw ho') (m3 _ (List.mem_map_of_mem ho))
theorem Nar.top {m : Nat} {L H L' H' : Nat → Frac} (h : Nar m L H L' H') (hm : 0 < m) : (0 < (topF m L).u ∧ 0 < (topF m L').u) ∧ LeF (topF m L) (topF m L') := by
  have hp : ∀ x ∈ (List.range (m - 1)).map (fun j => L' (j + 1)), 0 < x.u := fun x hx => by
    obtain ⟨o, ho, rfl⟩ := List.mem_map.1 hx
    have h0 : o < m - 1 := by simpa using ho
    exact h.pL' _ (by omega)
  have hp0 : ∀ x ∈ (List.range (m - 1)).map (fun j => L (j + 1)), 0 < x.u := fun x hx => by
    obtain ⟨o, ho, rfl⟩ := List.mem_map.1 hx
    have h0 : o < m - 1 := by simpa using ho
    exact h.pL _ (by omega)
  obtain ⟨m1, m2, m3⟩ := fore_max _ (L' 0) (h.pL' 0 hm) hp
  obtain ⟨n1, _, _⟩ := fore_max _ (L 0) (h.pL 0 hm) hp0
  refine ⟨⟨n1, m1⟩, fore_le (LeF.trans (h.pL 0 hm) (h.pL' 0 hm) m1 (h.lo 0 hm) m2) fun x hx => ?_⟩
  obtain ⟨o, ho, rfl⟩ := List.mem_map.1 hx
  have ho' : o < m - 1 := by simpa using ho
  exact LeF.trans (h.pL _ (by omega)) (h.pL' _ (by omega)) m1 (h.lo _ (by omega)) (m3 _ (List.mem_map_of_mem ho))
theorem fl_mono {x y : Frac} (hx : 0 < x.u) (hy : 0 < y.u) (h : LeF x y) : flF x ≤ flF y := by
  unfold flF
  rw [Int.le_ediv_iff_mul_le hy]
  have h1 : x.o / x.u * x.u ≤ x.o := Int.ediv_mul_le _ (by omega)
  unfold LeF at h
  have h2 : x.o / x.u * x.u * y.u ≤ x.o * y.u := Int.mul_le_mul_of_nonneg_right h1 (by omega)
  have h3 : x.o / x.u * y.u * x.u ≤ y.o * x.u := by
    have : x.o / x.u * y.u * x.u = x.o / x.u * x.u * y.u := by ac_rfl
    omega
  exact Int.le_of_mul_le_mul_right h3 hx
end Go.Proofs.Ytnhokodcmeekhaa
namespace Go.Proofs.Ytnhokodcmeekhaa
open Go Kern
/-! The law of weeks -/
theorem wkL_elem {m : Nat} {p : Nat → Bool} {x : Int} (h : x ∈ wkL m p) : 0 ≤ x ∧ x < m := by
  unfold wkL at h
  obtain ⟨j, hj, rfl⟩ := List.mem_map.1 h
  have := (List.mem_filter.1 hj).1
  have : j < m := by simpa using this
  omega
end Go.Proofs.Ytnhokodcmeekhaa
namespace Go.Proofs.Ytnhokodcmeekhaa
open Go Kern
/-! A crop with one more sample that is right, and lesser errors -/
def tight (c : CropD) (less : Int) (s : SampD) : SampD := ⟨s.week, s.val, max (max (s.val - c.sweet s.week.toNat) (c.sweet s.week.toNat - s.val)) (s.off - less)⟩
def bss (c : CropD) (less : Int) (x : Int × Int × Int) : List SampD := c.ss.map (tight c less) ++ [c.samp x]
theorem endS_narrow (w : Nat) (p p' : Int × Int) (s s' : SampD) (h1 : p.1 ≤ p'.1) (h2 : p'.2 ≤ p.2) (h3 : s'.week = s.week) (h4 : s.val - s.off ≤ s'.val - s'.off) (h5 : s'.val + s'.off ≤ s.val + s.off) : (endS w p s).1 ≤ (endS w p' s').1 ∧ (endS w p' s').2 ≤ (endS w p s).2 := by
  unfold endS
  rw [h3]
  split
  · simp only []; omega
  · exact ⟨h1, h2⟩
theorem endS_in (w : Nat) (p : Int × Int) (s : SampD) : p.1 ≤ (endS w p s).1 ∧ (endS w p s).2 ≤ p.2 := by
  unfold endS
  split
  · simp only []; omega
  · exact ⟨Int.le_refl _, Int.le_refl _⟩
theorem fold_narrow (w : Nat) (f : SampD → SampD) : ∀ (ss : List SampD) (p p' : Int × Int), (∀ s ∈ ss, (f s).week = s.week ∧ s.val - s.off ≤ (f s).val - (f s).off ∧ (f s).val + (f s).off ≤ s.val + s.off) → p.1 ≤ p'.1 → p'.2 ≤ p.2 → (ss.foldl (endS w) p).1 ≤ ((ss.map f).foldl (endS w) p').1 ∧ ((ss.map f).foldl (endS w) p').2 ≤ (ss.foldl (endS w) p).2
  | [], _, _, _, h1, h2 => ⟨h1, h2⟩
  | s :: r, p, p', h, h1, h2 => by
    have h0 := h s (.head _)
    have := endS_narrow w p p' s (f s) h1 h2 h0.1 h0.2.1 h0.2.2
    exact fold_narrow w f r _ _ (fun y hy => h y (.tail _ hy)) this.1 this.2
theorem tight_in {c : CropD} {less : Int} {s : SampD} (h : Right c.sweet s) (hl : 0 ≤ less) : (tight c less s).week = s.week ∧ s.val - s.off ≤ (tight c less s).val - (tight c less s).off ∧ (tight c less s).val + (tight c less s).off ≤ s.val + s.off := by
  unfold Right at h
  refine ⟨rfl, ?_, ?_⟩
  · show s.val - s.off ≤ s.val - max (max (s.val - c.sweet s.week.toNat) (c.sweet s.week.toNat - s.val)) (s.off - less)
    omega
  · show s.val + max (max (s.val - c.sweet s.week.toNat) (c.sweet s.week.toNat - s.val)) (s.off - less) ≤ s.val + s.off
    omega
theorem tight_right {c : CropD} {less : Int} {s : SampD} : Right c.sweet (tight c less s) := by
  unfold Right tight
  simp only []
  omega
structure Better (c : CropD) (tt : List SampD) : Prop where
  ok : fieldErr c.n c.lo c.hi tt = 0
  nc : ¬ HasClash c.n c.lo c.hi tt
  lo : ∀ w, w < c.n → flF (lowF c.n (bndN c.n c.lo c.hi c.ss).1 w) ≤ flF (lowF c.n (bndN c.n c.lo c.hi tt).1 w)
  hi : ∀ w, w < c.n → ceF (upF c.n (bndN c.n c.lo c.hi tt).1 (bndN c.n c.lo c.hi tt).2 w) ≤ ceF (upF c.n (bndN c.n c.lo c.hi c.ss).1 (bndN c.n c.lo c.hi c.ss).2 w)
  reg : ∀ w, w < c.n → ceF (RF c.n c.lo c.hi tt w) ≤ ceF (RF c.n c.lo c.hi c.ss w)
  pk : ∀ x ∈ wkL c.n (fromB (UF c.n c.lo c.hi tt) (topF c.n (LF c.n c.lo c.hi tt))), x ∈ wkL c.n (fromB (UF c.n c.lo c.hi c.ss) (topF c.n (LF c.n c.lo c.hi c.ss)))
theorem nar_better {c : CropD} (hc : c.Ok) {tt : List SampD} (h1 : fieldErr c.n c.lo c.hi c.ss = 0) (h2 : fieldErr c.n c.lo c.hi tt = 0) (hT : Truth c.n (LF c.n c.lo c.hi tt) (HF c.n c.lo c.hi tt) c.sweet)
    (h : ∀ w, (c.ss.foldl (endS w) (c.lo, c.hi)).1 ≤ (tt.foldl (endS w) (c.lo, c.hi)).1 ∧ (tt.foldl (endS w) (c.lo, c.hi)).2 ≤ (c.ss.foldl (endS w) (c.lo, c.hi)).2) : Better c tt := by
  have hn := n_bd c
  have hN : Nar c.n (LF c.n c.lo c.hi c.ss) (HF c.n c.lo c.hi c.ss) (LF c.n c.lo c.hi tt) (HF c.n c.lo c.hi tt) := by
    refine ⟨fun i hi => ?_, fun i hi => ?_, fun i hi => ?_, fun i hi => ?_, fun i hi => ?_, fun i hi => ?_⟩
    · rw [LF_ref h1 hi]; exact Int.one_pos
    · rw [HF_ref h1 hi]; exact Int.one_pos
    · rw [LF_ref h2 hi]; exact Int.one_pos
    · rw [HF_ref h2 hi]; exact Int.one_pos
    · rw [LF_ref h1 hi, LF_ref h2 hi]
      unfold LeF wF
      simp only [Int.mul_one]
      exact (h i).1
    · rw [HF_ref h1 hi, HF_ref h2 hi]
      unfold LeF wF
      simp only [Int.mul_one]
      exact (h i).2
  refine ⟨h2, hT.noHas h2, fun w hw => ?_, fun w hw => ?_, fun w hw => ?_, fun x hx => ?_⟩
  · exact fl_mono (low_pos hN.pL hw) (low_pos hN.pL' hw) (low_mono hN.pL hN.pL' hN.lo hw)
  · exact ce_mono (up_pos hN.pL' hN.pH' hw) (up_pos hN.pL hN.pH hw) (hN.up hw)
  · exact ce_mono (hN.reg hw).1.1 (hN.reg hw).1.2 (hN.reg hw).2
  · have hb := wkL_elem hx
    obtain ⟨w, rfl⟩ : ∃ w : Nat, x = w := ⟨x.toNat, by omega⟩
    have hw : w < c.n := by omega
    have h3 := (wkL_mem.1 hx).2
    refine wkL_mem.2 ⟨hw, ?_⟩
    obtain ⟨⟨t1, t2⟩, t3⟩ := hN.top (by omega)
    unfold fromB at h3 ⊢
    rw [Bool.not_eq_true', above_not] at h3 ⊢
    have u1 : 0 < (UF c.n c.lo c.hi tt w).u := up_pos hN.pL' hN.pH' hw
    have u2 : 0 < (UF c.n c.lo c.hi c.ss w).u := up_pos hN.pL hN.pH hw
    have u3 : LeF (UF c.n c.lo c.hi tt w) (UF c.n c.lo c.hi c.ss w) := hN.up hw
    exact LeF.trans t1 u1 u2 (LeF.trans t1 t2 u1 t3 h3) u3
theorem crop_better {c : CropD} (hc : c.Ok) {less : Int} {x : Int × Int × Int} (hl : 0 ≤ less) (hx : Byte x.1 ∧ Byte x.2.1 ∧ Byte x.2.2) : Better c (bss c less x) := by
  obtain ⟨h1, hR⟩ := crop_ss hc
  have hlen : c.ss.length ≤ 15 := by unfold CropD.ss; simp; omega
  obtain ⟨a1, a2, a3, a4⟩ := samp_ok hc hx
  have hR' : ∀ s ∈ bss c less x, Right c.sweet s := fun s hs => by
    rcases List.mem_append.1 hs with h | h
    · obtain ⟨y, hy, rfl⟩ := List.mem_map.1 h
      exact tight_right
    · have : s = c.samp x := by simpa using h
      subst this; exact a4
  have h2 : fieldErr c.n c.lo c.hi (bss c less x) = 0 := crop_valid hc _ (by unfold bss; simp; omega) fun s hs => by
    rcases List.mem_append.1 hs with h | h
    · obtain ⟨y, hy, rfl⟩ := List.mem_map.1 h
      obtain ⟨z, hz, rfl⟩ := List.mem_map.1 hy
      obtain ⟨b1, b2, b3, b4⟩ := samp_ok hc (hc.samples z (List.mem_of_mem_take hz))
      have b5 := tight_in (less := less) (show Right c.sweet (c.samp z) from b4) hl
      have b6 := tight_right (c := c) (less := less) (s := c.samp z)
      unfold Right at b6
      have b7 : (tight c less (c.samp z)).val = (c.samp z).val := rfl
      rw [b5.1, b7]
      rw [b7] at b5 b6
      omega
    · have : s = c.samp x := by simpa using h
      subst this; omega
  refine nar_better hc h1 h2 (crop_truth hc h2 hR') fun w => ?_
  have f1 := fold_narrow w (tight c less) c.ss (c.lo, c.hi) (c.lo, c.hi) (fun s hs => tight_in (hR s hs) hl) (Int.le_refl _) (Int.le_refl _)
  have f2 := endS_in w ((c.ss.map (tight c less)).foldl (endS w) (c.lo, c.hi)) (c.samp x)
  unfold bss
  rw [List.foldl_append]
  simp only [List.foldl_cons, List.foldl_nil]
  omega
end Go.Proofs.Ytnhokodcmeekhaa
namespace Go.Proofs.Ytnhokodcmeekhaa
open Go Kern
/-! The law of better samples: the samples -/
theorem samp_put {off : Nat} {vs : List Value} {g : SampD} : ∀ {ts : List SampD} {k : Nat} {s : SampD}, ts[k]? = some s → putL off vs s.cs = some g.cs → putL (k * 3 + off) vs (ts.map SampD.cs).flatten = some ((ts.set k g).map SampD.cs).flatten
  | [], _, _, hk, _ => by simp at hk
  | t :: r, 0, s, hk, h => by
    have : t = s := by simpa using hk
    subst this
    rw [Nat.zero_mul, Nat.zero_add]
    show putL off vs (t.cs ++ (r.map SampD.cs).flatten) = some (g.cs ++ (r.map SampD.cs).flatten)
    exact putL_app _ h
  | t :: r, k + 1, s, hk, h => by
    have ih := samp_put (ts := r) (k := k) (by simpa using hk) h
    show putL ((k + 1) * 3 + off) vs (t.cs ++ (r.map SampD.cs).flatten) = some (t.cs ++ ((r.set k g).map SampD.cs).flatten)
    rw [show (k + 1) * 3 + off = t.cs.length + (k * 3 + off) by show _ = 3 + _; omega]
    exact putL_behind ih
def stL (T : SampD → SampD) (ss : List SampD) (k : Nat) : List SampD := (ss.take k).map T ++ ss.drop k
theorem stL_get {T : SampD → SampD} {ss : List SampD} {k : Nat} {s : SampD} (h : ss[k]? = some s) : (stL T ss k)[k]? = some s := by
  have hk := (List.getElem?_eq_some_iff.1 h).1
  unfold stL
  rw [List.getElem?_append_right (by simp; omega)]
  simp only [List.length_map, List.length_take]
  rw [List.getElem?_drop, show k + (k - min k ss.length) = k by omega]
  exact h
theorem stL_set {T : SampD → SampD} {ss : List SampD} {k : Nat} {s : SampD} (h : ss[k]? = some s) : (stL T ss k).set k (T s) = stL T ss (k + 1) := by
  have hk := (List.getElem?_eq_some_iff.1 h).1
  have hs : ss.drop k = s :: ss.drop (k + 1) := by
    rw [List.drop_eq_getElem_cons hk]; congr 1
    exact (List.getElem?_eq_some_iff.1 h).2
  unfold stL
  rw [List.set_append_right _ _ (by simp; omega), List.take_add_one, h]
  simp only [List.length_map, List.length_take]
  rw [show k - min k ss.length = 0 by omega, hs]
  simp
theorem stL_all {T : SampD → SampD} {ss : List SampD} : stL T ss ss.length = ss.map T := by unfold stL; simp
theorem ones_samp : ∀ ss : List SampD, onesL (ss.map SampD.cs).flatten = true
  | [] => rfl
  | s :: r => by
    show onesL (s.cs ++ (r.map SampD.cs).flatten) = true
    rw [← onesL_eq, List.all_append, onesL_eq, onesL_eq, ones_samp r]; rfl
theorem app_R {n N : Nat} {s : St} {w y : Value} {l0 l : List (List Value)} (hx : OwnR n N s w l0) (hy : SlAt n s y l) (hn : ∀ x ∈ l0, x.length = n) (ho : onesL l.flatten = true) (hl : l0.length + l.length ≤ 100000) (hN : N ≤ s.next) :
    ∃ w' s', appV n w y s = some (w', s') ∧ OwnR n N s' w' (l0 ++ l) ∧ s.next ≤ s'.next ∧ ∀ i, i < N → s'.heap.get i = s.heap.get i := by
  have hx' := hx
  obtain ⟨b, rfl, h1, h2, h3⟩ := hx
  rw [app_own hx' hy hn ho hl]
  by_cases hl0 : l = []
  · subst hl0
    rw [if_pos rfl]
    refine ⟨_, _, rfl, ?_, Nat.le_refl _, fun i hi => rfl⟩
    rw [List.append_nil]; exact hx'
  · rw [if_neg hl0]
    refine ⟨_, _, rfl, ⟨(if l0 = [] then s else s.upded b .dead).next, ?_, ?_, Nat.lt_succ_self _, ?_⟩, ?_, fun i hi => ?_⟩
    · rw [List.length_append]; split <;> rfl
    · split <;> exact hN
    · rw [get_pushed_new, List.flatten_append, if_neg (by simp [hl0])]
    · split <;> exact Nat.le_succ _
    · split
      · exact get_pushed_old _ _ _ (by omega)
      · rw [get_pushed_old _ _ _ (by show i ≠ s.next; omega), get_upded_other _ _ _ _ (by omega)]
end Go.Proofs.Ytnhokodcmeekhaa
namespace Go.Proofs.Ytnhokodcmeekhaa
open Go Kern
/-! The law of better samples -/
noncomputable def nilV (v : Value) : Option Value := match v with
  | .pointer (some a) => some (.pointer (some a))
  | .iface t v => some (.iface t v)
  | .func (.func g) p q => some (.func (.func g) p q)
  | _ => none
@[simp] theorem vNil_eq (x : Operand) (ρ : Env) (h : Tree AObj) : vNil x ρ h = nilV (ρ x) := rfl
@[simp] theorem nilV_ptr (a : Addr) : nilV (.pointer (some a)) = some (.pointer (some a)) := rfl
@[simp] theorem newObj_24z {f : Fr} {pl0 : Array (Nat × Operand)} : Kern.newObj TT (.buildSlice 24 0 pl0) f = ob (fillL f.eval (placesA 3 pl0.toList) (repeatL [.int .i64 0, .int .i64 0, .int .i64 0] 0)) fun c => some (.cells c none) :=
  newObj_buildSlice 24 0 pl0 und_24 size_82 zero_82 rfl
set_option maxRecDepth 100000 in
set_option maxHeartbeats 4000000 in
theorem lawB_ev (c : CropD) (hc : c.Ok) (fv sv : Value) (y : Int × Int × Int) (d : Int) (s : St) (hf : SlAt 1 s fv (c.falls.map u8C)) (hs : SlAt 3 s sv (c.samples.map u8T)) (hy : Bytes3 y) (hd : 0 ≤ d ∧ d ≤ 255) :
    Ev TT 10 [cropV c fv sv, .agg #[.int .u8 y.1, .int .u8 y.2.1, .int .u8 y.2.2], .int .u8 d] s fun r _ => r = .bool true := by
  have hmd := fun s' (k : Keep s s') => made_ev c hc fv sv s' (hf.keep k) (hs.keep k)
  obtain ⟨af, cf, rfl⟩ := hf.shape
  obtain ⟨az, cz, rfl⟩ := hs.shape
  have hn := n_bd c
  unfold cropV at hmd ⊢
  simp only [List.length_map] at hmd ⊢
  have hB := crop_better hc (less := d) (x := y) hd.1 hy
  have hcsy : (c.samp y).cs = [.int .i64 (y.1 % c.n), .int .i64 (max 0 (c.sweet (y.1 % c.n).toNat - y.2.1 + y.2.2 % (2 * y.2.1 + 1))), .int .i64 y.2.1] := rfl
  obtain ⟨y0, y1, y2⟩ := y
  obtain ⟨hy0, hy1, hy2⟩ := hy
  unfold Byte at hy0 hy1 hy2
  simp only [] at hy0 hy1 hy2 hcsy ⊢
  have hhib := hi_bd hc
  have hnhi : ¬ 30000 < c.hi := by omega
  have hsr0 := sweet_range hc (w := 0) (by omega)
  have hlo0 : ¬ c.sweet 0 < c.lo := by omega
  obtain ⟨hSS, hRight⟩ := crop_ss hc
  have hnc := (crop_truth hc hSS hRight).noHas hSS
  have hssl : c.ss.length ≤ 15 := by unfold CropD.ss; simp; omega
  have hsw12 := fun w (hw : w < c.n) => sweet_nn hc (k := w) (by omega)
  have hwk : ∀ s ∈ c.ss, (0 ≤ s.week ∧ s.week < c.n) ∧ (0 ≤ s.val ∧ s.val ≤ 20000) ∧ (0 ≤ s.off ∧ s.off ≤ 255) := fun s hs => by
    obtain ⟨z, hz, rfl⟩ := List.mem_map.1 hs
    obtain ⟨b1, b2, b3, b4⟩ := samp_ok hc (hc.samples z (List.mem_of_mem_take hz))
    exact ⟨b1, b2, b3⟩
  refine Ev.intro (fn := Try.f10) rfl (by kernel_rfl) rfl rfl ?_
  apply zz
  refine Cd.ra (h := ?_)
  apply Run.by_eq
  · intro self
    conv => lhs; simp -implicitDefEqProofs (maxSteps := 300000) (disch := omega) [-getElem?_pos, -getElem?_neg]
  try (with_reducible refine Run.ret ?_)
  apply zz
  refine Cd.ra (h := ?_)
  apply Run.by_eq
  · intro self
    conv => lhs; simp -implicitDefEqProofs (maxSteps := 300000) (disch := omega) [-getElem?_pos, -getElem?_neg]
  try (with_reducible refine Run.ret ?_)
  apply zz
  refine Run.call ((hmd _ ⟨by (try simp only [pushed_next', upded_next']); omega, fun i hi => by simp -implicitDefEqProofs (disch := omega) []⟩).mono fun v w1 hv => ?_)
  obtain ⟨k1, q, sw, rfl, hq, hsw⟩ := hv
  have k1a := k1.1
  have k1b := k1.2
  try simp only [pushed_next', upded_next'] at k1a k1b hq
  have x5 : w1.heap.get (s.next + 1) = some (.cells [.int .u8 y0, .int .u8 y1, .int .u8 y2] none) := by rw [k1b _ (by omega)]; simp -implicitDefEqProofs (disch := omega)
  have hQ : SmAt w1 q c.ss := hq.sl (samp_len _)
  have hq1 := SlAt.one hQ
  obtain ⟨aw, cw, rfl⟩ := hsw.shape
  rw [List.length_map, List.length_map, List.length_range] at hsw
  have hne : (List.range c.n).map c.sweet ≠ [] := by intro h; have := congrArg List.length h; simp at this; omega
  obtain ⟨sb, so, sob, scs, sg, rfl, qsb, qso, qsc, hst⟩ := IntsAt.all hsw hne
  have hst2 := fun w (hw : w < c.n) => hst w (c.sweet w) (range_at hw)
  have vsw : veq 5 (Value.slice (some ⟨sb, so, none⟩) c.n cw) (Value.slice (some ⟨sb, so, none⟩) c.n cw) = true := veq_slice _ _ _ _ _
  have hst0 : scs[so]? = some (.int .i64 (c.sweet 0)) := hst2 0 (by omega)
  unfold fieldV
  rw [List.length_map, List.length_map, List.length_range]
  obtain ⟨aq, cq, rfl⟩ := hQ.shape
  rw [List.length_map] at hQ
  rw [List.length_map]
  have vq : veq 4 (Value.slice aq c.ss.length cq) (Value.slice aq c.ss.length cq) = true := slAt_veq hQ 3
  have hm0 : 0 < c.n := by omega
  have hq2 : oneV (Value.slice aq c.ss.length cq) = true := rfl
  apply Run.by_eq
  · intro self
    conv => lhs; simp -implicitDefEqProofs (maxSteps := 300000) (disch := omega) [-getElem?_pos, -getElem?_neg]
  try (with_reducible refine Run.ret ?_)
  apply zz
  refine Cd.mono (Q := fun x f2 s2 => x = Ex.normal ∧ f2.marks = [] ∧ f2.get 2 = .int .u8 d ∧ f2.get 4 = .pointer (some ⟨s.next + 1, 0, none⟩) ∧ f2.get 7 = .pointer (some ⟨w1.next, 0, none⟩) ∧ f2.get 8 = .slice (some ⟨sb, so, none⟩) c.n cw ∧ f2.get 46 = .bool false ∧ Keep w1 s2 ∧ w1.next < s2.next ∧ s2.heap.get w1.next = some (.cells [.int .i64 c.n, .int .i64 c.lo, .int .i64 c.hi, .slice aq c.ss.length cq] none)) ?_ ?_
  · apply zz
    refine Cd.drawn (pl := [(0, 0, false, false), (1, 1, false, false), (2, 3, false, false), (3, 0, false, false), (4, 8, false, false), (5, 24, false, false), (6, 63, false, false), (7, 127, false, false), (8, 255, false, false), (9, 511, false, false), (10, 1023, false, false), (11, 2047, false, false), (12, 4095, false, false)]) (by kernel_rfl) (by conv => lhs; simp only [List.map_cons, List.map_nil]) (by conv => lhs; simp [strip, ordered]) ?_
    apply Run.by_eq
    · intro self
      conv => lhs; simp -implicitDefEqProofs (maxSteps := 300000) (disch := omega) [filter_bt, -getElem?_pos, -getElem?_neg, qso, qsc, hst0, hm0, hlo0, hnhi, vsw]
    try (with_reducible refine Run.ret ?_)
    apply zz
    exact ⟨rfl, by simp, by simp, by simp, by simp, by simp, by simp, ⟨by (try simp only [pushed_next', upded_next']); omega, fun i hi => by simp -implicitDefEqProofs (disch := omega) []⟩, by simp, by simp -implicitDefEqProofs (disch := omega)⟩
  rintro x f s2 ⟨rfl, hm, g2, g4, g7, g8, g46, kp2, hnx, hP⟩
  apply zz
  apply Cd.ite rfl
  · conv => lhs; simp -implicitDefEqProofs (maxSteps := 300000) (disch := omega) [-getElem?_pos, -getElem?_neg, g46]
  all_goals intro c0
  all_goals try (cases c0; done)
  all_goals try simp only [Bool.not_eq_true', Bool.not_eq_false', decide_eq_true_eq, decide_eq_false_iff_not] at c0
  all_goals apply zz
  have hQ2 := hQ.keep kp2
  have qso2 := (kp2.2 _ qsb).trans qso
  have qsb2 : sb < s2.next := by have := kp2.1; omega
  have x52 := (kp2.2 _ (by omega)).trans x5
  have hx52 : s.next + 1 < s2.next := by have := kp2.1; omega
  clear hmd hf hs
  refine Cd.mono (Q := fun x f3 s3 => x = Ex.normal ∧ f3.marks = [] ∧ f3.get 2 = .int .u8 d ∧ f3.get 4 = .pointer (some ⟨s.next + 1, 0, none⟩) ∧ f3.get 7 = .pointer (some ⟨w1.next, 0, none⟩) ∧ f3.get 8 = .slice (some ⟨sb, so, none⟩) c.n cw ∧ f3.get 9 = .pointer (some ⟨s2.next, 0, none⟩) ∧ Keep s2 s3 ∧ s3.next = s2.next + 1 ∧ s3.heap.get s2.next = some (.cells [.int .i64 c.n, .int .i64 c.lo, .int .i64 c.hi, .slice aq c.ss.length cq] none)) ?_ ?_
  · apply zz
    refine Cd.ra (h := ?_)
    apply Run.by_eq
    · intro self
      conv => lhs; simp -implicitDefEqProofs (maxSteps := 300000) (disch := omega) [-getElem?_pos, -getElem?_neg, g7, hP, vq]
    try (with_reducible refine Run.ret ?_)
    apply zz
    exact ⟨rfl, by simp [hm], by simp [g2], by simp [g4], by simp [g7], by simp [g8], by simp, ⟨by (try simp only [pushed_next', upded_next']); omega, fun i hi => by simp -implicitDefEqProofs (disch := omega) []⟩, by simp, by simp -implicitDefEqProofs (disch := omega)⟩
  clear hm g2 g4 g7 g8 g46
  rintro x f s3 ⟨rfl, hm, g2, g4, g7, g8, g9, k3, hn3, hP9⟩
  apply zz
  have hP3 := (k3.2 _ hnx).trans hP
  have hQ3 := hQ2.keep k3
  have kx3 : Keep s3 (s3.pushed (.cells [] none)) := (Keep.refl _).pushed _
  have hO0 : OwnR 3 (s2.next + 1) (s3.pushed (.cells [] none)) (.slice (some ⟨s3.next, 0, none⟩) 0 0) [] := ⟨s3.next, rfl, by omega, Nat.lt_succ_self _, get_pushed_new _ _⟩
  obtain ⟨wv, s4, happ, hO4, hn4, hk4⟩ := app_R hO0 (hQ3.keep kx3) (fun x hx => by cases hx) (ones_samp c.ss) (by simp; omega) (by show s2.next + 1 ≤ s3.next + 1; omega)
  rw [List.nil_append] at hO4
  have hn4' : s3.next + 1 ≤ s4.next := hn4
  have z9 : s4.heap.get s2.next = _ := (hk4 _ (by omega)).trans ((kx3.2 _ (by omega)).trans hP9)
  obtain ⟨b5, rfl, hb51, hb52, hb53⟩ := hO4
  rw [List.length_map] at happ
  have hgg : (if c.ss.map SampD.cs = [] then none else some 3 : Option Nat) = if c.ss = [] then none else some 3 := by simp
  rw [hgg] at hb53
  refine Cd.mono (Q := fun x f5 s5 => x = Ex.normal ∧ f5.marks = [] ∧ f5.get 2 = .int .u8 d ∧ f5.get 4 = .pointer (some ⟨s.next + 1, 0, none⟩) ∧ f5.get 7 = .pointer (some ⟨w1.next, 0, none⟩) ∧ f5.get 8 = .slice (some ⟨sb, so, none⟩) c.n cw ∧ f5.get 9 = .pointer (some ⟨s2.next, 0, none⟩) ∧ Keep s2 s5 ∧ s2.next < s5.next ∧ s5.heap.get s2.next = some (.cells [.int .i64 c.n, .int .i64 c.lo, .int .i64 c.hi, .slice (some ⟨b5, 0, none⟩) c.ss.length c.ss.length] none) ∧ (s2.next < b5 ∧ b5 < s5.next) ∧ s5.heap.get b5 = some (.cells (c.ss.map SampD.cs).flatten (if c.ss = [] then none else some 3))) ?_ ?_
  · apply zz
    refine Cd.ra (h := ?_)
    apply Run.by_eq
    · intro self
      conv => lhs; simp -implicitDefEqProofs (maxSteps := 300000) (disch := omega) [-getElem?_pos, -getElem?_neg, g7, g9, hP3, happ, z9]
    try (with_reducible refine Run.ret ?_)
    apply zz
    refine ⟨rfl, by simp [hm], by simp [g2], by simp [g4], by simp [g7], by simp [g8], by simp [g9], ⟨by (try simp only [upded_next']); omega, fun i hi => ?_⟩, by (try simp only [upded_next']); omega, get_upded_same _ _ _, ⟨by omega, by (try simp only [upded_next']); omega⟩, ?_⟩
    · rw [get_upded_other _ _ _ _ (by omega), hk4 i (by omega), kx3.2 i (by omega)]; exact k3.2 i hi
    · rw [get_upded_other _ _ _ _ (by omega)]; exact hb53
  clear hm g2 g4 g7 g8 g9 happ hb52 hb53 z9 hO0 hk4 hn4 hn4' hP3 hQ3 kx3 hP9 hn3 k3
  rintro x f s5 ⟨rfl, hm, g2, g4, g7, g8, g9, k5, hn5, hP9, ⟨hb51, hb52⟩, hb53⟩
  apply zz
  have hT1 : stL (tight c d) c.ss 0 = c.ss := by simp [stL]
  apply zz
  refine Cd.ra (h := ?_)
  apply Run.by_eq
  · intro self
    conv => lhs; simp -implicitDefEqProofs (maxSteps := 300000) (disch := omega) [-getElem?_pos, -getElem?_neg, g9, hP9]
  try (with_reducible refine Run.ret ?_)
  apply zz
  refine Cd.mono (Q := fun x f6 s6 => x = Ex.exit 0 ∧ f6.marks = [] ∧ f6.get 4 = .pointer (some ⟨s.next + 1, 0, none⟩) ∧ f6.get 7 = .pointer (some ⟨w1.next, 0, none⟩) ∧ f6.get 8 = .slice (some ⟨sb, so, none⟩) c.n cw ∧ f6.get 9 = .pointer (some ⟨s2.next, 0, none⟩) ∧ Keep s2 s6 ∧ s2.next < s6.next ∧ s6.heap.get s2.next = some (.cells [.int .i64 c.n, .int .i64 c.lo, .int .i64 c.hi, .slice (some ⟨b5, 0, none⟩) c.ss.length c.ss.length] none) ∧ b5 < s6.next ∧ s6.heap.get b5 = some (.cells ((c.ss.map (tight c d)).map SampD.cs).flatten (if c.ss = [] then none else some 3))) ?_ ?_
  · refine Cd.inv (fun z f6 s6 => ∃ k : Nat, k ≤ c.ss.length ∧ z = c.ss.length - k ∧ f6.marks = [] ∧ f6.get 2 = .int .u8 d ∧ f6.get 4 = .pointer (some ⟨s.next + 1, 0, none⟩) ∧ f6.get 7 = .pointer (some ⟨w1.next, 0, none⟩) ∧ f6.get 8 = .slice (some ⟨sb, so, none⟩) c.n cw ∧ f6.get 9 = .pointer (some ⟨s2.next, 0, none⟩) ∧ f6.get 56 = .int .i64 c.ss.length ∧ f6.get 57 = .int .i64 k ∧ Keep s2 s6 ∧ s2.next < s6.next ∧ s6.heap.get s2.next = some (.cells [.int .i64 c.n, .int .i64 c.lo, .int .i64 c.hi, .slice (some ⟨b5, 0, none⟩) c.ss.length c.ss.length] none) ∧ b5 < s6.next ∧ s6.heap.get b5 = some (.cells ((stL (tight c d) c.ss k).map SampD.cs).flatten (if c.ss = [] then none else some 3))) c.ss.length ?_ ?_
    · exact ⟨0, by omega, rfl, by simp [hm], by simp [g2], by simp [g4], by simp [g7], by simp [g8], by simp [g9], by simp, by simp, k5, hn5, hP9, hb52, by rw [hT1]; exact hb53⟩
    clear hm g2 g4 g7 g8 g9 hP9 hb52 hb53 k5 hn5
    rintro z f s6 ⟨k, hk, rfl, hm, g2, g4, g7, g8, g9, g56, g57, k6, hn6, hP9, hb52, hb53⟩
    by_cases hlt : k < c.ss.length
    · have hlt' : (k : Int) < c.ss.length := by omega
      obtain ⟨x, hx⟩ : ∃ x, c.ss[k]? = some x := ⟨c.ss[k], by simp [hlt]⟩
      obtain ⟨⟨u1, u2⟩, u3, u4⟩ := hwk x (List.mem_of_getElem? hx)
      have hxs := stL_get (T := tight c d) hx
      have hq3 := sl_of_cells (c := c.ss.length) hb52 (samp_len _) hb53
      obtain ⟨wk, hwke⟩ : ∃ wk : Nat, x.week = wk := ⟨x.week.toNat, by omega⟩
      have hwkl : wk < c.n := by omega
      have hsW := hst2 wk hwkl
      have hsWb := hsw12 wk hwkl
      have qso6 := (k6.2 _ qsb2).trans qso2
      have htk := drop_flat (n := 3) (samp_len (stL (tight c d) c.ss k)) (i := k) (e := x.cs) (by rw [List.getElem?_map, hxs]; rfl)
      rw [show x.cs = [.int .i64 x.week, .int .i64 x.val, .int .i64 x.off] from rfl, hwke] at htk
      have p0 := (takeL_part htk).1
      have p1 := (takeL_part (takeL_part htk).2).1
      have p2 := (takeL_part (takeL_part (takeL_part htk).2).2).1
      have hput := samp_put (off := 2) (vs := [.int .i64 (max (max (x.val - c.sweet wk) (c.sweet wk - x.val)) (x.off - d))]) (g := tight c d x) hxs (by unfold tight SampD.cs; rw [hwke]; rfl)
      rw [stL_set hx, Int.max_assoc] at hput
      apply zz
      refine Cd.ra (h := ?_)
      apply Run.by_eq
      · intro self
        conv => lhs; simp -implicitDefEqProofs (maxSteps := 300000) (disch := omega) [-getElem?_pos, -getElem?_neg, g57, g56, hlt']
      try (with_reducible refine Run.ret ?_)
      apply zz
      apply Cd.ite rfl
      · conv => lhs; simp -implicitDefEqProofs (maxSteps := 300000) (disch := omega) [-getElem?_pos, -getElem?_neg]
      all_goals intro c1
      all_goals try (cases c1; done)
      all_goals try simp only [Bool.not_eq_true', Bool.not_eq_false', decide_eq_true_eq, decide_eq_false_iff_not] at c1
      all_goals apply zz
      apply zz
      refine Cd.ra (h := ?_)
      apply Run.by_eq
      · intro self
        conv => lhs; simp -implicitDefEqProofs (maxSteps := 300000) (disch := omega) [-getElem?_pos, -getElem?_neg, g57]
      try (with_reducible refine Run.ret ?_)
      apply zz
      refine Cd.ra (h := ?_)
      apply Run.by_eq
      · intro self
        conv => lhs; simp -implicitDefEqProofs (maxSteps := 300000) (disch := omega) [-getElem?_pos, -getElem?_neg, g9, hP9, hlt]
      try (with_reducible refine Run.ret ?_)
      apply zz
      generalize hX : ((stL (tight c d) c.ss k).map SampD.cs).flatten = X at *
      have p2' : X[k * 3 + 2]? = some (.int .i64 x.off) := p2
      apply zz
      refine Cd.drawnH (pl := [(0, 0, false, false), (1, 1, false, false), (2, 3, false, false), (3, 7, false, false), (4, 0, false, false), (5, 0, false, false), (6, 32, false, false), (7, 96, false, false), (8, 224, false, false), (9, 496, false, false), (10, 1008, false, false), (11, 2047, false, false), (12, 0, false, false), (13, 0, false, false), (14, 8192, false, false), (15, 24576, false, false), (16, 57344, false, false), (17, 126976, false, false), (18, 258048, false, false), (19, 0, false, false), (20, 524288, false, false), (21, 1572864, false, false), (22, 3670016, false, false), (23, 8384512, false, false), (24, 16777215, false, false), (25, 33554431, false, false)]) [false, false, false, false, false, false, false, false, false, false, false, false, false, false, false, false, false, false, false, false, false, false, false, false, false, false] (by kernel_rfl) (by decide) (by decide) (by conv => lhs; simp only [List.map_cons, List.map_nil]) (by conv => lhs; simp [strip, orderedG, flagH]) ?_
      apply Run.by_eq
      · intro self
        conv => lhs; simp -implicitDefEqProofs (maxSteps := 300000) (disch := omega) [-getElem?_pos, -getElem?_neg, hb53, p0, p1, g8, qso6, qsc, hsW, hwkl]
      try (with_reducible refine Run.ret ?_)
      apply zz
      refine Cd.ra (h := ?_)
      apply Run.by_eq
      · intro self
        conv => lhs; simp -implicitDefEqProofs (maxSteps := 300000) (disch := omega) [-getElem?_pos, -getElem?_neg, g2, hb53, p0, p1, p2', hput]
      try (with_reducible refine Run.ret ?_)
      apply zz
      refine Cd.ra (h := ?_)
      apply Run.by_eq
      · intro self
        conv => lhs; simp -implicitDefEqProofs (maxSteps := 300000) (disch := omega) [-getElem?_pos, -getElem?_neg, g57]
      try (with_reducible refine Run.ret ?_)
      apply zz
      refine LoopK.nm (c.ss.length - (k + 1)) (by omega) ⟨k + 1, by omega, rfl, by simp [hm], by simp [g2], by simp [g4], by simp [g7], by simp [g8], by simp [g9], by simp [g56], by simp, ⟨by (try simp only [upded_next']); exact k6.1, fun i hi => ?_⟩, by (try simp only [upded_next']); omega, ?_, by (try simp only [upded_next']); omega, get_upded_same _ _ _⟩
      · rw [get_upded_other _ _ _ _ (by omega)]; exact k6.2 i hi
      · rw [get_upded_other _ _ _ _ (by omega)]; exact hP9
    · obtain rfl : k = c.ss.length := by omega
      apply zz
      refine Cd.ra (h := ?_)
      apply Run.by_eq
      · intro self
        conv => lhs; simp -implicitDefEqProofs (maxSteps := 300000) (disch := omega) [-getElem?_pos, -getElem?_neg, g57, g56]
      try (with_reducible refine Run.ret ?_)
      apply zz
      apply Cd.ite rfl
      · conv => lhs; simp -implicitDefEqProofs (maxSteps := 300000) (disch := omega) [-getElem?_pos, -getElem?_neg]
      all_goals intro c1
      all_goals try (cases c1; done)
      all_goals try simp only [Bool.not_eq_true', Bool.not_eq_false', decide_eq_true_eq, decide_eq_false_iff_not] at c1
      all_goals apply zz
      rw [stL_all] at hb53
      exact ⟨rfl, by simp [hm], by simp [g4], by simp [g7], by simp [g8], by simp [g9], k6, hn6, hP9, hb52, hb53⟩
  clear hm g2 g4 g7 g8 g9 hP9 hb52 hb53 k5 hn5
  rintro x f s6 ⟨rfl, hm, g4, g7, g8, g9, k6, hn6, hP9, hb52, hb53⟩
  apply zz
  have qso6 := (k6.2 _ qsb2).trans qso2
  have x56 := (k6.2 _ hx52).trans x52
  have hmod0 := Int.emod_nonneg y0 (show (c.n : Int) ≠ 0 by omega)
  have hmod1 := Int.emod_lt_of_pos y0 (show (0 : Int) < c.n by omega)
  obtain ⟨wk, hwke⟩ : ∃ wk : Nat, y0 % (c.n : Int) = wk := ⟨(y0 % (c.n : Int)).toNat, by omega⟩
  have hwkl : wk < c.n := by omega
  have hsW := hst2 wk hwkl
  have hsWb := hsw12 wk hwkl
  have hr0 := intOp_rem .i64 y0 c.n hy0.1 (by omega)
  rw [hwke] at hr0 hcsy
  rw [Int.toNat_natCast] at hcsy
  have hr1 := intOp_rem .i64 y2 (2 * y1 + 1) hy2.1 (by omega)
  have hmr0 := Int.emod_nonneg y2 (show (2 * y1 + 1 : Int) ≠ 0 by omega)
  have hmr1 := Int.emod_lt_of_pos y2 (show (0 : Int) < 2 * y1 + 1 by omega)
  generalize hMR : y2 % (2 * y1 + 1) = MR at *
  have hP6 := (k6.2 _ hnx).trans hP
  refine Cd.mono (Q := fun x f7 s7 => x = Ex.normal ∧ f7.marks = [] ∧ f7.get 4 = .pointer (some ⟨s.next + 1, 0, none⟩) ∧ f7.get 7 = .pointer (some ⟨w1.next, 0, none⟩) ∧ f7.get 8 = .slice (some ⟨sb, so, none⟩) c.n cw ∧ f7.get 9 = .pointer (some ⟨s2.next, 0, none⟩) ∧ f7.get 13 = .pointer (some ⟨s6.next, 0, none⟩) ∧ Keep s6 s7 ∧ s7.next = s6.next + 1 ∧ s7.heap.get s6.next = some (.cells [.int .i64 wk, .int .i64 0, .int .i64 y1] none)) ?_ ?_
  · apply zz
    refine Cd.drawn (pl := [(0, 0, false, false), (1, 1, false, false), (2, 3, false, false), (3, 0, false, false), (4, 8, false, false), (5, 31, false, false), (6, 0, false, false), (7, 64, false, false), (8, 192, false, false), (9, 511, false, false), (10, 0, false, true), (11, 2047, true, false)]) (by kernel_rfl) (by conv => lhs; simp only [List.map_cons, List.map_nil]) (by conv => lhs; simp [strip, ordered]) ?_
    apply Run.by_eq
    · intro self
      conv => lhs; simp -implicitDefEqProofs (maxSteps := 300000) (disch := omega) [filter_bt, (show ∀ i, Nat.testBit 2047 i = decide (i < 11) from fun i => Nat.testBit_two_pow_sub_one 11 i), -getElem?_pos, -getElem?_neg, g4, g7, x56, hP6, hr0]
    try (with_reducible refine Run.ret ?_)
    apply zz
    exact ⟨rfl, by simp [hm], by simp [g4], by simp [g7], by simp [g8], by simp [g9], by simp, ⟨by (try simp only [pushed_next', upded_next']); omega, fun i hi => by simp -implicitDefEqProofs (disch := omega) []⟩, by simp, by simp -implicitDefEqProofs (disch := omega)⟩
  clear hm g4 g7 g8 g9
  rintro x f s7 ⟨rfl, hm, g4, g7, g8, g9, g13, k7, hn7, hX7⟩
  apply zz
  have qso7 := (k7.2 _ (by have := k6.1; omega)).trans qso6
  have x57 := (k7.2 _ (by have := k6.1; omega)).trans x56
  refine Cd.mono (Q := fun x f8 s8 => x = Ex.normal ∧ f8.marks = [] ∧ f8.get 7 = .pointer (some ⟨w1.next, 0, none⟩) ∧ f8.get 8 = .slice (some ⟨sb, so, none⟩) c.n cw ∧ f8.get 9 = .pointer (some ⟨s2.next, 0, none⟩) ∧ f8.get 13 = .pointer (some ⟨s6.next, 0, none⟩) ∧ Keep s6 s8 ∧ s8.next = s6.next + 1 ∧ s8.heap.get s6.next = some (.cells [.int .i64 wk, .int .i64 (max 0 (c.sweet wk - y1 + MR)), .int .i64 y1] none)) ?_ ?_
  · apply zz
    refine Cd.drawn (pl := [(0, 0, false, false), (1, 0, false, false), (2, 2, false, false), (3, 7, false, false), (4, 15, false, false), (5, 0, false, false), (6, 32, false, false), (7, 127, false, false), (8, 0, false, false), (9, 256, false, false), (10, 768, false, false), (11, 0, false, false), (12, 2048, false, false), (13, 6144, false, false), (14, 14336, false, false), (15, 32512, false, false), (16, 65535, false, false), (17, 131071, false, false), (18, 262143, false, false), (19, 524287, true, false)]) (by kernel_rfl) (by conv => lhs; simp only [List.map_cons, List.map_nil]) (by conv => lhs; simp [strip, ordered]) ?_
    apply Run.by_eq
    · intro self
      conv => lhs; simp -implicitDefEqProofs (maxSteps := 300000) (disch := omega) [filter_bt, (show ∀ i, Nat.testBit 524287 i = decide (i < 19) from fun i => Nat.testBit_two_pow_sub_one 19 i), -getElem?_pos, -getElem?_neg, g4, g8, g13, hX7, x57, qso7, qsc, hsW, hwkl, hr1]
    try (with_reducible refine Run.ret ?_)
    apply zz
    exact ⟨rfl, by simp [hm], by simp [g7], by simp [g8], by simp [g9], by simp [g13], ⟨by (try simp only [upded_next']); omega, fun i hi => by rw [get_upded_other _ _ _ _ (by omega)]; exact k7.2 i hi⟩, by (try simp only [upded_next']); omega, get_upded_same _ _ _⟩
  clear hm g4 g7 g8 g9 g13 hX7 x57 qso7
  rintro x f s8 ⟨rfl, hm, g7, g8, g9, g13, k8, hn8, hX8⟩
  apply zz
  have kx8 : Keep s8 (s8.pushed (.cells [.int .i64 wk, .int .i64 (max 0 (c.sweet wk - y1 + MR)), .int .i64 y1] none)) := (Keep.refl _).pushed _
  have hb58 := (kx8.2 _ (by omega)).trans ((k8.2 _ hb52).trans hb53)
  have hO8 : OwnR 3 (s2.next + 1) (s8.pushed (.cells [.int .i64 wk, .int .i64 (max 0 (c.sweet wk - y1 + MR)), .int .i64 y1] none)) (.slice (some ⟨b5, 0, none⟩) c.ss.length c.ss.length) ((c.ss.map (tight c d)).map SampD.cs) := ⟨b5, by rw [List.length_map, List.length_map], by omega, by show b5 < s8.next + 1; omega, by rw [hb58]; simp⟩
  have hY8 : SlAt 3 (s8.pushed (.cells [.int .i64 wk, .int .i64 (max 0 (c.sweet wk - y1 + MR)), .int .i64 y1] none)) (.slice (some ⟨s8.next, 0, none⟩) 1 1) [[.int .i64 wk, .int .i64 (max 0 (c.sweet wk - y1 + MR)), .int .i64 y1]] := sl_of_cells (l := [[.int .i64 wk, .int .i64 (max 0 (c.sweet wk - y1 + MR)), .int .i64 y1]]) (Nat.lt_succ_self _) (fun x hx => by rw [List.mem_singleton.1 hx]; rfl) (get_pushed_new _ _)
  obtain ⟨wv, s9, happ, hO9, hn9, hk9⟩ := app_R hO8 hY8 (samp_len _) rfl (by simp; omega) (by show s2.next + 1 ≤ s8.next + 1; omega)
  have hcl : ((c.ss.map (tight c d)).map SampD.cs) ++ [[.int .i64 wk, .int .i64 (max 0 (c.sweet wk - y1 + MR)), .int .i64 y1]] = (bss c d (y0, y1, y2)).map SampD.cs := by
    unfold bss; rw [List.map_append, List.map_cons, List.map_nil, hcsy]
  rw [hcl] at hO9
  have hn9' : s8.next + 1 ≤ s9.next := hn9
  have hP98 := (kx8.2 _ (by omega)).trans ((k8.2 _ hn6).trans hP9)
  have z9 : s9.heap.get s2.next = _ := (hk9 _ (by omega)).trans hP98
  have hP98' := (k8.2 _ hn6).trans hP9
  obtain ⟨b9, rfl, hb91, hb92, hb93⟩ := hO9
  have hsl9 := sl_of_cells (c := (bss c d (y0, y1, y2)).length) hb92 (samp_len _) hb93
  rw [List.length_map] at happ hsl9
  have hbl : (bss c d (y0, y1, y2)).length = c.ss.length + 1 := by unfold bss; simp
  generalize bss c d (y0, y1, y2) = BS at *
  refine Cd.mono (Q := fun x f10 s10 => x = Ex.normal ∧ f10.marks = [] ∧ f10.get 7 = .pointer (some ⟨w1.next, 0, none⟩) ∧ f10.get 8 = .slice (some ⟨sb, so, none⟩) c.n cw ∧ f10.get 9 = .pointer (some ⟨s2.next, 0, none⟩) ∧ Keep s2 s10 ∧ s2.next < s10.next ∧ s10.heap.get s2.next = some (.cells [.int .i64 c.n, .int .i64 c.lo, .int .i64 c.hi, .slice (some ⟨b9, 0, none⟩) BS.length BS.length] none) ∧ SmAt s10 (.slice (some ⟨b9, 0, none⟩) BS.length BS.length) BS) ?_ ?_
  · apply zz
    refine Cd.ra (h := ?_)
    apply Run.by_eq
    · intro self
      conv => lhs; simp -implicitDefEqProofs (maxSteps := 300000) (disch := omega) [-getElem?_pos, -getElem?_neg, g9, g13, hP98', hX8, happ, z9]
    try (with_reducible refine Run.ret ?_)
    apply zz
    refine ⟨rfl, by simp [hm], by simp [g7], by simp [g8], by simp [g9], ⟨by (try simp only [upded_next']); have := k6.1; omega, fun i hi => ?_⟩, by (try simp only [upded_next']); omega, get_upded_same _ _ _, ?_⟩
    · rw [get_upded_other _ _ _ _ (by omega), hk9 i (by omega), kx8.2 i (by have := k6.1; omega), k8.2 i (by have := k6.1; omega)]; exact k6.2 i hi
    · have h := sl_of_cells (s := s9.upded s2.next (.cells [.int .i64 c.n, .int .i64 c.lo, .int .i64 c.hi, .slice (some ⟨b9, 0, none⟩) BS.length BS.length] none)) (c := BS.length) (b := b9) (by show b9 < s9.next; omega) (samp_len BS) (by rw [get_upded_other _ _ _ _ (by omega)]; exact hb93)
      rw [List.length_map] at h
      exact h
  clear hm g7 g8 g9 g13 happ hsl9 hb93 hb92 hb91 z9 hP98 hP98' hY8 hO8 hb58 kx8 hk9 hn9 hn9' hX8 hn8 k8 k7 hn7 hP6 hP9 hb52 hb53 k6 hn6 hT1 x56 x52 qso6
  rintro x f s10 ⟨rfl, hm, g7, g8, g9, k10, hn10, hP9, hQ9⟩
  apply zz
  have hP7 := (k10.2 _ hnx).trans hP
  have hnx7 : w1.next < s10.next := by have := k10.1; omega
  have hQ7 := hQ2.keep k10
  have qso10 := (k10.2 _ qsb2).trans qso2
  have qsb10 : sb < s10.next := by have := k10.1; omega
  have vq9 : veq 4 (Value.slice (some ⟨b9, 0, none⟩) BS.length BS.length) (Value.slice (some ⟨b9, 0, none⟩) BS.length BS.length) = true := slAt_veq hQ9 3
  have hkn := fun s' h => known_ev c.n c.lo c.hi (.slice aq c.ss.length cq) c.ss s' h (by omega)
  have hpk := fun s' h => peaks_ev c.n c.lo c.hi (.slice aq c.ss.length cq) c.ss s' h (by omega)
  have hrg := fun w s' h => regret_ev c.n c.lo c.hi w (.slice aq c.ss.length cq) c.ss s' h (by omega)
  have hkn9 := fun s' h => known_ev c.n c.lo c.hi (.slice (some ⟨b9, 0, none⟩) BS.length BS.length) BS s' h (by omega)
  have hpk9 := fun s' h => peaks_ev c.n c.lo c.hi (.slice (some ⟨b9, 0, none⟩) BS.length BS.length) BS s' h (by omega)
  have hrg9 := fun w s' h => regret_ev c.n c.lo c.hi w (.slice (some ⟨b9, 0, none⟩) BS.length BS.length) BS s' h (by omega)
  unfold fieldV at hkn hpk hrg hkn9 hpk9 hrg9
  obtain ⟨hB1, hB2, hB3, hB4, hB5, hB6⟩ := hB
  clear hr0 hr1 hMR hmr0 hmr1 hsW hsWb hcsy hmod0 hmod1
  refine Cd.mono (Q := fun x f s => x = Ex.normal ∧ f.marks = [] ∧ f.get 7 = .pointer (some ⟨w1.next, 0, none⟩) ∧ f.get 8 = .slice (some ⟨sb, so, none⟩) c.n cw ∧ f.get 9 = .pointer (some ⟨s2.next, 0, none⟩) ∧ f.get 15 = .int .i64 0 ∧ Keep s10 s ∧ ∃ kv, f.get 14 = kv ∧ SpAt s kv (knownL c.n c.lo c.hi c.ss)) ?_ ?_
  · apply zz
    refine Cd.ra (h := ?_)
    apply Run.by_eq
    · intro self
      conv => lhs; simp -implicitDefEqProofs (maxSteps := 300000) (disch := omega) [-getElem?_pos, -getElem?_neg, g7, hP7, vq]
    try (with_reducible refine Run.ret ?_)
    apply zz
    refine Run.call ((hkn _ hQ7).mono fun v w3 hv => ?_)
    obtain ⟨k3, kv, e, rfl, hK⟩ := hv
    have hK2 : e = 0 ∧ SpAt w3 kv (knownL c.n c.lo c.hi c.ss) := by
      rcases hK with ⟨h, _⟩ | ⟨_, _, _, h⟩ | ⟨_, h, g, _⟩
      · exact absurd hSS h
      · exact absurd h hnc
      · refine ⟨h, ?_⟩
        simp only [Int.toNat_natCast] at g
        rw [knownL_rows] at g; exact g
    obtain ⟨rfl, hkv⟩ := hK2
    have ho := SlAt.one hkv
    apply Run.by_eq
    · intro self
      conv => lhs; simp -implicitDefEqProofs (maxSteps := 300000) (disch := omega) [-getElem?_pos, -getElem?_neg]
    try (with_reducible refine Run.ret ?_)
    apply zz
    exact ⟨rfl, by simp [hm], by simp [g7], by simp [g8], by simp [g9], by simp, k3, kv, by simp, hkv⟩
  clear hm g7 g8 g9
  rintro x f s11 ⟨rfl, hm, g7, g8, g9, g15, k11, kv, g14, hkv⟩
  apply zz
  have hP9b := (k11.2 _ hn10).trans hP9
  refine Cd.mono (Q := fun x f s => x = Ex.normal ∧ f.marks = [] ∧ f.get 7 = .pointer (some ⟨w1.next, 0, none⟩) ∧ f.get 8 = .slice (some ⟨sb, so, none⟩) c.n cw ∧ f.get 9 = .pointer (some ⟨s2.next, 0, none⟩) ∧ f.get 15 = .int .i64 0 ∧ Keep s10 s ∧ f.get 14 = kv ∧ SpAt s kv (knownL c.n c.lo c.hi c.ss) ∧ f.get 17 = .int .i64 0 ∧ ∃ kv', f.get 16 = kv' ∧ SpAt s kv' (knownL c.n c.lo c.hi BS)) ?_ ?_
  · apply zz
    refine Cd.ra (h := ?_)
    apply Run.by_eq
    · intro self
      conv => lhs; simp -implicitDefEqProofs (maxSteps := 300000) (disch := omega) [-getElem?_pos, -getElem?_neg, g9, hP9b, vq9]
    try (with_reducible refine Run.ret ?_)
    apply zz
    refine Run.call ((hkn9 _ (hQ9.keep k11)).mono fun v w3 hv => ?_)
    obtain ⟨k3, kv', e, rfl, hK⟩ := hv
    have hK2 : e = 0 ∧ SpAt w3 kv' (knownL c.n c.lo c.hi BS) := by
      rcases hK with ⟨h, _⟩ | ⟨_, _, _, h⟩ | ⟨_, h, g, _⟩
      · exact absurd hB1 h
      · exact absurd h hB2
      · refine ⟨h, ?_⟩
        simp only [Int.toNat_natCast] at g
        rw [knownL_rows] at g; exact g
    obtain ⟨rfl, hkv'⟩ := hK2
    have ho := SlAt.one hkv'
    apply Run.by_eq
    · intro self
      conv => lhs; simp -implicitDefEqProofs (maxSteps := 300000) (disch := omega) [-getElem?_pos, -getElem?_neg]
    try (with_reducible refine Run.ret ?_)
    apply zz
    exact ⟨rfl, by simp [hm], by simp [g7], by simp [g8], by simp [g9], by simp [g15], k11.trans k3, by simp [g14], hkv.keep k3, by simp, kv', by simp, hkv'⟩
  clear hm g7 g8 g9 g14 g15 hkv hP9b k11
  rintro x f s12 ⟨rfl, hm, g7, g8, g9, g15, k12, g14, hkv, g17, kv', g16, hkv'⟩
  apply zz
  have hP7b := (k12.2 _ hnx7).trans hP7
  refine Cd.mono (Q := fun x f s => x = Ex.normal ∧ f.marks = [] ∧ f.get 7 = .pointer (some ⟨w1.next, 0, none⟩) ∧ f.get 8 = .slice (some ⟨sb, so, none⟩) c.n cw ∧ f.get 9 = .pointer (some ⟨s2.next, 0, none⟩) ∧ f.get 15 = .int .i64 0 ∧ Keep s10 s ∧ f.get 14 = kv ∧ SpAt s kv (knownL c.n c.lo c.hi c.ss) ∧ f.get 17 = .int .i64 0 ∧ f.get 16 = kv' ∧ SpAt s kv' (knownL c.n c.lo c.hi BS) ∧ f.get 19 = .int .i64 0 ∧ ∃ pv, f.get 18 = pv ∧ IntsAt s pv (wkL c.n (fromB (UF c.n c.lo c.hi c.ss) (topF c.n (LF c.n c.lo c.hi c.ss))))) ?_ ?_
  · apply zz
    refine Cd.ra (h := ?_)
    apply Run.by_eq
    · intro self
      conv => lhs; simp -implicitDefEqProofs (maxSteps := 300000) (disch := omega) [-getElem?_pos, -getElem?_neg, g7, hP7b, vq]
    try (with_reducible refine Run.ret ?_)
    apply zz
    refine Run.call ((hpk _ (hQ7.keep k12)).mono fun v w4 hv => ?_)
    obtain ⟨k4, pv, e, rfl, hK⟩ := hv
    obtain ⟨rfl, hpv⟩ := (hK.mode hSS).2 hnc
    have ho := SlAt.one hpv
    apply Run.by_eq
    · intro self
      conv => lhs; simp -implicitDefEqProofs (maxSteps := 300000) (disch := omega) [-getElem?_pos, -getElem?_neg]
    try (with_reducible refine Run.ret ?_)
    apply zz
    exact ⟨rfl, by simp [hm], by simp [g7], by simp [g8], by simp [g9], by simp [g15], k12.trans k4, by simp [g14], hkv.keep k4, by simp [g17], by simp [g16], hkv'.keep k4, by simp, pv, by simp, hpv⟩
  clear hm g7 g8 g9 g14 g15 g16 g17 hkv hkv' hP7b k12
  rintro x f s13 ⟨rfl, hm, g7, g8, g9, g15, k13, g14, hkv, g17, g16, hkv', g19, pv, g18, hpv⟩
  apply zz
  have hP9b := (k13.2 _ hn10).trans hP9
  refine Cd.mono (Q := fun x f s => x = Ex.normal ∧ f.marks = [] ∧ f.get 7 = .pointer (some ⟨w1.next, 0, none⟩) ∧ f.get 8 = .slice (some ⟨sb, so, none⟩) c.n cw ∧ f.get 9 = .pointer (some ⟨s2.next, 0, none⟩) ∧ f.get 15 = .int .i64 0 ∧ Keep s10 s ∧ f.get 14 = kv ∧ SpAt s kv (knownL c.n c.lo c.hi c.ss) ∧ f.get 17 = .int .i64 0 ∧ f.get 16 = kv' ∧ SpAt s kv' (knownL c.n c.lo c.hi BS) ∧ f.get 19 = .int .i64 0 ∧ f.get 18 = pv ∧ IntsAt s pv (wkL c.n (fromB (UF c.n c.lo c.hi c.ss) (topF c.n (LF c.n c.lo c.hi c.ss)))) ∧ f.get 21 = .int .i64 0 ∧ ∃ pv', f.get 20 = pv' ∧ IntsAt s pv' (wkL c.n (fromB (UF c.n c.lo c.hi BS) (topF c.n (LF c.n c.lo c.hi BS))))) ?_ ?_
  · apply zz
    refine Cd.ra (h := ?_)
    apply Run.by_eq
    · intro self
      conv => lhs; simp -implicitDefEqProofs (maxSteps := 300000) (disch := omega) [-getElem?_pos, -getElem?_neg, g9, hP9b, vq9]
    try (with_reducible refine Run.ret ?_)
    apply zz
    refine Run.call ((hpk9 _ (hQ9.keep k13)).mono fun v w4 hv => ?_)
    obtain ⟨k4, pv', e, rfl, hK⟩ := hv
    obtain ⟨rfl, hpv'⟩ := (hK.mode hB1).2 hB2
    have ho := SlAt.one hpv'
    apply Run.by_eq
    · intro self
      conv => lhs; simp -implicitDefEqProofs (maxSteps := 300000) (disch := omega) [-getElem?_pos, -getElem?_neg]
    try (with_reducible refine Run.ret ?_)
    apply zz
    exact ⟨rfl, by simp [hm], by simp [g7], by simp [g8], by simp [g9], by simp [g15], k13.trans k4, by simp [g14], hkv.keep k4, by simp [g17], by simp [g16], hkv'.keep k4, by simp [g19], by simp [g18], hpv.keep k4, by simp, pv', by simp, hpv'⟩
  clear hm g7 g8 g9 g14 g15 g16 g17 g18 g19 hkv hkv' hpv hP9b k13
  rintro x f s14 ⟨rfl, hm, g7, g8, g9, g15, k14, g14, hkv, g17, g16, hkv', g19, g18, hpv, g21, pv', g20, hpv'⟩
  apply zz
  have hKl : ∀ (tt : List SampD) (w : Nat), w < c.n → (knownL c.n c.lo c.hi tt)[w]? = some (flF (lowF c.n (bndN c.n c.lo c.hi tt).1 w), ceF (upF c.n (bndN c.n c.lo c.hi tt).1 (bndN c.n c.lo c.hi tt).2 w)) := fun tt w hw => by
    unfold knownL; rw [List.getElem?_map, List.getElem?_range hw]; rfl
  have tK := hKl c.ss
  have tK' := hKl BS
  have hKlen : (knownL c.n c.lo c.hi c.ss).length = c.n := by simp [knownL]
  have hKlen' : (knownL c.n c.lo c.hi BS).length = c.n := by simp [knownL]
  have hl1 := wkL_len c.n (fromB (UF c.n c.lo c.hi c.ss) (topF c.n (LF c.n c.lo c.hi c.ss)))
  have hl2 := wkL_len c.n (fromB (UF c.n c.lo c.hi BS) (topF c.n (LF c.n c.lo c.hi BS)))
  have hRG : ∀ w x e, w < c.n → RegA c.n c.lo c.hi c.ss (w : Nat) x e → e = 0 ∧ x = ceF (RF c.n c.lo c.hi c.ss w) := fun w x e hw h => by
    have := h.okw hSS hnc (by simp [weekB]; omega)
    rw [Int.toNat_natCast] at this; exact this
  have hRG' : ∀ w x e, w < c.n → RegA c.n c.lo c.hi BS (w : Nat) x e → e = 0 ∧ x = ceF (RF c.n c.lo c.hi BS w) := fun w x e hw h => by
    have := h.okw hB1 hB2 (by simp [weekB]; omega)
    rw [Int.toNat_natCast] at this; exact this
  clear hKl hkn hkn9 hpk hpk9
  generalize knownL c.n c.lo c.hi c.ss = KL at *
  generalize knownL c.n c.lo c.hi BS = KM at *
  generalize wkL c.n (fromB (UF c.n c.lo c.hi c.ss) (topF c.n (LF c.n c.lo c.hi c.ss))) = PK at *
  generalize wkL c.n (fromB (UF c.n c.lo c.hi BS) (topF c.n (LF c.n c.lo c.hi BS))) = PM at *
  generalize RF c.n c.lo c.hi c.ss = R at *
  generalize RF c.n c.lo c.hi BS = R' at *
  generalize lowF c.n (bndN c.n c.lo c.hi c.ss).1 = A at *
  generalize upF c.n (bndN c.n c.lo c.hi c.ss).1 (bndN c.n c.lo c.hi c.ss).2 = B at *
  generalize lowF c.n (bndN c.n c.lo c.hi BS).1 = A' at *
  generalize upF c.n (bndN c.n c.lo c.hi BS).1 (bndN c.n c.lo c.hi BS).2 = B' at *
  obtain ⟨ak, ck, rfl⟩ := hkv.shape
  rw [List.length_map, hKlen] at hkv g14
  obtain ⟨am, cm, rfl⟩ := hkv'.shape
  rw [List.length_map, hKlen'] at hkv' g16
  obtain ⟨ap, cp, rfl⟩ := hpv'.shape
  rw [List.length_map] at hpv' g20
  have vk : veq 5 (Value.slice ak c.n ck) (Value.slice ak c.n ck) = true := slAt_veq hkv 4
  have vm : veq 5 (Value.slice am c.n cm) (Value.slice am c.n cm) = true := slAt_veq hkv' 4
  refine Cd.mono (Q := fun x f s => x = Ex.normal ∧ f.marks = [] ∧ f.get 7 = .pointer (some ⟨w1.next, 0, none⟩) ∧ f.get 8 = .slice (some ⟨sb, so, none⟩) c.n cw ∧ f.get 9 = .pointer (some ⟨s2.next, 0, none⟩) ∧ f.get 14 = .slice ak c.n ck ∧ f.get 16 = .slice am c.n cm ∧ f.get 18 = pv ∧ f.get 20 = .slice ap PM.length cp ∧ f.get 184 = .bool false ∧ s = s14) ?_ ?_
  · apply zz
    refine Cd.ra (h := ?_)
    apply Run.by_eq
    · intro self
      conv => lhs; simp -implicitDefEqProofs (maxSteps := 300000) (disch := omega) [-getElem?_pos, -getElem?_neg, g8, g14, g15, g16, g17, g19, g21]
    try (with_reducible refine Run.ret ?_)
    apply zz
    exact ⟨rfl, by simp [hm], by simp [g7], by simp [g8], by simp [g9], by simp [g14], by simp [g16], by simp [g18], by simp [g20], by simp, rfl⟩
  clear hm g7 g8 g9 g14 g15 g16 g17 g18 g19 g20 g21
  rintro x f s15 ⟨rfl, hm, g7, g8, g9, g14, g16, g18, g20, g184, rfl⟩
  apply zz
  apply Cd.ite rfl
  · conv => lhs; simp -implicitDefEqProofs (maxSteps := 300000) (disch := omega) [-getElem?_pos, -getElem?_neg, g184]
  all_goals intro c0
  all_goals try (cases c0; done)
  all_goals try simp only [Bool.not_eq_true', Bool.not_eq_false', decide_eq_true_eq, decide_eq_false_iff_not] at c0
  all_goals apply zz
  apply zz
  refine Cd.ra (h := ?_)
  apply Run.by_eq
  · intro self
    conv => lhs; simp -implicitDefEqProofs (maxSteps := 300000) (disch := omega) [-getElem?_pos, -getElem?_neg, g20]
  try (with_reducible refine Run.ret ?_)
  apply zz
  refine Cd.mono (Q := fun x f s => x = Ex.exit 2 ∧ f.marks = [] ∧ f.get 7 = .pointer (some ⟨w1.next, 0, none⟩) ∧ f.get 8 = .slice (some ⟨sb, so, none⟩) c.n cw ∧ f.get 9 = .pointer (some ⟨s2.next, 0, none⟩) ∧ f.get 14 = .slice ak c.n ck ∧ f.get 16 = .slice am c.n cm ∧ Keep s15 s) (Cd.inv (fun z f s => ∃ k : Nat, k ≤ PM.length ∧ z = PM.length - k ∧ f.marks = [] ∧ f.get 7 = .pointer (some ⟨w1.next, 0, none⟩) ∧ f.get 8 = .slice (some ⟨sb, so, none⟩) c.n cw ∧ f.get 9 = .pointer (some ⟨s2.next, 0, none⟩) ∧ f.get 14 = .slice ak c.n ck ∧ f.get 16 = .slice am c.n cm ∧ f.get 18 = pv ∧ f.get 185 = .slice ap PM.length cp ∧ f.get 186 = .int .i64 PM.length ∧ f.get 187 = .int .i64 k ∧ Keep s15 s) PM.length ?_ ?_) ?_
  · exact ⟨0, by omega, rfl, by simp [hm], by simp [g7], by simp [g8], by simp [g9], by simp [g14], by simp [g16], by simp [g18], by simp, by simp, by simp, Keep.refl _⟩
  · clear hm g7 g8 g9 g14 g16 g18 g20 g184
    rintro z f s16 ⟨k, hk, rfl, hm, g7, g8, g9, g14, g16, g18, g185, g186, g187, k16⟩
    by_cases hlt : k < PM.length
    · have hlt' : (k : Int) < PM.length := by omega
      obtain ⟨x, hx⟩ : ∃ x, PM[k]? = some x := ⟨PM[k], by simp [hlt]⟩
      obtain ⟨b, off, o, cs, gg, rfl, hb, ho, hcs, ht⟩ := IntsAt.at (hpv'.keep k16) hx
      have hd1 : decide (x ∈ PK) = true := by simpa using hB6 x (List.mem_of_getElem? hx)
      apply zz
      refine Cd.ra (h := ?_)
      apply Run.by_eq
      · intro self
        conv => lhs; simp -implicitDefEqProofs (maxSteps := 300000) (disch := omega) [-getElem?_pos, -getElem?_neg, g186, g187, hlt']
      try (with_reducible refine Run.ret ?_)
      apply zz
      apply Cd.ite rfl
      · conv => lhs; simp -implicitDefEqProofs (maxSteps := 300000) (disch := omega) [-getElem?_pos, -getElem?_neg]
      all_goals intro c1
      all_goals try (cases c1; done)
      all_goals try simp only [Bool.not_eq_true', Bool.not_eq_false', decide_eq_true_eq, decide_eq_false_iff_not] at c1
      all_goals apply zz
      apply zz
      refine Cd.ra (h := ?_)
      apply Run.by_eq
      · intro self
        conv => lhs; simp -implicitDefEqProofs (maxSteps := 300000) (disch := omega) [-getElem?_pos, -getElem?_neg, g185, g187, hlt, ho, hcs, ht]
      try (with_reducible refine Run.ret ?_)
      apply zz
      refine Cd.ra (h := ?_)
      apply Run.by_eq
      · intro self
        conv => lhs; simp -implicitDefEqProofs (maxSteps := 300000) (disch := omega) [-getElem?_pos, -getElem?_neg, g18]
      try (with_reducible refine Run.ret ?_)
      apply zz
      refine Run.call ((has_ev _ PK x _ (hpv.keep k16) (by omega)).mono fun v wa hv => ?_)
      obtain ⟨rfl, ka⟩ := hv
      rw [hd1]
      apply Run.by_eq
      · intro self
        conv => lhs; simp -implicitDefEqProofs (maxSteps := 300000) (disch := omega) [-getElem?_pos, -getElem?_neg]
      try (with_reducible refine Run.ret ?_)
      apply zz
      apply Cd.ite rfl
      · conv => lhs; simp -implicitDefEqProofs (maxSteps := 300000) (disch := omega) [-getElem?_pos, -getElem?_neg]
      all_goals intro c2
      all_goals try (cases c2; done)
      all_goals try simp only [Bool.not_eq_true', Bool.not_eq_false', decide_eq_true_eq, decide_eq_false_iff_not] at c2
      all_goals apply zz
      apply zz
      refine Cd.ra (h := ?_)
      apply Run.by_eq
      · intro self
        conv => lhs; simp -implicitDefEqProofs (maxSteps := 300000) (disch := omega) [-getElem?_pos, -getElem?_neg, g187]
      try (with_reducible refine Run.ret ?_)
      apply zz
      exact LoopK.nm (PM.length - (k + 1)) (by omega) ⟨k + 1, by omega, rfl, by simp [hm], by simp [g7], by simp [g8], by simp [g9], by simp [g14], by simp [g16], by simp [g18], by simp [g185], by simp [g186], by simp, k16.trans ka⟩
    · obtain rfl : k = PM.length := by omega
      apply zz
      refine Cd.ra (h := ?_)
      apply Run.by_eq
      · intro self
        conv => lhs; simp -implicitDefEqProofs (maxSteps := 300000) (disch := omega) [-getElem?_pos, -getElem?_neg, g186, g187]
      try (with_reducible refine Run.ret ?_)
      apply zz
      apply Cd.ite rfl
      · conv => lhs; simp -implicitDefEqProofs (maxSteps := 300000) (disch := omega) [-getElem?_pos, -getElem?_neg]
      all_goals intro c1
      all_goals try (cases c1; done)
      all_goals try simp only [Bool.not_eq_true', Bool.not_eq_false', decide_eq_true_eq, decide_eq_false_iff_not] at c1
      all_goals apply zz
      exact ⟨rfl, by simp [hm], by simp [g7], by simp [g8], by simp [g9], by simp [g14], by simp [g16], k16⟩
  clear hm g7 g8 g9 g14 g16 g18 g20 g184
  rintro x f s17 ⟨rfl, hm, g7, g8, g9, g14, g16, k17⟩
  apply zz
  have k17' := k14.trans k17
  have hkvb := hkv.keep k17
  have hkvb' := hkv'.keep k17
  clear hkv hkv' hpv hpv'
  apply zz
  refine Cd.ra (h := ?_)
  apply Run.by_eq
  · intro self
    conv => lhs; simp -implicitDefEqProofs (maxSteps := 300000) (disch := omega) [-getElem?_pos, -getElem?_neg, g8]
  try (with_reducible refine Run.ret ?_)
  apply zz
  refine Cd.mono (Q := fun x f s => x = Ex.exit 4 ∧ f.marks = []) (Cd.inv (fun z f s => ∃ w : Nat, w ≤ c.n ∧ z = c.n - w ∧ f.marks = [] ∧ f.get 7 = .pointer (some ⟨w1.next, 0, none⟩) ∧ f.get 9 = .pointer (some ⟨s2.next, 0, none⟩) ∧ f.get 14 = .slice ak c.n ck ∧ f.get 16 = .slice am c.n cm ∧ f.get 197 = .int .i64 c.n ∧ f.get 198 = .int .i64 w ∧ Keep s17 s) c.n ?_ ?_) ?_
  · exact ⟨0, by omega, rfl, by simp [hm], by simp [g7], by simp [g9], by simp [g14], by simp [g16], by simp, by simp, Keep.refl _⟩
  · clear hm g7 g8 g9 g14 g16
    rintro z f s18 ⟨w, hw, rfl, hm, g7, g9, g14, g16, g197, g198, k18⟩
    by_cases hlt : w < c.n
    · have hlt' : (w : Int) < c.n := by omega
      have ks := k17'.trans k18
      have hP7b := (ks.2 _ hnx7).trans hP7
      have f1 := hB3 w hlt
      have f2 := hB4 w hlt
      have f3 := hB5 w hlt
      have t1 := tK w hlt
      have t2 := tK' w hlt
      apply zz
      refine Cd.ra (h := ?_)
      apply Run.by_eq
      · intro self
        conv => lhs; simp -implicitDefEqProofs (maxSteps := 300000) (disch := omega) [-getElem?_pos, -getElem?_neg, g197, g198, hlt']
      try (with_reducible refine Run.ret ?_)
      apply zz
      apply Cd.ite rfl
      · conv => lhs; simp -implicitDefEqProofs (maxSteps := 300000) (disch := omega) [-getElem?_pos, -getElem?_neg]
      all_goals intro c1
      all_goals try (cases c1; done)
      all_goals try simp only [Bool.not_eq_true', Bool.not_eq_false', decide_eq_true_eq, decide_eq_false_iff_not] at c1
      all_goals apply zz
      apply zz
      refine Cd.ra (h := ?_)
      apply Run.by_eq
      · intro self
        conv => lhs; simp -implicitDefEqProofs (maxSteps := 300000) (disch := omega) [-getElem?_pos, -getElem?_neg, g198]
      try (with_reducible refine Run.ret ?_)
      apply zz
      refine Cd.mono (Q := fun x f s => x = Ex.normal ∧ f.marks = [] ∧ f.get 7 = .pointer (some ⟨w1.next, 0, none⟩) ∧ f.get 9 = .pointer (some ⟨s2.next, 0, none⟩) ∧ f.get 14 = .slice ak c.n ck ∧ f.get 16 = .slice am c.n cm ∧ f.get 197 = .int .i64 c.n ∧ f.get 198 = .int .i64 w ∧ f.get 24 = .int .i64 w ∧ f.get 25 = .int .i64 (ceF (R w)) ∧ f.get 26 = .int .i64 0 ∧ Keep s17 s) ?_ ?_
      · apply zz
        refine Cd.ra (h := ?_)
        apply Run.by_eq
        · intro self
          conv => lhs; simp -implicitDefEqProofs (maxSteps := 300000) (disch := omega) [-getElem?_pos, -getElem?_neg, g7, hP7b, vq]
        try (with_reducible refine Run.ret ?_)
        apply zz
        refine Run.call ((hrg w _ (hQ7.keep ks)).mono fun v wa hv => ?_)
        obtain ⟨ka, rg, e, rfl, hK⟩ := hv
        obtain ⟨rfl, rfl⟩ := hRG w rg e hlt hK
        apply Run.by_eq
        · intro self
          conv => lhs; simp -implicitDefEqProofs (maxSteps := 300000) (disch := omega) [-getElem?_pos, -getElem?_neg]
        try (with_reducible refine Run.ret ?_)
        apply zz
        exact ⟨rfl, by simp [hm], by simp [g7], by simp [g9], by simp [g14], by simp [g16], by simp [g197], by simp [g198], by simp, by simp, by simp, k18.trans ka⟩
      clear hm g7 g9 g14 g16 g197 g198 hP7b ks k18
      rintro x f s19 ⟨rfl, hm, g7, g9, g14, g16, g197, g198, g24, g25, g26, k19⟩
      apply zz
      have ks := k17'.trans k19
      have hP9b := (ks.2 _ hn10).trans hP9
      refine Cd.mono (Q := fun x f s => x = Ex.normal ∧ f.marks = [] ∧ f.get 7 = .pointer (some ⟨w1.next, 0, none⟩) ∧ f.get 9 = .pointer (some ⟨s2.next, 0, none⟩) ∧ f.get 14 = .slice ak c.n ck ∧ f.get 16 = .slice am c.n cm ∧ f.get 197 = .int .i64 c.n ∧ f.get 198 = .int .i64 w ∧ f.get 24 = .int .i64 w ∧ f.get 25 = .int .i64 (ceF (R w)) ∧ f.get 26 = .int .i64 0 ∧ f.get 27 = .int .i64 (ceF (R' w)) ∧ f.get 28 = .int .i64 0 ∧ Keep s17 s) ?_ ?_
      · apply zz
        refine Cd.ra (h := ?_)
        apply Run.by_eq
        · intro self
          conv => lhs; simp -implicitDefEqProofs (maxSteps := 300000) (disch := omega) [-getElem?_pos, -getElem?_neg, g9, g24, hP9b, vq9]
        try (with_reducible refine Run.ret ?_)
        apply zz
        refine Run.call ((hrg9 w _ (hQ9.keep ks)).mono fun v wa hv => ?_)
        obtain ⟨ka, rg, e, rfl, hK⟩ := hv
        obtain ⟨rfl, rfl⟩ := hRG' w rg e hlt hK
        apply Run.by_eq
        · intro self
          conv => lhs; simp -implicitDefEqProofs (maxSteps := 300000) (disch := omega) [-getElem?_pos, -getElem?_neg]
        try (with_reducible refine Run.ret ?_)
        apply zz
        exact ⟨rfl, by simp [hm], by simp [g7], by simp [g9], by simp [g14], by simp [g16], by simp [g197], by simp [g198], by simp [g24], by simp [g25], by simp [g26], by simp, by simp, k19.trans ka⟩
      clear hm g7 g9 g14 g16 g197 g198 g24 g25 g26 hP9b ks k19
      rintro x f s20 ⟨rfl, hm, g7, g9, g14, g16, g197, g198, g24, g25, g26, g27, g28, k20⟩
      apply zz
      obtain ⟨kb0, koff, ko, kcs, kg, rfl, kqb, kqo, kqc, kqt⟩ := SpAt.at (hkvb.keep k20) t1
      obtain ⟨mb0, moff, mo, mcs, mg, rfl, mqb, mqo, mqc, mqt⟩ := SpAt.at (hkvb'.keep k20) t2
      have kc0 := (takeL_part kqt).1
      have kc1 := (takeL_part (takeL_part kqt).2).1
      have mc0 := (takeL_part mqt).1
      have mc1 := (takeL_part (takeL_part mqt).2).1
      clear kqt mqt hkvb hkvb' t1 t2 tK tK'
      simp only [] at kc0 kc1 mc0 mc1
      generalize flF (A w) = LO at *
      generalize ceF (B w) = HI at *
      generalize flF (A' w) = LO' at *
      generalize ceF (B' w) = HI' at *
      generalize ceF (R w) = RW at *
      generalize ceF (R' w) = RW' at *
      have n1 : ¬ LO' < LO := by omega
      have n2 : ¬ HI < HI' := by omega
      have n3 : ¬ RW < RW' := by omega
      apply zz
      refine Cd.drawnH (pl := [(0, 0, false, false), (1, 1, false, false), (2, 3, false, false), (3, 7, false, false), (4, 15, false, false), (5, 31, false, false), (6, 63, false, false), (7, 127, false, false), (8, 127, false, false), (9, 511, false, false), (10, 1023, false, false), (11, 2047, false, false), (12, 127, false, false), (13, 127, false, false), (14, 12415, false, false), (15, 28799, false, false), (16, 61567, false, false), (17, 131071, false, false), (18, 262143, false, false), (19, 524287, false, false), (20, 1048575, false, false), (21, 1048575, false, false), (22, 4194303, false, false), (23, 8388607, false, false), (24, 16777215, false, false), (25, 1048575, false, false), (26, 1048575, false, false), (27, 101711871, false, false), (28, 235929599, false, false), (29, 504365055, false, false), (30, 1073741823, false, false), (31, 2147483647, false, false), (32, 4294967295, false, false), (33, 8589934591, false, false), (34, 8589934591, false, false), (35, 34359738367, false, false), (36, 68719476735, false, false)]) [false, false, false, false, false, false, false, false, false, false, false, false, false, false, false, false, false, false, false, false, false, false, false, false, false, false, false, false, false, false, false, false, false, false, false, false, false] (by kernel_rfl) (by decide) (by decide) (by conv => lhs; simp only [List.map_cons, List.map_nil]) (by conv => lhs; simp [strip, orderedG, flagH]) ?_
      apply Run.by_eq
      · intro self
        conv => lhs; simp -implicitDefEqProofs (maxSteps := 300000) (disch := omega) [-getElem?_pos, -getElem?_neg, g14, g16, g24, g25, g26, g27, g28, kqo, kqc, kc0, kc1, mqo, mqc, mc0, mc1, hlt, vk, vm, n1, n2, n3]
      try (with_reducible refine Run.ret ?_)
      apply zz
      apply Cd.ite rfl
      · conv => lhs; simp -implicitDefEqProofs (maxSteps := 300000) (disch := omega) [-getElem?_pos, -getElem?_neg]
      all_goals intro c2
      all_goals try (cases c2; done)
      all_goals try simp only [Bool.not_eq_true', Bool.not_eq_false', decide_eq_true_eq, decide_eq_false_iff_not] at c2
      all_goals apply zz
      apply zz
      refine Cd.ra (h := ?_)
      apply Run.by_eq
      · intro self
        conv => lhs; simp -implicitDefEqProofs (maxSteps := 300000) (disch := omega) [-getElem?_pos, -getElem?_neg, g198]
      try (with_reducible refine Run.ret ?_)
      apply zz
      exact LoopK.nm (c.n - (w + 1)) (by omega) ⟨w + 1, by omega, rfl, by simp [hm], by simp [g7], by simp [g9], by simp [g14], by simp [g16], by simp [g197], by simp, k20⟩
    · obtain rfl : w = c.n := by omega
      apply zz
      refine Cd.ra (h := ?_)
      apply Run.by_eq
      · intro self
        conv => lhs; simp -implicitDefEqProofs (maxSteps := 300000) (disch := omega) [-getElem?_pos, -getElem?_neg, g197, g198]
      try (with_reducible refine Run.ret ?_)
      apply zz
      apply Cd.ite rfl
      · conv => lhs; simp -implicitDefEqProofs (maxSteps := 300000) (disch := omega) [-getElem?_pos, -getElem?_neg]
      all_goals intro c1
      all_goals try (cases c1; done)
      all_goals try simp only [Bool.not_eq_true', Bool.not_eq_false', decide_eq_true_eq, decide_eq_false_iff_not] at c1
      all_goals apply zz
      exact ⟨rfl, by simp [hm]⟩
  clear hm g7 g8 g9 g14 g16
  rintro x f s18 ⟨rfl, hm⟩
  apply zz
  refine Cd.ra (h := ?_)
  apply Run.by_eq
  · intro self
    conv => lhs; simp -implicitDefEqProofs (maxSteps := 300000) (disch := omega) [-getElem?_pos, -getElem?_neg]
  try (with_reducible refine Run.ret ?_)
  apply zz
  refine Run.call ((works_ev _).mono fun v wk hv => ?_)
  obtain ⟨rfl, hwk⟩ := hv
  apply Run.by_eq
  · intro self
    conv => lhs; simp -implicitDefEqProofs (maxSteps := 300000) (disch := omega) [-getElem?_pos, -getElem?_neg]
  try (with_reducible refine Run.ret ?_)
  apply zz
  apply Leave.mk (by first | exact .inl rfl | exact .inr rfl) (by simp only [Fr.marks_put, fr0_marks, hm])
  · conv => lhs; simp -implicitDefEqProofs (disch := omega) [Try.results10, hm]
  rfl
end Go.Proofs.Ytnhokodcmeekhaa
namespace Go.Proofs.Ytnhokodcmeekhaa
open Go Kern
/-! The law of clashes -/
end Go.Proofs.Ytnhokodcmeekhaa
namespace Go.Proofs.Ytnhokodcmeekhaa
open Go Kern RowKit
/-- A slice of the world whose elements are known, cell by cell. -/
def SlW (W : World) (n : Nat) (v : Value) (l : List (List Value)) : Prop :=
  (l = [] ∧ v = .slice none 0 0) ∨ ∃ (b off cap : Nat) (C : Array Value) (e : TypeId) (fr : Nat × Nat), v = .slice (some ⟨b, off, none⟩) l.length cap ∧ W.heap[b]? = some (.cells C e fr) ∧
    (l ≠ [] → off + l.flatten.length ≤ C.size ∧ (C.toList.drop off).take l.flatten.length = l.flatten)
theorem romAt_pushed {s : St} {o : AObj} {i : Nat} (h : i ≠ s.next) : romAt (s.pushed o).heap i = romAt s.heap i := by
  unfold romAt; rw [get_pushed_old _ _ _ h]
theorem WRel_rom {N : Nat} {σ : Ren} {s : St} {w : World} (hw : WRel N σ s w) {b sh : Nat} {c : List Value} {C : Array Value} {e : TypeId} {fr : Nat × Nat} (hb : w.heap[b]? = some (.cells C e fr)) (hN : b < N) (hs : sh + c.length ≤ C.size)
    (h : LRel σ c ((C.toList.drop sh).take c.length)) : WRel N (σ.add s.next b sh none) (s.pushed (.rom c)) w := by
  have hle := Ren.le_add (b := b) (sh := sh) (x := none) (hw.fresh (Nat.le_refl s.next))
  have hlt : b < w.heap.size := (Array.getElem?_eq_some_iff.1 hb).1
  refine ⟨hw.base, ?_, ?_, ?_, ?_⟩
  · intro i b' sh' x' hi
    by_cases ei : i = s.next
    · subst ei
      rw [Ren.add_same] at hi; cases hi
      have : romAt (s.pushed (.rom c)).heap s.next = true := by unfold romAt; rw [get_pushed_new]; rfl
      exact ⟨⟨fun k => (by rw [this] at k; cases k), fun _ => hN⟩, hlt⟩
    · rw [Ren.add_ne ei] at hi
      rw [romAt_pushed ei]
      exact hw.lt hi
  · intro i hi
    rw [Ren.add_ne (by have : s.next + 1 ≤ i := hi; omega)]
    exact hw.fresh (by have : s.next + 1 ≤ i := hi; omega)
  · intro i b' sh' x' o hi ho
    by_cases ei : i = s.next
    · subst ei
      rw [Ren.add_same] at hi; cases hi
      rw [get_pushed_new] at ho; cases ho
      exact ⟨_, hb, .rom rfl hs (h.mono hle)⟩
    · rw [Ren.add_ne ei] at hi
      rw [get_pushed_old _ _ _ ei] at ho
      obtain ⟨O, h1, h2⟩ := hw.real hi ho
      exact ⟨O, h1, h2.mono hle⟩
  · intro i j b' sh1 x1 sh2 x2 o1 o2 hi hj h1 h2 d1 d2 hr
    by_cases ei : i = s.next
    · subst ei
      rw [get_pushed_new] at h1; cases h1; cases hr
    · rw [Ren.add_ne ei] at hi
      rw [get_pushed_old _ _ _ ei] at h1
      by_cases ej : j = s.next
      · subst ej
        rw [Ren.add_same] at hj; cases hj
        have : romAt s.heap i = false := by unfold romAt; rw [h1]; exact hr
        exact absurd ((hw.lt hi).1.1 this) (by omega)
      · rw [Ren.add_ne ej] at hj
        rw [get_pushed_old _ _ _ ej] at h2
        exact hw.inj hi hj h1 h2 d1 d2 hr
/-- A slice of the world gets a read-only block of the calculation. -/
theorem attach {N : Nat} {σ : Ren} {s : St} {w : World} (hw : WRel N σ s w) (hN : N = w.heap.size) {n : Nat} {v : Value} {l : List (List Value)} (h : SlW w n v l) (hl : ∀ x ∈ l, x.length = n) (hc : l.flatten.all closed1 = true) :
    ∃ τ s' v', σ.le τ ∧ WRel N τ s' w ∧ VRel τ v' v ∧ SlAt n s' v' l ∧ Keep s s' := by
  rcases h with ⟨rfl, rfl⟩ | ⟨b, off, cap, C, e, fr, rfl, hb, hf⟩
  · exact ⟨σ, s, .slice none 0 0, σ.le_refl, hw, .sliceNil _ _, .nil 0, Keep.refl _⟩
  have hlt : b < w.heap.size := (Array.getElem?_eq_some_iff.1 hb).1
  by_cases he : l = []
  · subst he
    have hw2 := WRel_rom hw (sh := 0) (c := []) hb (by omega) (by simp) (by simpa using LRel.nil)
    refine ⟨_, _, .slice (some ⟨s.next, off, none⟩) 0 cap, Ren.le_add (hw.fresh (Nat.le_refl _)), hw2, ?_, ?_, (Keep.refl s).pushed _⟩
    · have := VRel.slice (σ := σ.add s.next b 0 none) (i := s.next) (o := off) (o' := off) (b := b) (s := 0) (l := 0) (c := cap) (c' := cap) (x := none) Ren.add_same ⟨rfl, rfl⟩
      rw [Nat.zero_add] at this
      exact this
    · exact SlAt.mk (l := []) (Nat.lt_succ_self _) (get_pushed_new _ _) rfl (fun i e h => by simp at h)
  · obtain ⟨h1, h2⟩ := hf he
    have hw2 := WRel_rom hw (sh := off) (c := l.flatten) hb (by omega) h1 (by rw [h2]; exact closedL_rel hc)
    refine ⟨_, _, .slice (some ⟨s.next, 0, none⟩) l.length cap, Ren.le_add (hw.fresh (Nat.le_refl _)), hw2, ?_, ?_, (Keep.refl s).pushed _⟩
    · exact VRel.slice (σ := σ.add s.next b off none) (i := s.next) (o := 0) (o' := 0) (b := b) (s := off) (l := l.length) (c := cap) (c' := cap) (x := none) Ren.add_same ⟨rfl, rfl⟩
    · exact SlAt.mk (Nat.lt_succ_self _) (get_pushed_new _ _) rfl (fun i e h => by rw [Nat.zero_add]; exact drop_flat hl h)
theorem stubOk : StubOk Try.prog TT := StubOk.none rfl
/-- What the calculation finds true holds of the call in the world. -/
theorem calls_of_ev {g : FuncId} {args : List Value} {s : St} (h : Ev TT g args s fun r _ => r = .bool true) {N : Nat} {σ : Ren} {w : World} (hw : WRel N σ s w) (hN : N = w.heap.size) {args' : Array Value} (ha : LRel σ args args'.toList) :
    Calls Try.prog g args' w fun e w' => e = .returned (.bool true) ∧ Below w.heap.size w w' := by
  obtain ⟨m, ⟨v, s'⟩, h1, h2⟩ := h
  have h2' : v = .bool true := h2
  subst h2'
  refine ((run_ok tabOk rfl stubOk m).call (h1 m (Nat.le_refl _)) hw ha).mono fun e w' he => ?_
  obtain ⟨τ, v', rfl, hx, _, hv⟩ := he
  rw [hv.of_bool]
  exact ⟨rfl, hN ▸ hx.below⟩
end Go.Proofs.Ytnhokodcmeekhaa
namespace Go.Proofs.Ytnhokodcmeekhaa
open Go Kern RowKit Go.ChangeShapes Go.WideShapes Go.ChangeAt
open Go.ChangeMaps (open_string)
theorem take_eq_of {α : Type} {L cs : List α} {k n : Nat} (hl : cs.length = n) (h : ∀ j, j < n → L[k + j]? = cs[j]?) : (L.drop k).take n = cs := by
  apply List.ext_getElem?
  intro j
  rw [List.getElem?_take, List.getElem?_drop]
  by_cases hj : j < n
  · rw [if_pos hj]; exact h j hj
  · rw [if_neg hj, List.getElem?_eq_none (by omega)]
theorem rows_flat {α : Type} {L : List α} {k n : Nat} (g : Nat → List α) : ∀ {len : Nat}, (∀ i, i < len → (L.drop (k + i * n)).take n = g i) → ((List.range len).map g).flatten = (L.drop k).take (len * n)
  | 0, _ => by simp
  | len + 1, h => by
    rw [List.range_succ, List.map_append, List.flatten_append, rows_flat g (fun i hi => h i (by omega)), List.map_cons, List.map_nil, List.flatten_cons, List.flatten_nil, List.append_nil, ← h len (by omega),
      Nat.add_mul, Nat.one_mul, List.take_add, List.drop_drop]
/-- A slice that the row reads, as a list of its elements' cells. -/
theorem slW_of {H : Type} {enc : TypeId × Value → H} {P : Program} {W : World} {t e : TypeId} {n fuel : Nat} {v : Value} {x : DataW H × List MemPlace} (ht : P.underlying t = some (.slice e)) (hn : P.cellsOf e = n) (hn0 : 0 < n)
    (hok : Cell.ok P W .any 0 t v) (h : DataW.trod enc P W 0 (fun _ => true) true fuel t [v] = some x) :
    ∃ l, SlW W n v l ∧ (∀ y ∈ l, y.length = n) ∧ ∀ y ∈ l, ∃ m z, DataW.trod enc P W 0 (fun _ => true) true m e y = some z := by
  rcases Go.Deep.open_slice ht h with ⟨hcs, _⟩ | ⟨a, len, cap, m, q, D, Pl, hcs, _, hlc, _, hm, _, hel⟩
  · simp at hcs; subst hcs
    exact ⟨[], .inl ⟨rfl, rfl⟩, by simp, by simp⟩
  · simp at hcs; subst hcs
    simp only [Cell.ok, ht] at hok
    obtain ⟨_, _, _, hsp, row, cells, hsh, _⟩ := hok
    obtain ⟨b, off, spot⟩ := a
    simp only at hsp; subst hsp
    obtain ⟨C, E, fr, hb⟩ : ∃ C E fr, W.heap[b]? = some (.cells C E fr) := by
      unfold World.shape? at hsh
      simp only at hsh
      split at hsh
      · rename_i c el fr hh; exact ⟨c, el, fr, hh⟩
      all_goals cases hsh
    rw [hn] at hel
    simp at hm; subst hm
    have hrow : ∀ i, i < len → ∃ cs', cs'.length = n ∧ (∀ j, j < n → C.toList[off + i * n + j]? = cs'[j]?) ∧ ∃ z, DataW.trod enc P W 0 (fun _ => true) true q e cs' = some z := fun i hi => by
      obtain ⟨cs', h1, h2⟩ := hel i (by omega)
      obtain ⟨_, h3, h4⟩ := World.cells?_some h1
      refine ⟨cs', h3, fun j hj => ?_, _, h2⟩
      have := h4 j hj
      rw [addr_add, addr_add] at this
      simp only [World.cell?, hb] at this
      simpa using this
    have hg : ∀ i, i < len → ((C.toList.drop (off + i * n)).take n).length = n ∧ ∃ z, DataW.trod enc P W 0 (fun _ => true) true q e ((C.toList.drop (off + i * n)).take n) = some z := fun i hi => by
      obtain ⟨cs', h1, h2, z, h3⟩ := hrow i hi
      rw [take_eq_of h1 h2]
      exact ⟨h1, z, h3⟩
    have hfl := rows_flat (L := C.toList) (k := off) (n := n) (len := len) (fun i => (C.toList.drop (off + i * n)).take n) fun _ _ => rfl
    refine ⟨(List.range len).map fun i => (C.toList.drop (off + i * n)).take n, .inr ⟨b, off, m, C, E, fr, by simp, hb, fun hne => ?_⟩, fun y hy => ?_, fun y hy => ?_⟩
    · rw [hfl]
      have hlen : 0 < len := by
        rcases Nat.eq_zero_or_pos len with h | h
        · subst h; simp at hne
        · exact h
      obtain ⟨cs', h1, h2, _⟩ := hrow (len - 1) (by omega)
      have h3 := h2 (n - 1) (by omega)
      rw [List.getElem?_eq_getElem (l := cs') (by omega)] at h3
      have h4 := (List.getElem?_eq_some_iff.1 h3).1
      have h5 : len * n = (len - 1) * n + n := by rw [← Nat.succ_mul]; congr 1; omega
      have h6 : off + len * n ≤ C.size := by simp at h4; omega
      have h7 : ((C.toList.drop off).take (len * n)).length = len * n := by simp; omega
      rw [h7]
      exact ⟨h6, rfl⟩
    · obtain ⟨i, hi, rfl⟩ := List.mem_map.1 hy
      exact (hg i (by simpa using hi)).1
    · obtain ⟨i, hi, rfl⟩ := List.mem_map.1 hy
      obtain ⟨z, hz⟩ := (hg i (by simpa using hi)).2
      exact ⟨_, z, hz⟩
theorem list_of {α β : Type} {g : β → α} : ∀ {l : List α}, (∀ y ∈ l, ∃ f, y = g f) → ∃ fs : List β, l = fs.map g
  | [], _ => ⟨[], rfl⟩
  | y :: r, h => by
    obtain ⟨f, rfl⟩ := h y (.head _)
    obtain ⟨fs, rfl⟩ := list_of (l := r) fun z hz => h z (.tail _ hz)
    exact ⟨f :: fs, rfl⟩
section
variable {H : Type} {enc : TypeId × Value → H} {W : World}
end
end Go.Proofs.Ytnhokodcmeekhaa
namespace Go.Proofs.Ytnhokodcmeekhaa
open Go Kern RowKit Go.ChangeShapes Go.WideShapes Go.ChangeAt
theorem Try.own : ownKnob Try.prog.godebug = none := by kernel_rfl
theorem laidB : laidOutB Try.prog = true := by kernel_rfl
theorem again_of {H : Type} {enc : TypeId × Value → H} {t : TypeId} {W W' : World} {v : Value} {d : DataW H} {p : List MemPlace} (hr : Try.prog.readableRec t = true) (ht : t < Try.prog.types.size)
    (h : DataW.Trod enc Try.prog W 0 (fun _ => true) true t v d p) (hb : Below W.heap.size W W') : DataW.Trod enc Try.prog W' 0 (fun b => decide (b < W.heap.size)) true t v d p :=
  Below.trod laidB hr ht h hb (DataW.TrodAll.lt (trodAll_mk1 h))
end Go.Proofs.Ytnhokodcmeekhaa
namespace Go.Proofs.Ytnhokodcmeekhaa
open Go Kern RowKit Go.ChangeShapes Go.WideShapes Go.ChangeAt
end Go.Proofs.Ytnhokodcmeekhaa
namespace Go.Proofs.Ytnhokodcmeekhaa
open Go Kern RowKit Go.ChangeShapes Go.WideShapes Go.ChangeAt
end Go.Proofs.Ytnhokodcmeekhaa
namespace Go.Proofs.Ytnhokodcmeekhaa
open Go Kern RowKit Go.ChangeShapes Go.WideShapes Go.ChangeAt
/-! A crop by numbers, as the row reads it -/
theorem un5 : Try.prog.underlying 5 = some (.int .u8) := by kernel_rfl
theorem un59 : Try.prog.underlying 59 = some (.slice 5) := by kernel_rfl
theorem un60 : Try.prog.underlying 60 = some (.array 2 5) := by kernel_rfl
theorem un61 : Try.prog.underlying 61 = some (.slice 80) := by kernel_rfl
theorem un80 : Try.prog.underlying 80 = some (.array 3 5) := by kernel_rfl
theorem un63 : ∃ f0 f1 f2 f3 f4 f5 : Field, Try.prog.underlying 63 = some (.struct #[f0, f1, f2, f3, f4, f5]) ∧ (f0.type = 5 ∧ f0.offset = 0) ∧ (f1.type = 5 ∧ f1.offset = 1) ∧ (f2.type = 5 ∧ f2.offset = 2) ∧ (f3.type = 59 ∧ f3.offset = 3) ∧ (f4.type = 60 ∧ f4.offset = 4) ∧ (f5.type = 61 ∧ f5.offset = 6) := ⟨_, _, _, _, _, _, Try.underlying63, ⟨rfl, rfl⟩, ⟨rfl, rfl⟩, ⟨rfl, rfl⟩, ⟨rfl, rfl⟩, ⟨rfl, rfl⟩, rfl, rfl⟩
theorem ce5 : Try.prog.cellsOf 5 = 1 := by kernel_rfl
theorem ce59 : Try.prog.cellsOf 59 = 1 := by kernel_rfl
theorem ce60 : Try.prog.cellsOf 60 = 2 := by kernel_rfl
theorem ce61 : Try.prog.cellsOf 61 = 1 := by kernel_rfl
theorem ce80 : Try.prog.cellsOf 80 = 3 := by kernel_rfl
theorem ce63 : Try.prog.cellsOf 63 = 7 := by kernel_rfl
theorem ct63 : Try.prog.cellTypes Try.prog.depth 63 = some [5, 5, 5, 59, 5, 5, 61] := by kernel_rfl
theorem range8_of_wf {x : Int} (h : (Lit.int .u8 x).wf = true) : Byte x := by
  simp [Lit.wf, IntKind.min, IntKind.max, IntKind.bits, IntKind.signed] at h
  unfold Byte; omega
section
variable {H : Type} {enc : TypeId × Value → H} {W : World}
theorem trod_array2 {P : Program} {base : Nat} {spare : Nat → Bool} {held : Bool} {w : World} {t e : TypeId} {fuel : Nat} {c0 c1 : Value} {x : DataW H × List MemPlace} (ht : P.underlying t = some (.array 2 e)) (hce : P.cellsOf e = 1)
    (h : DataW.trod enc P w base spare held fuel t [c0, c1] = some x) :
    ∃ y0 y1 n, DataW.trod enc P w base spare held n e [c0] = some y0 ∧ DataW.trod enc P w base spare held n e [c1] = some y1 := by
  cases fuel with
  | zero => simp [DataW.trod] at h
  | succ n =>
    unfold DataW.trod at h
    rw [ht] at h
    have r2 : List.range 2 = [0, 1] := rfl
    simp [r2, hce] at h
    obtain ⟨_, h⟩ := h
    cases h0 : DataW.trod enc P w base spare held n e [c0] with
    | none => simp [h0] at h
    | some y0 =>
      cases h1 : DataW.trod enc P w base spare held n e [c1] with
      | none => simp [h0, h1] at h
      | some y1 => exact ⟨y0, y1, n, h0, h1⟩
theorem byte_of {m : Nat} {cs : List Value} {z : DataW H × List MemPlace} (h : DataW.trod enc Try.prog W 0 (fun _ => true) true m 5 cs = some z) : ∃ x : Int, cs = [Value.int .u8 x] ∧ Byte x := by
  obtain ⟨x, e, _, w⟩ := DataW.trod_int un5 h
  exact ⟨x, e, range8_of_wf w⟩
theorem three_of {m : Nat} {cs : List Value} {z : DataW H × List MemPlace} (hl : cs.length = 3) (h : DataW.trod enc Try.prog W 0 (fun _ => true) true m 80 cs = some z) : ∃ e : { e : Int × Int × Int // Bytes3 e }, cs = u8T e.1 := by
  match cs, hl with
  | [c0, c1, c2], _ =>
    obtain ⟨y0, y1, y2, n, _, h0, h1, h2⟩ := Go.ChangeShapes.trod_array3 un80 ce5 h
    obtain ⟨x0, e0, r0⟩ := byte_of h0
    obtain ⟨x1, e1, r1⟩ := byte_of h1
    obtain ⟨x2, e2, r2⟩ := byte_of h2
    simp at e0 e1 e2
    subst e0 e1 e2
    exact ⟨⟨(x0, x1, x2), r0, r1, r2⟩, rfl⟩
set_option maxRecDepth 100000 in
theorem bytes_ok {v : Value} {fuel : Nat} {x : DataW H × List MemPlace} (hok : Cell.ok Try.prog W .any 0 59 v) (hf : DataW.trod enc Try.prog W 0 (fun _ => true) true fuel 59 [v] = some x) :
    ∃ xs : List Int, SlW W 1 v (xs.map u8C) ∧ ∀ x ∈ xs, Byte x := by
  obtain ⟨l, g1, g2, g3⟩ := slW_of un59 ce5 (by omega) hok hf
  obtain ⟨xs, rfl⟩ := list_of (g := fun x : { x : Int // Byte x } => u8C x.1) fun y hy => by
    obtain ⟨m, z, hz⟩ := g3 y hy
    obtain ⟨x, e, r⟩ := byte_of hz
    exact ⟨⟨x, r⟩, e⟩
  refine ⟨xs.map (·.1), by rw [List.map_map]; exact g1, fun x hx => ?_⟩
  obtain ⟨y, _, rfl⟩ := List.mem_map.1 hx
  exact y.2
set_option maxRecDepth 100000 in
theorem threes_ok {v : Value} {fuel : Nat} {x : DataW H × List MemPlace} (hok : Cell.ok Try.prog W .any 0 61 v) (hf : DataW.trod enc Try.prog W 0 (fun _ => true) true fuel 61 [v] = some x) :
    ∃ es : List (Int × Int × Int), SlW W 3 v (es.map u8T) ∧ ∀ e ∈ es, Bytes3 e := by
  obtain ⟨l, g1, g2, g3⟩ := slW_of un61 ce80 (by omega) hok hf
  obtain ⟨xs, rfl⟩ := list_of (g := fun e : { e : Int × Int × Int // Bytes3 e } => u8T e.1) fun y hy => by
    obtain ⟨m, z, hz⟩ := g3 y hy
    exact three_of (g2 y hy) hz
  refine ⟨xs.map (·.1), by rw [List.map_map]; exact g1, fun x hx => ?_⟩
  obtain ⟨y, _, rfl⟩ := List.mem_map.1 hx
  exact y.2
set_option maxRecDepth 100000 in
theorem triple_of {v : Value} {d : DataW H} {p : List MemPlace} (hv : Value.okWide Try.prog W .any 0 80 v) (h : DataW.Trod enc Try.prog W 0 (fun _ => true) true 80 v d p) :
    ∃ e : Int × Int × Int, v = .agg #[.int .u8 e.1, .int .u8 e.2.1, .int .u8 e.2.2] ∧ Bytes3 e := by
  simp only [Value.okWide, un80] at hv
  obtain ⟨cs, rfl, hsz, _⟩ := hv
  rw [ce80] at hsz
  obtain ⟨fuel, hf⟩ := h
  obtain ⟨l⟩ := cs
  obtain ⟨⟨e, he⟩, h2⟩ := three_of (cs := l) (by simpa using hsz) (by simpa [Value.cells] using hf)
  exact ⟨e, by rw [h2]; rfl, he⟩
set_option maxRecDepth 100000 in
theorem crop_of {v : Value} {d : DataW H} {p : List MemPlace} (hv : Value.okWide Try.prog W .any 0 63 v) (h : DataW.Trod enc Try.prog W 0 (fun _ => true) true 63 v d p) :
    ∃ (c : CropD) (fv sv : Value), v = cropV c fv sv ∧ c.Ok ∧ SlW W 1 fv (c.falls.map u8C) ∧ SlW W 3 sv (c.samples.map u8T) := by
  obtain ⟨f0, f1, f2, f3, f4, f5, hu, ⟨t0, o0⟩, ⟨t1, o1⟩, ⟨t2, o2⟩, ⟨t3, o3⟩, ⟨t4, o4⟩, t5, o5⟩ := un63
  have hv' := hv
  simp only [Value.okWide, hu] at hv'
  obtain ⟨cs, rfl, hsz, ts, hts, _, hrow⟩ := hv'
  rw [ct63] at hts; cases hts
  rw [ce63] at hsz
  obtain ⟨fuel, hf⟩ := h
  obtain ⟨l⟩ := cs
  match l, hsz with
  | [c0, c1, c2, c3, c4, c5, c6], _ =>
    obtain ⟨xs, n, _, _, hl, hlen, hfs⟩ := DataW.trod_struct hu hf
    match xs, hlen with
    | [y0, y1, y2, y3, y4, y5], _ =>
      have h0 := hfs 0 f0 rfl
      have h1 := hfs 1 f1 rfl
      have h2 := hfs 2 f2 rfl
      have h3 := hfs 3 f3 rfl
      have h4 := hfs 4 f4 rfl
      have h5 := hfs 5 f5 rfl
      rw [t0, o0, ce5] at h0
      rw [t1, o1, ce5] at h1
      rw [t2, o2, ce5] at h2
      rw [t3, o3, ce59] at h3
      rw [t4, o4, ce60] at h4
      rw [t5, o5, ce61] at h5
      simp [Value.cells] at h0 h1 h2 h3 h4 h5
      obtain ⟨b0, e0, r0⟩ := byte_of h0
      obtain ⟨b1, e1, r1⟩ := byte_of h1
      obtain ⟨b2, e2, r2⟩ := byte_of h2
      obtain ⟨z0, z1, m, k0, k1⟩ := trod_array2 un60 ce5 h4
      obtain ⟨b4, e4, r4⟩ := byte_of k0
      obtain ⟨b5, e5, r5⟩ := byte_of k1
      simp at e0 e1 e2 e4 e5
      subst e0 e1 e2 e4 e5
      obtain ⟨w3, hw3, hok3⟩ := hrow 3 c3 rfl
      simp at hw3; subst hw3
      obtain ⟨w6, hw6, hok6⟩ := hrow 6 c6 rfl
      simp at hw6; subst hw6
      obtain ⟨a, len, cap, rfl⟩ : ∃ a len cap, c3 = .slice a len cap := by
        simp only [Cell.okWide, un59] at hok3
        cases c3 <;> simp_all [Cell.ok]
      have hok3' : Cell.ok Try.prog W .any 0 59 (.slice a len cap) := by
        simp only [Cell.okWide, un59] at hok3; exact hok3
      obtain ⟨a2, len2, cap2, rfl⟩ : ∃ a len cap, c6 = .slice a len cap := by
        simp only [Cell.okWide, un61] at hok6
        cases c6 <;> simp_all [Cell.ok]
      have hok6' : Cell.ok Try.prog W .any 0 61 (.slice a2 len2 cap2) := by
        simp only [Cell.okWide, un61] at hok6; exact hok6
      obtain ⟨fs, g1, g2⟩ := bytes_ok hok3' h3
      obtain ⟨es, g3, g4⟩ := threes_ok hok6' h5
      exact ⟨⟨b0, b1, b2, fs, b4, b5, es⟩, _, _, rfl, ⟨r0, r1, r2, g2, r4, r5, g4⟩, g1, g3⟩
end
theorem u8C_len (l : List Int) : ∀ x ∈ l.map u8C, x.length = 1 := fun x hx => by obtain ⟨f, _, rfl⟩ := List.mem_map.1 hx; rfl
theorem u8T_len (l : List (Int × Int × Int)) : ∀ x ∈ l.map u8T, x.length = 3 := fun x hx => by obtain ⟨f, _, rfl⟩ := List.mem_map.1 hx; rfl
theorem u8C_closed (l : List Int) : (l.map u8C).flatten.all closed1 = true := by
  rw [List.all_eq_true]; intro y hy
  obtain ⟨z, hz, hy⟩ := List.mem_flatten.1 hy
  obtain ⟨f, _, rfl⟩ := List.mem_map.1 hz
  simp [u8C] at hy
  subst hy; rfl
theorem u8T_closed (l : List (Int × Int × Int)) : (l.map u8T).flatten.all closed1 = true := by
  rw [List.all_eq_true]; intro y hy
  obtain ⟨z, hz, hy⟩ := List.mem_flatten.1 hy
  obtain ⟨f, _, rfl⟩ := List.mem_map.1 hz
  simp [u8T] at hy
  rcases hy with rfl | rfl | rfl <;> rfl
/-- A crop of the world in the calculation's memory. -/
theorem attach_crop {W : World} {c : CropD} {fv sv : Value} (hf : SlW W 1 fv (c.falls.map u8C)) (hs : SlW W 3 sv (c.samples.map u8T)) :
    ∃ τ s' fv' sv', WRel W.heap.size τ s' W ∧ VRel τ (cropV c fv' sv') (cropV c fv sv) ∧ SlAt 1 s' fv' (c.falls.map u8C) ∧ SlAt 3 s' sv' (c.samples.map u8T) := by
  have hw0 : WRel W.heap.size (fun _ => none) ⟨.leaf, 0⟩ W := ⟨Nat.le_refl _, (fun h => by cases h), fun _ => rfl, (fun h => by cases h), (fun h => by cases h)⟩
  obtain ⟨σ1, s1, v1, _, hw1, hv1, hs1, k1⟩ := attach hw0 rfl hf (u8C_len _) (u8C_closed _)
  obtain ⟨σ2, s2, v2, l2, hw2, hv2, hs2, k2⟩ := attach hw1 rfl hs (u8T_len _) (u8T_closed _)
  exact ⟨σ2, s2, v1, v2, hw2, .agg (.cons (.int _ _) (.cons (.int _ _) (.cons (.int _ _) (.cons (hv1.mono l2) (.cons (.int _ _) (.cons (.int _ _) (.cons hv2 .nil))))))), hs1.keep k2, hs2⟩
end Go.Proofs.Ytnhokodcmeekhaa
namespace Go.Proofs.Ytnhokodcmeekhaa
open Go Kern RowKit Go.ChangeShapes Go.WideShapes Go.ChangeAt
theorem lawB_calls (c : CropD) (hc : c.Ok) (fv sv : Value) (y : Int × Int × Int) (d : Int) (W : World) (hf : SlW W 1 fv (c.falls.map u8C)) (hs : SlW W 3 sv (c.samples.map u8T)) (hy : Bytes3 y) (hd : 0 ≤ d ∧ d ≤ 255) :
    Calls Try.prog 10 #[cropV c fv sv, .agg #[.int .u8 y.1, .int .u8 y.2.1, .int .u8 y.2.2], .int .u8 d] W fun e w' => e = .returned (.bool true) ∧ Below W.heap.size W w' := by
  obtain ⟨σ1, s1, fv', sv', hw1, hv1, hs1, hs2⟩ := attach_crop hf hs
  refine calls_of_ev (lawB_ev c hc fv' sv' y d s1 hs1 hs2 hy hd) hw1 rfl ?_
  exact .cons hv1 (.cons (.agg (.cons (.int _ _) (.cons (.int _ _) (.cons (.int _ _) .nil)))) (.cons (.int _ _) .nil))
set_option maxRecDepth 100000 in
theorem better_lifted (os : Os) (started : os.Started) (H : Type) (enc : TypeId × Value → H) :
    ReturnsInHanded {} Try.checked os 10 .any (Rows.ripeBetterSpec.pre6 enc Try.prog Try.f10 Rows.ripeBetterRow.domain false) (Rows.ripeBetterSpec.post enc Try.prog Try.f10 false true false false) := by
  refine returnsInHanded_of_change (C := Try.checked) Try.own started (by kernel_rfl) Try.func10
    (ChangeSpec.witness6 (enc := enc) (C := Try.checked) false ⟨#[], #[.agg #[.int .u8 0, .int .u8 0, .int .u8 0, .slice none 0 0, .int .u8 0, .int .u8 0, .slice none 0 0], .agg #[.int .u8 0, .int .u8 0, .int .u8 0], .int .u8 0], []⟩ 8 (by kernel_rfl) (by kernel_rfl) (by kernel_rfl) (by kernel_rfl)) ?_
  intro W base args ds gs before hval hW hcnd _
  have hW' := hW
  obtain ⟨p, q, hA0, hV, rfl, hfz, hnd⟩ := hW
  have hA : DataW.TrodAll enc Try.prog W 0 (fun _ => true) true Try.f10.params.toList args.toList ds p := hA0
  rw [Try.params10] at hA
  obtain ⟨v0, v1, v2, d0, d1, d2, p0, p1, p2, rfl, rfl, rfl, h0, h1, h2⟩ := trodAll_three hA
  obtain ⟨rfl, rfl⟩ := trodVars_none hV
  obtain ⟨c, fv, sv, rfl, hc, hf, hs⟩ := crop_of (hval 0 63 v0 rfl rfl) h0
  obtain ⟨y, rfl, hy⟩ := triple_of (hval 1 80 v1 rfl rfl) h1
  have h2k := h2
  obtain ⟨d, rfl, rfl, rfl, hwf⟩ := open_int un5 (hval 2 5 v2 rfl rfl) h2
  refine (lawB_calls c hc fv sv y d W hf hs hy (range8_of_wf hwf)).mono fun e W' ⟨he, hb⟩ => ?_
  subst he
  exact ⟨_, rfl, [_, _, _], [], _, [], _, [], hW', trodAll_mk1 (shut_bool Try.underlying4 _), trodAll_mk3 (again_of (by kernel_rfl) (of_decide_eq_true (by kernel_rfl)) h0 hb) (again_of (by kernel_rfl) (of_decide_eq_true (by kernel_rfl)) h1 hb) (again_of (by kernel_rfl) (of_decide_eq_true (by kernel_rfl)) h2k hb), rfl, hb.frame _, fun h => by cases h⟩

theorem better_holds : Rows.RipeBetterSaid :=
  OpenClaim.holds_of_wide 10 Try.f10 rfl rfl rfl rfl rfl rfl rfl ⟨rfl, rfl, rfl, rfl, rfl⟩ rfl rfl rfl rfl rfl (by kernel_rfl) Try.func10 (by kernel_rfl)
    (of_decide_eq_true (by kernel_rfl)) (by unfold Func.isWrapper; first | (rw [if_pos (by decide +kernel)]; kernel_rfl) | (rw [if_neg (by decide +kernel)]; exact ⟨rfl, rfl⟩))
    (fun os started H enc _ => better_lifted os started H enc)
end Go.Proofs.Ytnhokodcmeekhaa
