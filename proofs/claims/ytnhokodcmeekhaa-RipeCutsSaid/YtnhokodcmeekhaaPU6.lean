/-
  . They hold with no condition but those that are written in each theorem.
-/
import Derived.Test.YtnhokodcmeekhaaRows
import Derived.ProofKit
import Derived.Deep.Slices
import Derived.Lib.SmallJoins
import Derived.Laws.IdiomArrays
import Derived.Deep.Strs
import Derived.Test.YtnhokodcmeekhaaPU1
import Derived.Test.YtnhokodcmeekhaaPU2
import Derived.Test.YtnhokodcmeekhaaPU3
import Derived.Test.YtnhokodcmeekhaaPU4
import Derived.Test.YtnhokodcmeekhaaPU5
set_option linter.unusedSimpArgs false
set_option linter.unusedVariables false
namespace Go.Proofs.Ytnhokodcmeekhaa
open Go Kern
theorem SlAt.one {n : Nat} {s : St} {v : Value} {l : List (List Value)} (h : SlAt n s v l) : oneV v = true := by obtain ⟨a, c, rfl⟩ := h.shape; rfl
def kL : List (Int × Int) := [(980, 1020), (1180, 1545), (1380, 1420), (1275, 1640), (1170, 1230)]
theorem small_kL : SmallP kL := fun x hx => by
  unfold kL at hx
  simp only [List.mem_cons, List.not_mem_nil, or_false] at hx
  rcases hx with rfl | rfl | rfl | rfl | rfl <;> exact ⟨by unfold In62; decide, by unfold In62; decide⟩
theorem rverF_trip {n lo hi : Int} {ss : List SampD} {i j k : Nat} (h : fieldErr n lo hi ss = 0) (hi' : i < n.toNat) (hj : j < n.toNat) (hk : k < n.toNat) (hc : holdsB (fun w => (endN lo hi ss w).1) (fun w => (endN lo hi ss w).2) i j k = true) : rverF n lo hi ss [(i : Int), (j : Int), (k : Int)] = 0 := by
  unfold rverF verIn
  rw [if_pos h, if_pos (show [(i : Int), (j : Int), (k : Int)].length = 3 from rfl), if_pos (by simp [weekB]; omega)]
  simp only [List.getD_cons_zero, List.getD_cons_succ, Int.toNat_natCast]
  rw [if_pos hc]
theorem trip_ver {i j k : Nat} (hi : i < 5) (hj : j < 5) (hk : k < 5) (h : hB 0 2000 ssZ i j k = true) : verF 5 0 2000 ssZ [(i : Int), (j : Int), (k : Int)] = 0 := by
  rw [verF_eq]
  exact rverF_trip errZ hi hj hk h
set_option maxRecDepth 100000 in
set_option maxHeartbeats 4000000 in
theorem works_ev (s : St) : Ev TT 13 [] s fun r s' => r = .bool true ∧ Keep s s' := by
  have hkF := fun v s h => known_ev 5 0 2000 v ssF s h (by decide)
  have hkZ := fun v s h => known_ev 5 0 2000 v ssZ s h (by decide)
  have hcZ := fun v s h => clashTop_ev 5 0 2000 v ssZ s h (by decide)
  have hpF := fun v s h => peaks_ev 5 0 2000 v ssF s h (by decide)
  have hrF := fun v s h => ripe_ev 5 0 2000 1300 v ssF s h (by decide)
  have hgF := fun v s h => regret_ev 5 0 2000 3 v ssF s h (by decide)
  have huF := fun v s h => cut_ev 5 0 2000 v ssF s h (by decide)
  have hvZ := fun v w ws s h hw hl => verify_ev 5 0 2000 v w ssZ ws s h (by decide) hw hl
  have hvF := fun v w ws s h hw hl => verify_ev 5 0 2000 v w ssF ws s h (by decide) hw hl
  unfold fieldV at hkF hkZ hcZ hpF hrF hgF huF hvZ hvF
  refine Ev.intro (fn := Try.f13) rfl (by kernel_rfl) rfl rfl ?_
  apply zz
  refine Cd.ra (h := ?_)
  apply Run.by_eq
  · intro self
    conv => lhs; simp -implicitDefEqProofs (maxSteps := 300000) (disch := omega) [-getElem?_pos, -getElem?_neg]
  try (with_reducible refine Run.ret ?_)
  apply zz
  -- Known of F
  refine Cd.mono (Q := fun x f1 s1 => x = Ex.normal ∧ f1.marks = [] ∧ Keep s s1 ∧ ∃ kv, f1.get 1 = kv ∧ f1.get 2 = .int .i64 0 ∧ SpAt s1 kv [(980, 1020), (1180, 1545), (1380, 1420), (1275, 1640), (1170, 1230)]) ?_ ?_
  · apply zz
    refine Cd.ra (h := ?_)
    apply Run.by_eq
    · intro self
      conv => lhs; simp -implicitDefEqProofs (maxSteps := 300000) (disch := omega) [-getElem?_pos, -getElem?_neg]
    try (with_reducible refine Run.ret ?_)
    apply zz
    refine Run.call ((F_ev _).mono fun v w1 hv => ?_)
    obtain ⟨k1, b, rfl, hb1, hb2, hb3⟩ := hv
    apply Run.by_eq
    · intro self
      conv => lhs; simp -implicitDefEqProofs (maxSteps := 300000) (disch := omega) [-getElem?_pos, -getElem?_neg]
    try (with_reducible refine Run.ret ?_)
    apply zz
    refine Run.call ((hkF _ _ (smF hb2 hb3)).mono fun v w2 hv => ?_)
    obtain ⟨k2, kv, e, rfl, hK⟩ := hv
    obtain ⟨rfl, hkv⟩ := known_F hK
    have ho := SlAt.one hkv
    apply Run.by_eq
    · intro self
      conv => lhs; simp -implicitDefEqProofs (maxSteps := 300000) (disch := omega) [-getElem?_pos, -getElem?_neg]
    try (with_reducible refine Run.ret ?_)
    apply zz
    exact ⟨rfl, by simp, k1.trans k2, kv, by simp, by simp, hkv⟩
  rintro x f s1 ⟨rfl, hmk, hk, kv, g1, g2, hkv⟩
  apply zz
  -- Known of Z
  refine Cd.mono (Q := fun x f1 s1 => x = Ex.normal ∧ f1.marks = [] ∧ Keep s s1 ∧ f1.get 1 = kv ∧ f1.get 2 = .int .i64 0 ∧ f1.get 4 = .int .i64 12 ∧ SpAt s1 kv [(980, 1020), (1180, 1545), (1380, 1420), (1275, 1640), (1170, 1230)]) ?_ ?_
  · apply zz
    refine Cd.ra (h := ?_)
    apply Run.by_eq
    · intro self
      conv => lhs; simp -implicitDefEqProofs (maxSteps := 300000) (disch := omega) [-getElem?_pos, -getElem?_neg]
    try (with_reducible refine Run.ret ?_)
    apply zz
    refine Run.call ((Z_ev _).mono fun v w1 hv => ?_)
    obtain ⟨k1, b, rfl, hb1, hb2, hb3⟩ := hv
    apply Run.by_eq
    · intro self
      conv => lhs; simp -implicitDefEqProofs (maxSteps := 300000) (disch := omega) [-getElem?_pos, -getElem?_neg]
    try (with_reducible refine Run.ret ?_)
    apply zz
    refine Run.call ((hkZ _ _ (smZ hb2 hb3)).mono fun v w2 hv => ?_)
    obtain ⟨k2, zv, e, rfl, hK⟩ := hv
    obtain ⟨rfl, rfl⟩ := known_Z hK
    apply Run.by_eq
    · intro self
      conv => lhs; simp -implicitDefEqProofs (maxSteps := 300000) (disch := omega) [-getElem?_pos, -getElem?_neg]
    try (with_reducible refine Run.ret ?_)
    apply zz
    exact ⟨rfl, by simp [hmk], hk.trans (k1.trans k2), by simp [g1], by simp [g2], by simp, hkv.keep (k1.trans k2)⟩
  clear hmk g1 g2 hk hkv
  rintro x f s1 ⟨rfl, hmk, hk, g1, g2, g4, hkv⟩
  apply zz
  -- Clash of Z
  refine Cd.mono (Q := fun x f1 s1 => x = Ex.normal ∧ f1.marks = [] ∧ Keep s s1 ∧ f1.get 1 = kv ∧ f1.get 2 = .int .i64 0 ∧ f1.get 4 = .int .i64 12 ∧ SpAt s1 kv [(980, 1020), (1180, 1545), (1380, 1420), (1275, 1640), (1170, 1230)] ∧ f1.get 6 = .int .i64 0 ∧ ∃ cv, f1.get 5 = cv ∧ Trip 5 (hB 0 2000 ssZ) cv s1) ?_ ?_
  · apply zz
    refine Cd.ra (h := ?_)
    apply Run.by_eq
    · intro self
      conv => lhs; simp -implicitDefEqProofs (maxSteps := 300000) (disch := omega) [-getElem?_pos, -getElem?_neg]
    try (with_reducible refine Run.ret ?_)
    apply zz
    refine Run.call ((Z_ev _).mono fun v w1 hv => ?_)
    obtain ⟨k1, b, rfl, hb1, hb2, hb3⟩ := hv
    apply Run.by_eq
    · intro self
      conv => lhs; simp -implicitDefEqProofs (maxSteps := 300000) (disch := omega) [-getElem?_pos, -getElem?_neg]
    try (with_reducible refine Run.ret ?_)
    apply zz
    refine Run.call ((hcZ _ _ (smZ hb2 hb3)).mono fun v w2 hv => ?_)
    obtain ⟨k2, cv, e, rfl, hK⟩ := hv
    obtain ⟨rfl, hT⟩ := clash_Z hK
    have ho : oneV cv = true := by obtain ⟨_, _, _, _, _, _, _, _, rfl, _⟩ := hT; rfl
    apply Run.by_eq
    · intro self
      conv => lhs; simp -implicitDefEqProofs (maxSteps := 300000) (disch := omega) [-getElem?_pos, -getElem?_neg]
    try (with_reducible refine Run.ret ?_)
    apply zz
    exact ⟨rfl, by simp [hmk], hk.trans (k1.trans k2), by simp [g1], by simp [g2], by simp [g4], hkv.keep (k1.trans k2), by simp, cv, by simp, hT⟩
  clear hmk g1 g2 g4 hk hkv
  rintro x f s1 ⟨rfl, hmk, hk, g1, g2, g4, hkv, g6, cv, g5, hT⟩
  apply zz
  obtain ⟨ti, tj, tk, t1, t2, t3, t4, hci, bc, rfl⟩ := hT.ints
  clear hT
  -- Peaks of F
  refine Cd.mono (Q := fun x f1 s1 => x = Ex.normal ∧ f1.marks = [] ∧ Keep s s1 ∧ f1.get 1 = kv ∧ f1.get 2 = .int .i64 0 ∧ f1.get 4 = .int .i64 12 ∧ SpAt s1 kv [(980, 1020), (1180, 1545), (1380, 1420), (1275, 1640), (1170, 1230)] ∧ f1.get 6 = .int .i64 0 ∧ f1.get 5 = .slice (some bc) 3 3 ∧ IntsAt s1 (.slice (some bc) 3 3) [(ti : Int), (tj : Int), (tk : Int)] ∧ f1.get 8 = .int .i64 0 ∧ ∃ pv, f1.get 7 = pv ∧ IntsAt s1 pv [1, 2, 3]) ?_ ?_
  · apply zz
    refine Cd.ra (h := ?_)
    apply Run.by_eq
    · intro self
      conv => lhs; simp -implicitDefEqProofs (maxSteps := 300000) (disch := omega) [-getElem?_pos, -getElem?_neg]
    try (with_reducible refine Run.ret ?_)
    apply zz
    refine Run.call ((F_ev _).mono fun v w1 hv => ?_)
    obtain ⟨k1, b, rfl, hb1, hb2, hb3⟩ := hv
    apply Run.by_eq
    · intro self
      conv => lhs; simp -implicitDefEqProofs (maxSteps := 300000) (disch := omega) [-getElem?_pos, -getElem?_neg]
    try (with_reducible refine Run.ret ?_)
    apply zz
    refine Run.call ((hpF _ _ (smF hb2 hb3)).mono fun v w2 hv => ?_)
    obtain ⟨k2, pv, e, rfl, hK⟩ := hv
    obtain ⟨rfl, hP⟩ := hK.F
    have hP2 : IntsAt w2 pv [1, 2, 3] := by have := peaksF ▸ hP; exact this
    have ho := SlAt.one hP2
    apply Run.by_eq
    · intro self
      conv => lhs; simp -implicitDefEqProofs (maxSteps := 300000) (disch := omega) [-getElem?_pos, -getElem?_neg]
    try (with_reducible refine Run.ret ?_)
    apply zz
    exact ⟨rfl, by simp [hmk], hk.trans (k1.trans k2), by simp [g1], by simp [g2], by simp [g4], hkv.keep (k1.trans k2), by simp [g6], by simp [g5], hci.keep (k1.trans k2), by simp, pv, by simp, hP2⟩
  clear hmk g1 g2 g4 g5 g6 hk hkv hci
  rintro x f s1 ⟨rfl, hmk, hk, g1, g2, g4, hkv, g6, g5, hci, g8, pv, g7, hpv⟩
  apply zz
  -- Ripe of F
  refine Cd.mono (Q := fun x f1 s1 => x = Ex.normal ∧ f1.marks = [] ∧ Keep s s1 ∧ f1.get 1 = kv ∧ f1.get 2 = .int .i64 0 ∧ f1.get 4 = .int .i64 12 ∧ SpAt s1 kv [(980, 1020), (1180, 1545), (1380, 1420), (1275, 1640), (1170, 1230)] ∧ f1.get 6 = .int .i64 0 ∧ f1.get 5 = .slice (some bc) 3 3 ∧ IntsAt s1 (.slice (some bc) 3 3) [(ti : Int), (tj : Int), (tk : Int)] ∧ f1.get 8 = .int .i64 0 ∧ f1.get 7 = pv ∧ IntsAt s1 pv [1, 2, 3] ∧ f1.get 11 = .int .i64 0 ∧ ∃ sv mv, f1.get 9 = sv ∧ f1.get 10 = mv ∧ IntsAt s1 sv [2] ∧ IntsAt s1 mv [1, 2, 3]) ?_ ?_
  · apply zz
    refine Cd.ra (h := ?_)
    apply Run.by_eq
    · intro self
      conv => lhs; simp -implicitDefEqProofs (maxSteps := 300000) (disch := omega) [-getElem?_pos, -getElem?_neg]
    try (with_reducible refine Run.ret ?_)
    apply zz
    refine Run.call ((F_ev _).mono fun v w1 hv => ?_)
    obtain ⟨k1, b, rfl, hb1, hb2, hb3⟩ := hv
    apply Run.by_eq
    · intro self
      conv => lhs; simp -implicitDefEqProofs (maxSteps := 300000) (disch := omega) [-getElem?_pos, -getElem?_neg]
    try (with_reducible refine Run.ret ?_)
    apply zz
    refine Run.call ((hrF _ _ (smF hb2 hb3)).mono fun v w2 hv => ?_)
    obtain ⟨k2, sv, mv, e, rfl, hK⟩ := hv
    obtain ⟨rfl, hP⟩ := hK.F
    have hS2 : IntsAt w2 sv [2] := by have := surelyF ▸ hP.1; exact this
    have hM2 : IntsAt w2 mv [1, 2, 3] := by have := perhapsF ▸ hP.2; exact this
    have ho := SlAt.one hS2
    have ho2 := SlAt.one hM2
    apply Run.by_eq
    · intro self
      conv => lhs; simp -implicitDefEqProofs (maxSteps := 300000) (disch := omega) [-getElem?_pos, -getElem?_neg]
    try (with_reducible refine Run.ret ?_)
    apply zz
    exact ⟨rfl, by simp [hmk], hk.trans (k1.trans k2), by simp [g1], by simp [g2], by simp [g4], hkv.keep (k1.trans k2), by simp [g6], by simp [g5], hci.keep (k1.trans k2), by simp [g8], by simp [g7], hpv.keep (k1.trans k2), by simp, sv, mv, by simp, by simp, hS2, hM2⟩
  clear hmk g1 g2 g4 g5 g6 g7 g8 hk hkv hci hpv
  rintro x f s1 ⟨rfl, hmk, hk, g1, g2, g4, hkv, g6, g5, hci, g8, g7, hpv, g11, sv, mv, g9, g10, hsv, hmv⟩
  apply zz
  have hv0 := trip_ver t1 t2 t3 t4
  have vc := slAt_veq hci 4
  refine Cd.mono (Q := fun x f1 s1 => x = Ex.normal ∧ f1.marks = [] ∧ Keep s s1 ∧ f1.get 7 = pv ∧ IntsAt s1 pv [1, 2, 3] ∧ f1.get 9 = sv ∧ f1.get 10 = mv ∧ IntsAt s1 sv [2] ∧ IntsAt s1 mv [1, 2, 3] ∧ f1.get 87 = .bool false) ?_ ?_
  · have hr5 : repeatL [Value.int .i64 0, .int .i64 0] 5 = [.int .i64 0, .int .i64 0, .int .i64 0, .int .i64 0, .int .i64 0, .int .i64 0, .int .i64 0, .int .i64 0, .int .i64 0, .int .i64 0] := rfl
    apply zz
    refine Cd.ra (h := ?_)
    apply Run.by_eq
    · intro self
      conv => lhs; simp -implicitDefEqProofs (maxSteps := 300000) (disch := omega) [-getElem?_pos, -getElem?_neg, g1, g2, g4, g5, g6, g8, g11]
    try (with_reducible refine Run.ret ?_)
    apply zz
    refine Run.call ((span_ev 980 1020 _).mono fun v wa hv => ?_)
    obtain ⟨rfl, a⟩ := hv
    have aa := a.1
    have ab := a.2
    try simp only [pushed_next', upded_next'] at aa ab
    apply Run.by_eq
    · intro self
      conv => lhs; simp -implicitDefEqProofs (maxSteps := 300000) (disch := omega) [-getElem?_pos, -getElem?_neg]
    try (with_reducible refine Run.ret ?_)
    apply zz
    refine Run.call ((span_ev 1180 1545 _).mono fun v wb hv => ?_)
    obtain ⟨rfl, b⟩ := hv
    have ba := b.1
    have bb := b.2
    try simp only [pushed_next', upded_next'] at ba bb
    apply Run.by_eq
    · intro self
      conv => lhs; simp -implicitDefEqProofs (maxSteps := 300000) (disch := omega) [-getElem?_pos, -getElem?_neg]
    try (with_reducible refine Run.ret ?_)
    apply zz
    refine Run.call ((span_ev 1380 1420 _).mono fun v wc hv => ?_)
    obtain ⟨rfl, c⟩ := hv
    have ca := c.1
    have cb := c.2
    try simp only [pushed_next', upded_next'] at ca cb
    apply Run.by_eq
    · intro self
      conv => lhs; simp -implicitDefEqProofs (maxSteps := 300000) (disch := omega) [-getElem?_pos, -getElem?_neg]
    try (with_reducible refine Run.ret ?_)
    apply zz
    refine Run.call ((span_ev 1275 1640 _).mono fun v wd hv => ?_)
    obtain ⟨rfl, d⟩ := hv
    have da := d.1
    have db := d.2
    try simp only [pushed_next', upded_next'] at da db
    apply Run.by_eq
    · intro self
      conv => lhs; simp -implicitDefEqProofs (maxSteps := 300000) (disch := omega) [-getElem?_pos, -getElem?_neg]
    try (with_reducible refine Run.ret ?_)
    apply zz
    refine Run.call ((span_ev 1170 1230 _).mono fun v we hv => ?_)
    obtain ⟨rfl, e⟩ := hv
    have ea := e.1
    have eb := e.2
    try simp only [pushed_next', upded_next'] at ea eb
    have ke : Keep s1 we := ⟨by omega, fun i hi => by rw [eb i (by omega), db i (by omega), cb i (by omega), bb i (by omega)]; exact ab i hi⟩
    apply Run.by_eq
    · intro self
      conv => lhs; simp -implicitDefEqProofs (maxSteps := 300000) (disch := omega) [-getElem?_pos, -getElem?_neg, g1, hr5]
    try (with_reducible refine Run.ret ?_)
    apply zz
    have kp : Keep s1 (we.pushed (.cells [.int .i64 980, .int .i64 1020, .int .i64 1180, .int .i64 1545, .int .i64 1380, .int .i64 1420, .int .i64 1275, .int .i64 1640, .int .i64 1170, .int .i64 1230] none)) := ke.pushed _
    have hlit : SpAt (we.pushed (.cells [.int .i64 980, .int .i64 1020, .int .i64 1180, .int .i64 1545, .int .i64 1380, .int .i64 1420, .int .i64 1275, .int .i64 1640, .int .i64 1170, .int .i64 1230] none)) (.slice (some ⟨we.next, 0, none⟩) 5 5) kL := sl_of_cells (n := 2) (l := kL.map spP) (Nat.lt_succ_self _) (fun y hy => by obtain ⟨p, _, rfl⟩ := List.mem_map.1 hy; rfl) (get_pushed_new _ _)
    have hkv2 : SpAt (we.pushed (.cells [.int .i64 980, .int .i64 1020, .int .i64 1180, .int .i64 1545, .int .i64 1380, .int .i64 1420, .int .i64 1275, .int .i64 1640, .int .i64 1170, .int .i64 1230] none)) kv kL := hkv.keep kp
    refine Run.call ((spans_ev _ _ _ _ _ hkv2 hlit small_kL small_kL (by decide) (by decide)).mono fun v w6 hv => ?_)
    obtain ⟨rfl, k6⟩ := hv
    have k6' := kp.trans k6
    apply Run.by_eq
    · intro self
      conv => lhs; simp -implicitDefEqProofs (maxSteps := 300000) (disch := omega) [-getElem?_pos, -getElem?_neg]
    try (with_reducible refine Run.ret ?_)
    apply zz
    refine Run.call ((Z_ev _).mono fun v w7 hv => ?_)
    obtain ⟨k7, b7, rfl, hb1, hb2, hb3⟩ := hv
    have k7' := k6'.trans k7
    apply Run.by_eq
    · intro self
      conv => lhs; simp -implicitDefEqProofs (maxSteps := 300000) (disch := omega) [-getElem?_pos, -getElem?_neg, g5]
    try (with_reducible refine Run.ret ?_)
    apply zz
    refine Run.call ((hvZ _ _ _ _ (smZ hb2 hb3) (hci.keep k7') (by simp)).mono fun v w8 hv => ?_)
    obtain ⟨rfl, k8⟩ := hv
    have k8' := k7'.trans k8
    clear hb1 hb2 hb3
    rw [hv0]
    apply Run.by_eq
    · intro self
      conv => lhs; simp -implicitDefEqProofs (maxSteps := 300000) (disch := omega) [-getElem?_pos, -getElem?_neg]
    try (with_reducible refine Run.ret ?_)
    apply zz
    refine Run.call ((Z_ev _).mono fun v w9 hv => ?_)
    obtain ⟨k9, b9, rfl, hb1, hb2, hb3⟩ := hv
    have k9' := k8'.trans k9
    apply Run.by_eq
    · intro self
      conv => lhs; simp -implicitDefEqProofs (maxSteps := 300000) (disch := omega) [-getElem?_pos, -getElem?_neg]
    try (with_reducible refine Run.ret ?_)
    apply zz
    have kq : Keep w9 (w9.pushed (.cells [.int .i64 0, .int .i64 2, .int .i64 4] none)) := (Keep.refl _).pushed _
    have h024 : IntsAt (w9.pushed (.cells [.int .i64 0, .int .i64 2, .int .i64 4] none)) (.slice (some ⟨w9.next, 0, none⟩) 3 3) [0, 2, 4] := ints_of_cells (xs := [0, 2, 4]) (Nat.lt_succ_self _) (get_pushed_new _ _)
    refine Run.call ((hvZ _ _ _ _ ((smZ hb2 hb3).keep kq) h024 (by decide)).mono fun v w10 hv => ?_)
    obtain ⟨rfl, k10⟩ := hv
    have k10' := (k9'.trans kq).trans k10
    clear hb1 hb2 hb3
    rw [verZ]
    apply Run.by_eq
    · intro self
      conv => lhs; simp -implicitDefEqProofs (maxSteps := 300000) (disch := omega) [-getElem?_pos, -getElem?_neg]
    try (with_reducible refine Run.ret ?_)
    apply zz
    refine Run.call ((F_ev _).mono fun v w11 hv => ?_)
    obtain ⟨k11, b11, rfl, hb1, hb2, hb3⟩ := hv
    have k11' := k10'.trans k11
    apply Run.by_eq
    · intro self
      conv => lhs; simp -implicitDefEqProofs (maxSteps := 300000) (disch := omega) [-getElem?_pos, -getElem?_neg]
    try (with_reducible refine Run.ret ?_)
    apply zz
    have kq2 : Keep w11 (w11.pushed (.cells [.int .i64 0, .int .i64 2, .int .i64 4] none)) := (Keep.refl _).pushed _
    have h024' : IntsAt (w11.pushed (.cells [.int .i64 0, .int .i64 2, .int .i64 4] none)) (.slice (some ⟨w11.next, 0, none⟩) 3 3) [0, 2, 4] := ints_of_cells (xs := [0, 2, 4]) (Nat.lt_succ_self _) (get_pushed_new _ _)
    refine Run.call ((hvF _ _ _ _ ((smF hb2 hb3).keep kq2) h024' (by decide)).mono fun v w12 hv => ?_)
    obtain ⟨rfl, k12⟩ := hv
    have k12' := (k11'.trans kq2).trans k12
    clear hb1 hb2 hb3
    rw [verFF]
    apply Run.by_eq
    · intro self
      conv => lhs; simp -implicitDefEqProofs (maxSteps := 300000) (disch := omega) [-getElem?_pos, -getElem?_neg]
    try (with_reducible refine Run.ret ?_)
    apply zz
    exact ⟨rfl, by simp [hmk], hk.trans k12', by simp [g7], hpv.keep k12', by simp [g9], by simp [g10], hsv.keep k12', hmv.keep k12', by simp⟩
  clear hmk g1 g2 g4 g5 g6 g7 g8 g9 g10 g11 hk hkv hci hpv hsv hmv hv0 vc
  rintro x f s1 ⟨rfl, hmk, hk, g7, hpv, g9, g10, hsv, hmv, g87⟩
  apply zz
  apply Cd.ite rfl
  · conv => lhs; simp -implicitDefEqProofs (maxSteps := 300000) (disch := omega) [-getElem?_pos, -getElem?_neg, g87]
  all_goals intro c0
  all_goals try (cases c0; done)
  all_goals try simp only [Bool.not_eq_true', Bool.not_eq_false', decide_eq_true_eq, decide_eq_false_iff_not] at c0
  all_goals apply zz
  -- Regret of F
  refine Cd.mono (Q := fun x f1 s1 => x = Ex.normal ∧ f1.marks = [] ∧ Keep s s1 ∧ f1.get 7 = pv ∧ IntsAt s1 pv [1, 2, 3] ∧ f1.get 9 = sv ∧ f1.get 10 = mv ∧ IntsAt s1 sv [2] ∧ IntsAt s1 mv [1, 2, 3] ∧ f1.get 2 = .int .i64 0 ∧ f1.get 12 = .int .i64 250) ?_ ?_
  · apply zz
    refine Cd.ra (h := ?_)
    apply Run.by_eq
    · intro self
      conv => lhs; simp -implicitDefEqProofs (maxSteps := 300000) (disch := omega) [-getElem?_pos, -getElem?_neg]
    try (with_reducible refine Run.ret ?_)
    apply zz
    refine Run.call ((F_ev _).mono fun v w1 hv => ?_)
    obtain ⟨k1, b, rfl, hb1, hb2, hb3⟩ := hv
    apply Run.by_eq
    · intro self
      conv => lhs; simp -implicitDefEqProofs (maxSteps := 300000) (disch := omega) [-getElem?_pos, -getElem?_neg]
    try (with_reducible refine Run.ret ?_)
    apply zz
    refine Run.call ((hgF _ _ (smF hb2 hb3)).mono fun v w2 hv => ?_)
    obtain ⟨k2, rg, e, rfl, hK⟩ := hv
    obtain ⟨rfl, rfl⟩ := reg_F hK
    apply Run.by_eq
    · intro self
      conv => lhs; simp -implicitDefEqProofs (maxSteps := 300000) (disch := omega) [-getElem?_pos, -getElem?_neg]
    try (with_reducible refine Run.ret ?_)
    apply zz
    have k2' := k1.trans k2
    exact ⟨rfl, by simp [hmk], hk.trans k2', by simp [g7], hpv.keep k2', by simp [g9], by simp [g10], hsv.keep k2', hmv.keep k2', by simp, by simp⟩
  clear hmk g7 g9 g10 g87 hk hpv hsv hmv
  rintro x f s1 ⟨rfl, hmk, hk, g7, hpv, g9, g10, hsv, hmv, g2, g12⟩
  apply zz
  -- Cut of F
  refine Cd.mono (Q := fun x f1 s1 => x = Ex.normal ∧ f1.marks = [] ∧ Keep s s1 ∧ f1.get 7 = pv ∧ IntsAt s1 pv [1, 2, 3] ∧ f1.get 9 = sv ∧ f1.get 10 = mv ∧ IntsAt s1 sv [2] ∧ IntsAt s1 mv [1, 2, 3] ∧ f1.get 2 = .int .i64 0 ∧ f1.get 12 = .int .i64 250 ∧ f1.get 13 = .int .i64 2 ∧ f1.get 14 = .int .i64 220 ∧ f1.get 4 = .int .i64 0) ?_ ?_
  · apply zz
    refine Cd.ra (h := ?_)
    apply Run.by_eq
    · intro self
      conv => lhs; simp -implicitDefEqProofs (maxSteps := 300000) (disch := omega) [-getElem?_pos, -getElem?_neg]
    try (with_reducible refine Run.ret ?_)
    apply zz
    refine Run.call ((F_ev _).mono fun v w1 hv => ?_)
    obtain ⟨k1, b, rfl, hb1, hb2, hb3⟩ := hv
    apply Run.by_eq
    · intro self
      conv => lhs; simp -implicitDefEqProofs (maxSteps := 300000) (disch := omega) [-getElem?_pos, -getElem?_neg]
    try (with_reducible refine Run.ret ?_)
    apply zz
    refine Run.call ((huF _ _ (smF hb2 hb3)).mono fun v w2 hv => ?_)
    obtain ⟨k2, cw, cx, e, rfl, hK⟩ := hv
    obtain ⟨rfl, hcw, hcx⟩ := hK.F
    have e1 : bestI (RF 5 0 2000 ssF) ((5 : Int).toNat - 1) = 2 := cutF1
    rw [e1] at hcw hcx
    rw [cutF2] at hcx
    subst hcw hcx
    apply Run.by_eq
    · intro self
      conv => lhs; simp -implicitDefEqProofs (maxSteps := 300000) (disch := omega) [-getElem?_pos, -getElem?_neg]
    try (with_reducible refine Run.ret ?_)
    apply zz
    have k2' := k1.trans k2
    exact ⟨rfl, by simp [hmk], hk.trans k2', by simp [g7], hpv.keep k2', by simp [g9], by simp [g10], hsv.keep k2', hmv.keep k2', by simp [g2], by simp [g12], by simp, by simp, by simp⟩
  clear hmk g7 g9 g10 g2 g12 hk hpv hsv hmv
  rintro x f s1 ⟨rfl, hmk, hk, g7, hpv, g9, g10, hsv, hmv, g2, g12, g13, g14, g4⟩
  apply zz
  refine Cd.ra (h := ?_)
  apply Run.by_eq
  · intro self
    conv => lhs; simp -implicitDefEqProofs (maxSteps := 300000) (disch := omega) [-getElem?_pos, -getElem?_neg, g2, g4, g12, g13, g14, g7]
  try (with_reducible refine Run.ret ?_)
  apply zz
  have kp1 : Keep s1 (s1.pushed (.cells [.int .i64 1, .int .i64 2, .int .i64 3] none)) := (Keep.refl _).pushed _
  refine Run.call ((numbers_ev _ _ _ _ _ (hpv.keep kp1) (ints_of_cells (xs := [1, 2, 3]) (Nat.lt_succ_self _) (get_pushed_new _ _)) (by decide) (by decide)).mono fun v w1 hv => ?_)
  obtain ⟨rfl, k1⟩ := hv
  have k1' := kp1.trans k1
  apply Run.by_eq
  · intro self
    conv => lhs; simp -implicitDefEqProofs (maxSteps := 300000) (disch := omega) [-getElem?_pos, -getElem?_neg, g9]
  try (with_reducible refine Run.ret ?_)
  apply zz
  have kp2 : Keep w1 (w1.pushed (.cells [.int .i64 2] none)) := (Keep.refl _).pushed _
  refine Run.call ((numbers_ev _ _ _ _ _ (hsv.keep (k1'.trans kp2)) (ints_of_cells (xs := [2]) (Nat.lt_succ_self _) (get_pushed_new _ _)) (by decide) (by decide)).mono fun v w2 hv => ?_)
  obtain ⟨rfl, k2⟩ := hv
  have k2' := (k1'.trans kp2).trans k2
  apply Run.by_eq
  · intro self
    conv => lhs; simp -implicitDefEqProofs (maxSteps := 300000) (disch := omega) [-getElem?_pos, -getElem?_neg, g10]
  try (with_reducible refine Run.ret ?_)
  apply zz
  have kp3 : Keep w2 (w2.pushed (.cells [.int .i64 1, .int .i64 2, .int .i64 3] none)) := (Keep.refl _).pushed _
  refine Run.call ((numbers_ev _ _ _ _ _ (hmv.keep (k2'.trans kp3)) (ints_of_cells (xs := [1, 2, 3]) (Nat.lt_succ_self _) (get_pushed_new _ _)) (by decide) (by decide)).mono fun v w3 hv => ?_)
  obtain ⟨rfl, k3⟩ := hv
  apply Run.by_eq
  · intro self
    conv => lhs; simp -implicitDefEqProofs (maxSteps := 300000) (disch := omega) [-getElem?_pos, -getElem?_neg]
  try (with_reducible refine Run.ret ?_)
  apply zz
  apply Leave.mk (by first | exact .inl rfl | exact .inr rfl) (by simp only [Fr.marks_put, fr0_marks, hmk])
  · conv => lhs; simp -implicitDefEqProofs (disch := omega) [Try.results13, hmk]
  exact ⟨rfl, hk.trans ((k2'.trans kp3).trans k3)⟩
end Go.Proofs.Ytnhokodcmeekhaa
namespace Go.Proofs.Ytnhokodcmeekhaa
open Go Kern
/-! The law of fields -/
theorem fl_bd {x : Frac} (h0 : 0 ≤ x.o) (h : Mid 3600000 30 x) : In62 (flF x) := by
  unfold Mid at h
  have h1 : 0 ≤ x.o / x.u := Int.ediv_nonneg h0 (by omega)
  have h2 : x.o / x.u ≤ x.o := Int.ediv_le_self _ h0
  unfold In62 flF; omega
theorem ce_bd {x : Frac} (h0 : 0 ≤ x.o) (h : Mid 3600000 30 x) : In62 (ceF x) := by
  unfold Mid at h
  rw [← ce_up h.2.1]
  have h1 : 0 ≤ (x.o + x.u - 1) / x.u := Int.ediv_nonneg (by omega) (by omega)
  have h2 : (x.o + x.u - 1) / x.u ≤ x.o + x.u - 1 := Int.ediv_le_self _ (by omega)
  unfold In62; omega
def knownL (m : Nat) (lo hi : Int) (ss : List SampD) : List (Int × Int) := (List.range m).map fun w => (flF (lowF m (bndN m lo hi ss).1 w), ceF (upF m (bndN m lo hi ss).1 (bndN m lo hi ss).2 w))
theorem knownL_rows (m : Nat) (lo hi : Int) (ss : List SampD) : (List.range m).map (knownRow m lo hi ss) = (knownL m lo hi ss).map spP := by
  unfold knownL; rw [List.map_map]; rfl
/-- What both answers of Known have in common. -/
theorem KnownA.both {n lo hi : Int} {ss : List SampD} {w w' : Value} {e e' : Int} {s s' : St} (h : KnownA n lo hi ss w e s) (h' : KnownA n lo hi ss w' e' s') : e' = e ∧ ∃ l, SpAt s w l ∧ SpAt s' w' l ∧ SmallP l ∧ l.length ≤ 1000 := by
  rcases h with ⟨h1, rfl, rfl⟩ | ⟨h1, rfl, rfl, h4⟩ | ⟨h1, rfl, h3, h4⟩
  · rcases h' with ⟨_, rfl, rfl⟩ | ⟨k1, _⟩ | ⟨k1, _⟩
    · exact ⟨rfl, [], .nil 0, .nil 0, (fun x hx => by cases hx), by simp⟩
    · exact absurd k1 h1
    · exact absurd k1 h1
  · rcases h' with ⟨k1, _⟩ | ⟨_, rfl, rfl, _⟩ | ⟨_, _, _, k4⟩
    · exact absurd h1 k1
    · exact ⟨rfl, [], .nil 0, .nil 0, (fun x hx => by cases hx), by simp⟩
    · obtain ⟨i, j, k, hi, hj, hk, h⟩ := h4
      rw [k4 i j k hi hj hk] at h; cases h
  · rcases h' with ⟨k1, _⟩ | ⟨_, _, _, i, j, k, hi, hj, hk, h⟩ | ⟨_, rfl, k3, _⟩
    · exact absurd h1 k1
    · rw [h4 i j k hi hj hk] at h; cases h
    · rw [knownL_rows] at h3 k3
      have hok := (fieldErr_ok h1).1
      obtain ⟨m, rfl⟩ : ∃ m : Nat, n = m := ⟨n.toNat, by omega⟩
      simp only [Int.toNat_natCast] at h3 k3 h4
      refine ⟨rfl, knownL m lo hi ss, h3, k3, fun x hx => ?_, by simp [knownL]; omega⟩
      obtain ⟨w, hw, rfl⟩ := List.mem_map.1 hx
      obtain ⟨⟨v1, v2⟩, v3, v4⟩ := vals_ok h1 h4 (w := w) (by simpa using hw)
      exact ⟨fl_bd v1 v2, ce_bd v3 v4⟩
end Go.Proofs.Ytnhokodcmeekhaa
namespace Go.Proofs.Ytnhokodcmeekhaa
open Go Kern
/-! The law of peaks -/
theorem Ans.both {n lo hi : Int} {ss : List SampD} {e e' : Int} {bad good bad' good' : Prop} (h : Ans n lo hi ss e bad good) (h' : Ans n lo hi ss e' bad' good') : e' = e ∧ ((bad ∧ bad') ∨ (good ∧ good')) := by
  rcases h with ⟨h1, rfl, h3⟩ | ⟨h1, rfl, h3, h4⟩ | ⟨h1, rfl, h3, h4⟩
  · rcases h' with ⟨_, rfl, k3⟩ | ⟨k1, _⟩ | ⟨k1, _⟩
    · exact ⟨rfl, .inl ⟨h3, k3⟩⟩
    · exact absurd k1 h1
    · exact absurd k1 h1
  · rcases h' with ⟨k1, _⟩ | ⟨_, rfl, k3, _⟩ | ⟨_, _, _, k4⟩
    · exact absurd h1 k1
    · exact ⟨rfl, .inl ⟨h3, k3⟩⟩
    · obtain ⟨i, j, k, hi, hj, hk, h⟩ := h4
      rw [k4 i j k hi hj hk] at h; cases h
  · rcases h' with ⟨k1, _⟩ | ⟨_, _, _, i, j, k, hi, hj, hk, h⟩ | ⟨_, rfl, k3, _⟩
    · exact absurd h1 k1
    · rw [h4 i j k hi hj hk] at h; cases h
    · exact ⟨rfl, .inr ⟨h3, k3⟩⟩
end Go.Proofs.Ytnhokodcmeekhaa
namespace Go.Proofs.Ytnhokodcmeekhaa
open Go Kern
/-! The law of cuts -/
theorem RegA.both {n lo hi week : Int} {ss : List SampD} {r r' e e' : Int} (h : RegA n lo hi ss week r e) (h' : RegA n lo hi ss week r' e') : e' = e ∧ r' = r := by
  rcases h with ⟨h1, rfl, rfl⟩ | ⟨h1, rfl, rfl, h4⟩ | ⟨h1, h3, h4⟩
  · rcases h' with ⟨_, rfl, rfl⟩ | ⟨k1, _⟩ | ⟨k1, _⟩
    · exact ⟨rfl, rfl⟩
    · exact absurd k1 h1
    · exact absurd k1 h1
  · rcases h' with ⟨k1, _⟩ | ⟨_, rfl, rfl, _⟩ | ⟨_, _, k4⟩
    · exact absurd h1 k1
    · exact ⟨rfl, rfl⟩
    · obtain ⟨i, j, k, hi, hj, hk, h⟩ := h4
      rw [k4 i j k hi hj hk] at h; cases h
  · rcases h' with ⟨k1, _⟩ | ⟨_, _, _, i, j, k, hi, hj, hk, h⟩ | ⟨_, k3, _⟩
    · exact absurd h1 k1
    · rw [h4 i j k hi hj hk] at h; cases h
    · rcases h3 with ⟨a1, rfl, rfl⟩ | ⟨a1, rfl, rfl⟩
      · rcases k3 with ⟨_, rfl, rfl⟩ | ⟨b1, _⟩
        · exact ⟨rfl, rfl⟩
        · rw [a1] at b1; cases b1
      · rcases k3 with ⟨b1, _⟩ | ⟨_, rfl, rfl⟩
        · rw [a1] at b1; cases b1
        · exact ⟨rfl, rfl⟩
set_option maxRecDepth 100000 in
set_option maxHeartbeats 4000000 in
theorem lawU_ev (n lo hi week : Int) (v : Value) (ss : List SampD) (s : St) (hs : SmAt s v ss) : Ev TT 6 [fieldV n lo hi v, .int .i64 week] s fun r _ => r = .bool true := by
  have hgi := given_ev n lo hi v ss
  have hrg := regret_ev n lo hi week v ss
  have hcu := cut_ev n lo hi v ss
  obtain ⟨a, c, rfl⟩ := hs.shape
  rw [List.length_map] at hs hgi hrg hcu ⊢
  unfold fieldV at hgi hrg hcu ⊢
  refine Ev.intro (fn := Try.f6) rfl (by kernel_rfl) rfl rfl ?_
  apply zz
  refine Cd.ra (h := ?_)
  apply Run.by_eq
  · intro self
    conv => lhs; simp -implicitDefEqProofs (maxSteps := 300000) (disch := omega) [-getElem?_pos, -getElem?_neg]
  try (with_reducible refine Run.ret ?_)
  apply zz
  by_cases e2 : 200 < (ss.length : Int)
  · apply zz
    refine Cd.ra (h := ?_)
    apply Run.by_eq
    · intro self
      conv => lhs; simp -implicitDefEqProofs (maxSteps := 300000) (disch := omega) [-getElem?_pos, -getElem?_neg, e2]
    try (with_reducible refine Run.ret ?_)
    apply zz
    apply Cd.ite rfl
    · conv => lhs; simp -implicitDefEqProofs (maxSteps := 300000) (disch := omega) [-getElem?_pos, -getElem?_neg]
    all_goals intro c0
    all_goals try (cases c0; done)
    all_goals try simp only [Bool.not_eq_true', Bool.not_eq_false', decide_eq_true_eq, decide_eq_false_iff_not] at c0
    all_goals apply zz
    apply zz
    refine Cd.ra (h := ?_)
    apply Run.by_eq
    · intro self
      conv => lhs; simp -implicitDefEqProofs (maxSteps := 300000) (disch := omega) [-getElem?_pos, -getElem?_neg]
    try (with_reducible refine Run.ret ?_)
    apply zz
    refine Run.call ((works_ev _).mono fun v wk hv => ?_)
    obtain ⟨rfl, hwk⟩ := hv
    apply Run.by_eq
    · intro self
      conv => lhs; simp -implicitDefEqProofs (maxSteps := 300000) (disch := omega) [-getElem?_pos, -getElem?_neg]
    try (with_reducible refine Run.ret ?_)
    apply zz
    apply Leave.mk (by first | exact .inl rfl | exact .inr rfl) (by simp only [Fr.marks_put, fr0_marks])
    · conv => lhs; simp -implicitDefEqProofs (disch := omega) [Try.results6]
    rfl
  apply zz
  refine Cd.ra (h := ?_)
  apply Run.by_eq
  · intro self
    conv => lhs; simp -implicitDefEqProofs (maxSteps := 300000) (disch := omega) [-getElem?_pos, -getElem?_neg, e2]
  try (with_reducible refine Run.ret ?_)
  apply zz
  apply Cd.ite rfl
  · conv => lhs; simp -implicitDefEqProofs (maxSteps := 300000) (disch := omega) [-getElem?_pos, -getElem?_neg]
  all_goals intro c0
  all_goals try (cases c0; done)
  all_goals try simp only [Bool.not_eq_true', Bool.not_eq_false', decide_eq_true_eq, decide_eq_false_iff_not] at c0
  all_goals apply zz
  have hl : ss.length ≤ 1000 := by omega
  have va : veq 4 (Value.slice a ss.length c) (Value.slice a ss.length c) = true := slAt_veq hs 3
  apply zz
  refine Cd.ra (h := ?_)
  apply Run.by_eq
  · intro self
    conv => lhs; simp -implicitDefEqProofs (maxSteps := 300000) (disch := omega) [-getElem?_pos, -getElem?_neg]
  try (with_reducible refine Run.ret ?_)
  apply zz
  refine Run.call ((hgi _ (hs.keep ⟨by (try simp only [pushed_next', upded_next']); omega, fun i hi => by simp -implicitDefEqProofs (disch := omega) []⟩) hl).mono fun r2 wz hv => ?_)
  obtain ⟨z, q, rfl, hq⟩ := hv
  have zb := z.2
  have za := z.1
  try simp only [pushed_next', upded_next'] at za zb
  have hrr := refRegret_ev n lo hi week q ss
  have hrc := refCut_ev n lo hi q ss
  have hoq : oneV q = true := SlAt.one hq
  obtain ⟨a2, c2, rfl⟩ := hq.shape
  rw [List.length_map] at hq hrr hrc hoq
  unfold fieldV at hrr hrc
  have vb : veq 4 (Value.slice a2 ss.length c2) (Value.slice a2 ss.length c2) = true := slAt_veq hq 3
  have z0 : wz.heap.get s.next = some (.cells [.int .i64 n, .int .i64 lo, .int .i64 hi, .slice a ss.length c] none) := by rw [zb _ (by omega)]; simp -implicitDefEqProofs (disch := omega)
  have ksz : Keep s wz := ⟨by omega, fun i hi => by rw [zb i (by omega)]; simp -implicitDefEqProofs (disch := omega)⟩
  rw [List.length_map]
  apply Run.by_eq
  · intro self
    conv => lhs; simp -implicitDefEqProofs (maxSteps := 300000) (disch := omega) [-getElem?_pos, -getElem?_neg]
  try (with_reducible refine Run.ret ?_)
  apply zz
  have kz2 : Keep wz ((wz.pushed (.cells [.int .i64 0, .int .i64 0, .int .i64 0, .slice none 0 0] none)).upded wz.next (.cells [.int .i64 n, .int .i64 lo, .int .i64 hi, .slice a2 ss.length c2] none)) := ⟨by simp, fun i hi => by simp -implicitDefEqProofs (disch := omega)⟩
  apply zz
  refine Cd.ra (h := ?_)
  apply Run.by_eq
  · intro self
    conv => lhs; simp -implicitDefEqProofs (maxSteps := 300000) (disch := omega) [-getElem?_pos, -getElem?_neg, z0, va]
  try (with_reducible refine Run.ret ?_)
  apply zz
  refine Run.call ((hrg _ (hs.keep (ksz.trans kz2)) (by omega)).mono fun v wy hv => ?_)
  obtain ⟨y, x1, e1, rfl, hA⟩ := hv
  have yb := y.2
  have ya := y.1
  try simp only [pushed_next', upded_next'] at ya yb
  have y0 : wy.heap.get s.next = some (.cells [.int .i64 n, .int .i64 lo, .int .i64 hi, .slice a ss.length c] none) := by rw [yb _ (by omega)]; simp -implicitDefEqProofs (disch := omega) [z0]
  have y1 : wy.heap.get wz.next = some (.cells [.int .i64 n, .int .i64 lo, .int .i64 hi, .slice a2 ss.length c2] none) := by rw [yb _ (by omega)]; simp -implicitDefEqProofs (disch := omega)
  have kzy : Keep wz wy := kz2.trans y
  have ksy := ksz.trans kzy
  apply Run.by_eq
  · intro self
    conv => lhs; simp -implicitDefEqProofs (maxSteps := 300000) (disch := omega) [-getElem?_pos, -getElem?_neg]
  try (with_reducible refine Run.ret ?_)
  apply zz
  refine Cd.ra (h := ?_)
  apply Run.by_eq
  · intro self
    conv => lhs; simp -implicitDefEqProofs (maxSteps := 300000) (disch := omega) [-getElem?_pos, -getElem?_neg, y1, vb]
  try (with_reducible refine Run.ret ?_)
  apply zz
  refine Run.call ((hrr _ (hq.keep kzy) (by omega)).mono fun v wu hv => ?_)
  obtain ⟨u, x2, e2', rfl, hB⟩ := hv
  have ub := u.2
  have ua := u.1
  have u0 := (ub _ (by omega)).trans y0
  have u1 := (ub _ (by omega)).trans y1
  obtain ⟨rfl, rfl⟩ := hA.both hB
  have ksu := ksy.trans u
  have kzu := kzy.trans u
  apply Run.by_eq
  · intro self
    conv => lhs; simp -implicitDefEqProofs (maxSteps := 300000) (disch := omega) [-getElem?_pos, -getElem?_neg]
  try (with_reducible refine Run.ret ?_)
  apply zz
  refine Cd.ra (h := ?_)
  apply Run.by_eq
  · intro self
    conv => lhs; simp -implicitDefEqProofs (maxSteps := 300000) (disch := omega) [-getElem?_pos, -getElem?_neg]
  try (with_reducible refine Run.ret ?_)
  apply zz
  apply Cd.ite rfl
  · conv => lhs; simp -implicitDefEqProofs (maxSteps := 300000) (disch := omega) [-getElem?_pos, -getElem?_neg]
  all_goals intro c1
  all_goals try (cases c1; done)
  all_goals try simp only [Bool.not_eq_true', Bool.not_eq_false', decide_eq_true_eq, decide_eq_false_iff_not] at c1
  all_goals apply zz
  refine Cd.mono (Q := fun x f1 s1 => x = Ex.normal ∧ f1.marks = [] ∧ f1.get 2 = .pointer (some ⟨s.next, 0, none⟩) ∧ f1.get 5 = .pointer (some ⟨wz.next, 0, none⟩) ∧ (∃ b, f1.get 49 = .bool b) ∧ s1 = wu) ?_ ?_
  · by_cases h12 : 12 < n
    · apply zz
      refine Cd.ra (h := ?_)
      apply Run.by_eq
      · intro self
        conv => lhs; simp -implicitDefEqProofs (maxSteps := 300000) (disch := omega) [-getElem?_pos, -getElem?_neg, u0, h12]
      try (with_reducible refine Run.ret ?_)
      apply zz
      exact ⟨rfl, by simp, by simp, by simp, ⟨decide (e2' = 0), by simp⟩, rfl⟩
    · apply zz
      refine Cd.ra (h := ?_)
      apply Run.by_eq
      · intro self
        conv => lhs; simp -implicitDefEqProofs (maxSteps := 300000) (disch := omega) [-getElem?_pos, -getElem?_neg, u0, h12]
      try (with_reducible refine Run.ret ?_)
      apply zz
      exact ⟨rfl, by simp, by simp, by simp, ⟨false, by simp⟩, rfl⟩
  rintro x f s1 ⟨rfl, hmk, g2, g5, ⟨bb, g49⟩, rfl⟩
  apply zz
  cases bb with
  | true =>
    apply zz
    apply Cd.ite rfl
    · conv => lhs; simp -implicitDefEqProofs (maxSteps := 300000) (disch := omega) [-getElem?_pos, -getElem?_neg, g49]
    all_goals intro c2
    all_goals try (cases c2; done)
    all_goals try simp only [Bool.not_eq_true', Bool.not_eq_false', decide_eq_true_eq, decide_eq_false_iff_not] at c2
    all_goals apply zz
    apply zz
    refine Cd.ra (h := ?_)
    apply Run.by_eq
    · intro self
      conv => lhs; simp -implicitDefEqProofs (maxSteps := 300000) (disch := omega) [-getElem?_pos, -getElem?_neg]
    try (with_reducible refine Run.ret ?_)
    apply zz
    refine Run.call ((works_ev _).mono fun v wk hv => ?_)
    obtain ⟨rfl, hwk⟩ := hv
    apply Run.by_eq
    · intro self
      conv => lhs; simp -implicitDefEqProofs (maxSteps := 300000) (disch := omega) [-getElem?_pos, -getElem?_neg]
    try (with_reducible refine Run.ret ?_)
    apply zz
    apply Leave.mk (by first | exact .inl rfl | exact .inr rfl) (by simp only [Fr.marks_put, fr0_marks, hmk])
    · conv => lhs; simp -implicitDefEqProofs (disch := omega) [Try.results6, hmk]
    rfl
  | false =>
  apply zz
  apply Cd.ite rfl
  · conv => lhs; simp -implicitDefEqProofs (maxSteps := 300000) (disch := omega) [-getElem?_pos, -getElem?_neg, g49]
  all_goals intro c2
  all_goals try (cases c2; done)
  all_goals try simp only [Bool.not_eq_true', Bool.not_eq_false', decide_eq_true_eq, decide_eq_false_iff_not] at c2
  all_goals apply zz
  apply zz
  refine Cd.ra (h := ?_)
  apply Run.by_eq
  · intro self
    conv => lhs; simp -implicitDefEqProofs (maxSteps := 300000) (disch := omega) [-getElem?_pos, -getElem?_neg, g2, u0, va]
  try (with_reducible refine Run.ret ?_)
  apply zz
  refine Run.call ((hcu _ (hs.keep ksu) (by omega)).mono fun v wp hv => ?_)
  obtain ⟨p, y3, x3, e3, rfl, hC⟩ := hv
  have pb := p.2
  have pa := p.1
  have p1 := (pb _ (by omega)).trans u1
  have kzp := kzu.trans p
  apply Run.by_eq
  · intro self
    conv => lhs; simp -implicitDefEqProofs (maxSteps := 300000) (disch := omega) [-getElem?_pos, -getElem?_neg]
  try (with_reducible refine Run.ret ?_)
  apply zz
  refine Cd.ra (h := ?_)
  apply Run.by_eq
  · intro self
    conv => lhs; simp -implicitDefEqProofs (maxSteps := 300000) (disch := omega) [-getElem?_pos, -getElem?_neg, g5, p1, vb]
  try (with_reducible refine Run.ret ?_)
  apply zz
  refine Run.call ((hrc _ (hq.keep kzp) (by omega)).mono fun v wt hv => ?_)
  obtain ⟨t, y4, x4, e4, rfl, hD⟩ := hv
  obtain ⟨rfl, hm⟩ := hC.both hD
  have hyx : y4 = y3 ∧ x4 = x3 := by
    rcases hm with ⟨⟨rfl, rfl⟩, rfl, rfl⟩ | ⟨⟨rfl, rfl⟩, rfl, rfl⟩ <;> exact ⟨rfl, rfl⟩
  obtain ⟨rfl, rfl⟩ := hyx
  apply Run.by_eq
  · intro self
    conv => lhs; simp -implicitDefEqProofs (maxSteps := 300000) (disch := omega) [-getElem?_pos, -getElem?_neg]
  try (with_reducible refine Run.ret ?_)
  apply zz
  refine Cd.ra (h := ?_)
  apply Run.by_eq
  · intro self
    conv => lhs; simp -implicitDefEqProofs (maxSteps := 300000) (disch := omega) [-getElem?_pos, -getElem?_neg]
  try (with_reducible refine Run.ret ?_)
  apply zz
  refine Run.call ((works_ev _).mono fun v wk hv => ?_)
  obtain ⟨rfl, hwk⟩ := hv
  apply Run.by_eq
  · intro self
    conv => lhs; simp -implicitDefEqProofs (maxSteps := 300000) (disch := omega) [-getElem?_pos, -getElem?_neg]
  try (with_reducible refine Run.ret ?_)
  apply zz
  apply Leave.mk (by first | exact .inl rfl | exact .inr rfl) (by simp only [Fr.marks_put, fr0_marks, hmk])
  · conv => lhs; simp -implicitDefEqProofs (disch := omega) [Try.results6, hmk]
  rfl
end Go.Proofs.Ytnhokodcmeekhaa
namespace Go.Proofs.Ytnhokodcmeekhaa
open Go Kern
/-! The law of clashes -/
end Go.Proofs.Ytnhokodcmeekhaa
namespace Go.Proofs.Ytnhokodcmeekhaa
open Go Kern RowKit
/-- A slice of the world whose elements are known, cell by cell. -/
def SlW (W : World) (n : Nat) (v : Value) (l : List (List Value)) : Prop :=
  (l = [] ∧ v = .slice none 0 0) ∨ ∃ (b off cap : Nat) (C : Array Value) (e : TypeId) (fr : Nat × Nat), v = .slice (some ⟨b, off, none⟩) l.length cap ∧ W.heap[b]? = some (.cells C e fr) ∧
    (l ≠ [] → off + l.flatten.length ≤ C.size ∧ (C.toList.drop off).take l.flatten.length = l.flatten)
theorem romAt_pushed {s : St} {o : AObj} {i : Nat} (h : i ≠ s.next) : romAt (s.pushed o).heap i = romAt s.heap i := by
  unfold romAt; rw [get_pushed_old _ _ _ h]
theorem WRel_rom {N : Nat} {σ : Ren} {s : St} {w : World} (hw : WRel N σ s w) {b sh : Nat} {c : List Value} {C : Array Value} {e : TypeId} {fr : Nat × Nat} (hb : w.heap[b]? = some (.cells C e fr)) (hN : b < N) (hs : sh + c.length ≤ C.size)
    (h : LRel σ c ((C.toList.drop sh).take c.length)) : WRel N (σ.add s.next b sh none) (s.pushed (.rom c)) w := by
  have hle := Ren.le_add (b := b) (sh := sh) (x := none) (hw.fresh (Nat.le_refl s.next))
  have hlt : b < w.heap.size := (Array.getElem?_eq_some_iff.1 hb).1
  refine ⟨hw.base, ?_, ?_, ?_, ?_⟩
  · intro i b' sh' x' hi
    by_cases ei : i = s.next
    · subst ei
      rw [Ren.add_same] at hi; cases hi
      have : romAt (s.pushed (.rom c)).heap s.next = true := by unfold romAt; rw [get_pushed_new]; rfl
      exact ⟨⟨fun k => (by rw [this] at k; cases k), fun _ => hN⟩, hlt⟩
    · rw [Ren.add_ne ei] at hi
      rw [romAt_pushed ei]
      exact hw.lt hi
  · intro i hi
    rw [Ren.add_ne (by have : s.next + 1 ≤ i := hi; omega)]
    exact hw.fresh (by have : s.next + 1 ≤ i := hi; omega)
  · intro i b' sh' x' o hi ho
    by_cases ei : i = s.next
    · subst ei
      rw [Ren.add_same] at hi; cases hi
      rw [get_pushed_new] at ho; cases ho
      exact ⟨_, hb, .rom rfl hs (h.mono hle)⟩
    · rw [Ren.add_ne ei] at hi
      rw [get_pushed_old _ _ _ ei] at ho
      obtain ⟨O, h1, h2⟩ := hw.real hi ho
      exact ⟨O, h1, h2.mono hle⟩
  · intro i j b' sh1 x1 sh2 x2 o1 o2 hi hj h1 h2 d1 d2 hr
    by_cases ei : i = s.next
    · subst ei
      rw [get_pushed_new] at h1; cases h1; cases hr
    · rw [Ren.add_ne ei] at hi
      rw [get_pushed_old _ _ _ ei] at h1
      by_cases ej : j = s.next
      · subst ej
        rw [Ren.add_same] at hj; cases hj
        have : romAt s.heap i = false := by unfold romAt; rw [h1]; exact hr
        exact absurd ((hw.lt hi).1.1 this) (by omega)
      · rw [Ren.add_ne ej] at hj
        rw [get_pushed_old _ _ _ ej] at h2
        exact hw.inj hi hj h1 h2 d1 d2 hr
/-- A slice of the world gets a read-only block of the calculation. -/
theorem attach {N : Nat} {σ : Ren} {s : St} {w : World} (hw : WRel N σ s w) (hN : N = w.heap.size) {n : Nat} {v : Value} {l : List (List Value)} (h : SlW w n v l) (hl : ∀ x ∈ l, x.length = n) (hc : l.flatten.all closed1 = true) :
    ∃ τ s' v', σ.le τ ∧ WRel N τ s' w ∧ VRel τ v' v ∧ SlAt n s' v' l ∧ Keep s s' := by
  rcases h with ⟨rfl, rfl⟩ | ⟨b, off, cap, C, e, fr, rfl, hb, hf⟩
  · exact ⟨σ, s, .slice none 0 0, σ.le_refl, hw, .sliceNil _ _, .nil 0, Keep.refl _⟩
  have hlt : b < w.heap.size := (Array.getElem?_eq_some_iff.1 hb).1
  by_cases he : l = []
  · subst he
    have hw2 := WRel_rom hw (sh := 0) (c := []) hb (by omega) (by simp) (by simpa using LRel.nil)
    refine ⟨_, _, .slice (some ⟨s.next, off, none⟩) 0 cap, Ren.le_add (hw.fresh (Nat.le_refl _)), hw2, ?_, ?_, (Keep.refl s).pushed _⟩
    · have := VRel.slice (σ := σ.add s.next b 0 none) (i := s.next) (o := off) (o' := off) (b := b) (s := 0) (l := 0) (c := cap) (c' := cap) (x := none) Ren.add_same ⟨rfl, rfl⟩
      rw [Nat.zero_add] at this
      exact this
    · exact SlAt.mk (l := []) (Nat.lt_succ_self _) (get_pushed_new _ _) rfl (fun i e h => by simp at h)
  · obtain ⟨h1, h2⟩ := hf he
    have hw2 := WRel_rom hw (sh := off) (c := l.flatten) hb (by omega) h1 (by rw [h2]; exact closedL_rel hc)
    refine ⟨_, _, .slice (some ⟨s.next, 0, none⟩) l.length cap, Ren.le_add (hw.fresh (Nat.le_refl _)), hw2, ?_, ?_, (Keep.refl s).pushed _⟩
    · exact VRel.slice (σ := σ.add s.next b off none) (i := s.next) (o := 0) (o' := 0) (b := b) (s := off) (l := l.length) (c := cap) (c' := cap) (x := none) Ren.add_same ⟨rfl, rfl⟩
    · exact SlAt.mk (Nat.lt_succ_self _) (get_pushed_new _ _) rfl (fun i e h => by rw [Nat.zero_add]; exact drop_flat hl h)
theorem stubOk : StubOk Try.prog TT := StubOk.none rfl
/-- What the calculation finds true holds of the call in the world. -/
theorem calls_of_ev {g : FuncId} {args : List Value} {s : St} (h : Ev TT g args s fun r _ => r = .bool true) {N : Nat} {σ : Ren} {w : World} (hw : WRel N σ s w) (hN : N = w.heap.size) {args' : Array Value} (ha : LRel σ args args'.toList) :
    Calls Try.prog g args' w fun e w' => e = .returned (.bool true) ∧ Below w.heap.size w w' := by
  obtain ⟨m, ⟨v, s'⟩, h1, h2⟩ := h
  have h2' : v = .bool true := h2
  subst h2'
  refine ((run_ok tabOk rfl stubOk m).call (h1 m (Nat.le_refl _)) hw ha).mono fun e w' he => ?_
  obtain ⟨τ, v', rfl, hx, _, hv⟩ := he
  rw [hv.of_bool]
  exact ⟨rfl, hN ▸ hx.below⟩
end Go.Proofs.Ytnhokodcmeekhaa
namespace Go.Proofs.Ytnhokodcmeekhaa
open Go Kern RowKit Go.ChangeShapes Go.WideShapes Go.ChangeAt
open Go.ChangeMaps (open_string)
theorem take_eq_of {α : Type} {L cs : List α} {k n : Nat} (hl : cs.length = n) (h : ∀ j, j < n → L[k + j]? = cs[j]?) : (L.drop k).take n = cs := by
  apply List.ext_getElem?
  intro j
  rw [List.getElem?_take, List.getElem?_drop]
  by_cases hj : j < n
  · rw [if_pos hj]; exact h j hj
  · rw [if_neg hj, List.getElem?_eq_none (by omega)]
theorem rows_flat {α : Type} {L : List α} {k n : Nat} (g : Nat → List α) : ∀ {len : Nat}, (∀ i, i < len → (L.drop (k + i * n)).take n = g i) → ((List.range len).map g).flatten = (L.drop k).take (len * n)
  | 0, _ => by simp
  | len + 1, h => by
    rw [List.range_succ, List.map_append, List.flatten_append, rows_flat g (fun i hi => h i (by omega)), List.map_cons, List.map_nil, List.flatten_cons, List.flatten_nil, List.append_nil, ← h len (by omega),
      Nat.add_mul, Nat.one_mul, List.take_add, List.drop_drop]
/-- A slice that the row reads, as a list of its elements' cells. -/
theorem slW_of {H : Type} {enc : TypeId × Value → H} {P : Program} {W : World} {t e : TypeId} {n fuel : Nat} {v : Value} {x : DataW H × List MemPlace} (ht : P.underlying t = some (.slice e)) (hn : P.cellsOf e = n) (hn0 : 0 < n)
    (hok : Cell.ok P W .any 0 t v) (h : DataW.trod enc P W 0 (fun _ => true) true fuel t [v] = some x) :
    ∃ l, SlW W n v l ∧ (∀ y ∈ l, y.length = n) ∧ ∀ y ∈ l, ∃ m z, DataW.trod enc P W 0 (fun _ => true) true m e y = some z := by
  rcases Go.Deep.open_slice ht h with ⟨hcs, _⟩ | ⟨a, len, cap, m, q, D, Pl, hcs, _, hlc, _, hm, _, hel⟩
  · simp at hcs; subst hcs
    exact ⟨[], .inl ⟨rfl, rfl⟩, by simp, by simp⟩
  · simp at hcs; subst hcs
    simp only [Cell.ok, ht] at hok
    obtain ⟨_, _, _, hsp, row, cells, hsh, _⟩ := hok
    obtain ⟨b, off, spot⟩ := a
    simp only at hsp; subst hsp
    obtain ⟨C, E, fr, hb⟩ : ∃ C E fr, W.heap[b]? = some (.cells C E fr) := by
      unfold World.shape? at hsh
      simp only at hsh
      split at hsh
      · rename_i c el fr hh; exact ⟨c, el, fr, hh⟩
      all_goals cases hsh
    rw [hn] at hel
    simp at hm; subst hm
    have hrow : ∀ i, i < len → ∃ cs', cs'.length = n ∧ (∀ j, j < n → C.toList[off + i * n + j]? = cs'[j]?) ∧ ∃ z, DataW.trod enc P W 0 (fun _ => true) true q e cs' = some z := fun i hi => by
      obtain ⟨cs', h1, h2⟩ := hel i (by omega)
      obtain ⟨_, h3, h4⟩ := World.cells?_some h1
      refine ⟨cs', h3, fun j hj => ?_, _, h2⟩
      have := h4 j hj
      rw [addr_add, addr_add] at this
      simp only [World.cell?, hb] at this
      simpa using this
    have hg : ∀ i, i < len → ((C.toList.drop (off + i * n)).take n).length = n ∧ ∃ z, DataW.trod enc P W 0 (fun _ => true) true q e ((C.toList.drop (off + i * n)).take n) = some z := fun i hi => by
      obtain ⟨cs', h1, h2, z, h3⟩ := hrow i hi
      rw [take_eq_of h1 h2]
      exact ⟨h1, z, h3⟩
    have hfl := rows_flat (L := C.toList) (k := off) (n := n) (len := len) (fun i => (C.toList.drop (off + i * n)).take n) fun _ _ => rfl
    refine ⟨(List.range len).map fun i => (C.toList.drop (off + i * n)).take n, .inr ⟨b, off, m, C, E, fr, by simp, hb, fun hne => ?_⟩, fun y hy => ?_, fun y hy => ?_⟩
    · rw [hfl]
      have hlen : 0 < len := by
        rcases Nat.eq_zero_or_pos len with h | h
        · subst h; simp at hne
        · exact h
      obtain ⟨cs', h1, h2, _⟩ := hrow (len - 1) (by omega)
      have h3 := h2 (n - 1) (by omega)
      rw [List.getElem?_eq_getElem (l := cs') (by omega)] at h3
      have h4 := (List.getElem?_eq_some_iff.1 h3).1
      have h5 : len * n = (len - 1) * n + n := by rw [← Nat.succ_mul]; congr 1; omega
      have h6 : off + len * n ≤ C.size := by simp at h4; omega
      have h7 : ((C.toList.drop off).take (len * n)).length = len * n := by simp; omega
      rw [h7]
      exact ⟨h6, rfl⟩
    · obtain ⟨i, hi, rfl⟩ := List.mem_map.1 hy
      exact (hg i (by simpa using hi)).1
    · obtain ⟨i, hi, rfl⟩ := List.mem_map.1 hy
      obtain ⟨z, hz⟩ := (hg i (by simpa using hi)).2
      exact ⟨_, z, hz⟩
theorem list_of {α β : Type} {g : β → α} : ∀ {l : List α}, (∀ y ∈ l, ∃ f, y = g f) → ∃ fs : List β, l = fs.map g
  | [], _ => ⟨[], rfl⟩
  | y :: r, h => by
    obtain ⟨f, rfl⟩ := h y (.head _)
    obtain ⟨fs, rfl⟩ := list_of (l := r) fun z hz => h z (.tail _ hz)
    exact ⟨f :: fs, rfl⟩
theorem un3 : Try.prog.underlying 3 = some (.int .i64) := by kernel_rfl
theorem ce3 : Try.prog.cellsOf 3 = 1 := by kernel_rfl
theorem un24 : Try.prog.underlying 24 = some (.slice 82) := by kernel_rfl
theorem un23 : ∃ f0 f1 : Field, Try.prog.underlying 23 = some (.struct #[f0, f1]) ∧ (f0.type = 3 ∧ f0.offset = 0) ∧ (f1.type = 3 ∧ f1.offset = 1) := ⟨_, _, Try.underlying23, ⟨rfl, rfl⟩, ⟨rfl, rfl⟩⟩
theorem un26 : ∃ f0 f1 f2 : Field, Try.prog.underlying 26 = some (.struct #[f0, f1, f2]) ∧ (f0.type = 3 ∧ f0.offset = 0) ∧ (f1.type = 23 ∧ f1.offset = 1) ∧ (f2.type = 24 ∧ f2.offset = 3) := ⟨_, _, _, Try.underlying26, ⟨rfl, rfl⟩, ⟨rfl, rfl⟩, ⟨rfl, rfl⟩⟩
theorem un82 : ∃ f0 f1 f2 : Field, Try.prog.underlying 82 = some (.struct #[f0, f1, f2]) ∧ (f0.type = 3 ∧ f0.offset = 0) ∧ (f1.type = 3 ∧ f1.offset = 1) ∧ (f2.type = 3 ∧ f2.offset = 2) := ⟨_, _, _, Try.underlying82, ⟨rfl, rfl⟩, ⟨rfl, rfl⟩, ⟨rfl, rfl⟩⟩
theorem ce82 : Try.prog.cellsOf 82 = 3 := by kernel_rfl
theorem ce23 : Try.prog.cellsOf 23 = 2 := by kernel_rfl
theorem ce24 : Try.prog.cellsOf 24 = 1 := by kernel_rfl
theorem ce26 : Try.prog.cellsOf 26 = 4 := by kernel_rfl
theorem ct26 : Try.prog.cellTypes Try.prog.depth 26 = some [3, 3, 3, 24] := by kernel_rfl
section
variable {H : Type} {enc : TypeId × Value → H} {W : World}
theorem int_of {m : Nat} {cs : List Value} {z : DataW H × List MemPlace} (h : DataW.trod enc Try.prog W 0 (fun _ => true) true m 3 cs = some z) : ∃ x : Int, cs = [Value.int .i64 x] := by
  obtain ⟨x, e, _, _⟩ := DataW.trod_int un3 h
  exact ⟨x, e⟩
theorem samp_of {m : Nat} {cs : List Value} {z : DataW H × List MemPlace} (hl : cs.length = 3) (h : DataW.trod enc Try.prog W 0 (fun _ => true) true m 82 cs = some z) : ∃ f : SampD, cs = f.cs := by
  match cs, hl with
  | [c0, c1, c2], _ =>
    obtain ⟨f0, f1, f2, hu, ⟨t0, o0⟩, ⟨t1, o1⟩, t2, o2⟩ := un82
    obtain ⟨y0, y1, y2, n, _, _, h0, h1, h2⟩ := Go.Deep.trod_struct3 hu h
    rw [t0, o0, ce3] at h0
    rw [t1, o1, ce3] at h1
    rw [t2, o2, ce3] at h2
    obtain ⟨x0, e0⟩ := int_of h0
    obtain ⟨x1, e1⟩ := int_of h1
    obtain ⟨x2, e2⟩ := int_of h2
    simp at e0 e1 e2
    subst e0 e1 e2
    exact ⟨⟨x0, x1, x2⟩, rfl⟩
set_option maxRecDepth 100000 in
/-- A field, as the row reads it. -/
theorem field_of {v : Value} {d : DataW H} {p : List MemPlace} (hv : Value.okWide Try.prog W .any 0 26 v) (h : DataW.Trod enc Try.prog W 0 (fun _ => true) true 26 v d p) :
    ∃ (n lo hi : Int) (fl : Value) (ss : List SampD), v = fieldV n lo hi fl ∧ SlW W 3 fl (ss.map SampD.cs) := by
  obtain ⟨f0, f1, f2, hu, ⟨t0, o0⟩, ⟨t1, o1⟩, t2, o2⟩ := un26
  have hv' := hv
  simp only [Value.okWide, hu] at hv'
  obtain ⟨cs, rfl, hsz, ts, hts, _, hrow⟩ := hv'
  rw [ct26] at hts; cases hts
  rw [ce26] at hsz
  obtain ⟨fuel, hf⟩ := h
  obtain ⟨l⟩ := cs
  match l, hsz with
  | [c0, c1, c2, c3], _ =>
    obtain ⟨y0, y1, y2, m, _, _, h0, h1, h2⟩ := Go.Deep.trod_struct3 hu hf
    rw [t0, o0, ce3] at h0
    rw [t1, o1, ce23] at h1
    rw [t2, o2, ce24] at h2
    obtain ⟨n, e0⟩ := int_of h0
    obtain ⟨g0, g1, hu2, ⟨s0, q0⟩, s1, q1⟩ := un23
    obtain ⟨z0, z1, m2, _, _, k0, k1⟩ := trod_struct2 hu2 h1
    rw [s0, q0, ce3] at k0
    rw [s1, q1, ce3] at k1
    obtain ⟨lo, e1⟩ := int_of k0
    obtain ⟨hi, e2⟩ := int_of k1
    simp [Value.cells] at e0 e1 e2 h2
    subst e0 e1 e2
    obtain ⟨w, hw, hok⟩ := hrow 3 c3 rfl
    simp at hw; subst hw
    obtain ⟨a, len, cap, rfl⟩ : ∃ a len cap, c3 = .slice a len cap := by
      simp only [Cell.okWide, un24] at hok
      cases c3 <;> simp_all [Cell.ok]
    have hok' : Cell.ok Try.prog W .any 0 24 (.slice a len cap) := by
      simp only [Cell.okWide, un24] at hok; exact hok
    obtain ⟨l, g1, g2, g3⟩ := slW_of un24 ce82 (by omega) hok' h2
    obtain ⟨ss, rfl⟩ := list_of (g := SampD.cs) fun y hy => by
      obtain ⟨m, z, hz⟩ := g3 y hy
      exact samp_of (g2 y hy) hz
    exact ⟨n, lo, hi, _, ss, rfl, g1⟩
end
end Go.Proofs.Ytnhokodcmeekhaa
namespace Go.Proofs.Ytnhokodcmeekhaa
open Go Kern RowKit Go.ChangeShapes Go.WideShapes Go.ChangeAt
theorem Try.own : ownKnob Try.prog.godebug = none := by kernel_rfl
theorem laidB : laidOutB Try.prog = true := by kernel_rfl
theorem again_of {H : Type} {enc : TypeId × Value → H} {t : TypeId} {W W' : World} {v : Value} {d : DataW H} {p : List MemPlace} (hr : Try.prog.readableRec t = true) (ht : t < Try.prog.types.size)
    (h : DataW.Trod enc Try.prog W 0 (fun _ => true) true t v d p) (hb : Below W.heap.size W W') : DataW.Trod enc Try.prog W' 0 (fun b => decide (b < W.heap.size)) true t v d p :=
  Below.trod laidB hr ht h hb (DataW.TrodAll.lt (trodAll_mk1 h))
end Go.Proofs.Ytnhokodcmeekhaa
namespace Go.Proofs.Ytnhokodcmeekhaa
open Go Kern RowKit Go.ChangeShapes Go.WideShapes Go.ChangeAt
theorem attach_field {v : Value} {ss : List SampD} {W : World} (hf : SlW W 3 v (ss.map SampD.cs)) : ∃ σ1 s1 v', WRel W.heap.size σ1 s1 W ∧ VRel σ1 v' v ∧ SmAt s1 v' ss := by
  have hw0 : WRel W.heap.size (fun _ => none) ⟨.leaf, 0⟩ W := ⟨Nat.le_refl _, (fun h => by cases h), fun _ => rfl, (fun h => by cases h), (fun h => by cases h)⟩
  obtain ⟨σ1, s1, v', _, hw1, hv, hs1, k1⟩ := attach hw0 rfl hf (fun x hx => by obtain ⟨f, _, rfl⟩ := List.mem_map.1 hx; rfl) (by
    rw [List.all_eq_true]; intro y hy
    obtain ⟨z, hz, hy⟩ := List.mem_flatten.1 hy
    obtain ⟨f, _, rfl⟩ := List.mem_map.1 hz
    simp [SampD.cs] at hy
    rcases hy with rfl | rfl | rfl <;> rfl)
  exact ⟨σ1, s1, v', hw1, hv, hs1⟩
end Go.Proofs.Ytnhokodcmeekhaa
namespace Go.Proofs.Ytnhokodcmeekhaa
open Go Kern RowKit Go.ChangeShapes Go.WideShapes Go.ChangeAt
theorem lawU_calls (n lo hi x : Int) (v : Value) (ss : List SampD) (W : World) (hf : SlW W 3 v (ss.map SampD.cs)) :
    Calls Try.prog 6 #[fieldV n lo hi v, .int .i64 x] W fun e w' => e = .returned (.bool true) ∧ Below W.heap.size W w' := by
  obtain ⟨σ1, s1, v', hw1, hv, hs1⟩ := attach_field hf
  refine calls_of_ev (lawU_ev n lo hi x v' ss s1 hs1) hw1 rfl ?_
  exact .cons (.agg (.cons (.int _ _) (.cons (.int _ _) (.cons (.int _ _) (.cons hv .nil))))) (.cons (.int _ _) .nil)
set_option maxRecDepth 100000 in
theorem cuts_lifted (os : Os) (started : os.Started) (H : Type) (enc : TypeId × Value → H) :
    ReturnsInHanded {} Try.checked os 6 .any (Rows.ripeCutsSpec.pre6 enc Try.prog Try.f6 Rows.ripeCutsRow.domain false) (Rows.ripeCutsSpec.post enc Try.prog Try.f6 false true false false) := by
  refine returnsInHanded_of_change (C := Try.checked) Try.own started (by kernel_rfl) Try.func6
    (ChangeSpec.witness6 (enc := enc) (C := Try.checked) false ⟨#[], #[.agg #[.int .i64 0, .int .i64 0, .int .i64 0, .slice none 0 0], .int .i64 0], []⟩ 8 (by kernel_rfl) (by kernel_rfl) (by kernel_rfl) (by kernel_rfl)) ?_
  intro W base args ds gs before hval hW hcnd _
  have hW' := hW
  obtain ⟨p, q, hA0, hV, rfl, hfz, hnd⟩ := hW
  have hA : DataW.TrodAll enc Try.prog W 0 (fun _ => true) true Try.f6.params.toList args.toList ds p := hA0
  rw [Try.params6] at hA
  obtain ⟨v0, v1, d0, d1, p0, p1, rfl, rfl, rfl, h0, h1⟩ := trodAll_two hA
  obtain ⟨rfl, rfl⟩ := trodVars_none hV
  obtain ⟨n, lo, hi, fl, ss, rfl, hf⟩ := field_of (hval 0 26 v0 rfl rfl) h0
  have h1k := h1
  obtain ⟨x, rfl, rfl, rfl, _⟩ := open_int un3 (hval 1 3 v1 rfl rfl) h1
  refine (lawU_calls n lo hi x fl ss W hf).mono fun e W' ⟨he, hb⟩ => ?_
  subst he
  exact ⟨_, rfl, [_, _], [], _, [], _, [], hW', trodAll_mk1 (shut_bool Try.underlying4 _), trodAll_mk2 (again_of (by kernel_rfl) (of_decide_eq_true (by kernel_rfl)) h0 hb) (again_of (by kernel_rfl) (of_decide_eq_true (by kernel_rfl)) h1k hb), rfl, hb.frame _, fun h => by cases h⟩

theorem cuts_holds : Rows.RipeCutsSaid :=
  OpenClaim.holds_of_wide 6 Try.f6 rfl rfl rfl rfl rfl rfl rfl ⟨rfl, rfl, rfl, rfl, rfl⟩ rfl rfl rfl rfl rfl (by kernel_rfl) Try.func6 (by kernel_rfl)
    (of_decide_eq_true (by kernel_rfl)) (by unfold Func.isWrapper; first | (rw [if_pos (by decide +kernel)]; kernel_rfl) | (rw [if_neg (by decide +kernel)]; exact ⟨rfl, rfl⟩))
    (fun os started H enc _ => cuts_lifted os started H enc)
end Go.Proofs.Ytnhokodcmeekhaa
