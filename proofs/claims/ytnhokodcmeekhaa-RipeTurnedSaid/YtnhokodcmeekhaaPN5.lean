/-
  . They hold with no condition but those that are written in each theorem.
-/
import Derived.Test.YtnhokodcmeekhaaPN1
import Derived.Test.YtnhokodcmeekhaaPN2
import Derived.Test.YtnhokodcmeekhaaPN3
import Derived.Test.YtnhokodcmeekhaaPN4
set_option linter.unusedSimpArgs false
set_option linter.unusedVariables false
namespace Go.Proofs.Ytnhokodcmeekhaa
open Go Kern
theorem SlAt.one {n : Nat} {s : St} {v : Value} {l : List (List Value)} (h : SlAt n s v l) : oneV v = true := by obtain ⟨a, c, rfl⟩ := h.shape; rfl
def kL : List (Int × Int) := [(980, 1020), (1180, 1545), (1380, 1420), (1275, 1640), (1170, 1230)]
theorem small_kL : SmallP kL := fun x hx => by
  unfold kL at hx
  simp only [List.mem_cons, List.not_mem_nil, or_false] at hx
  rcases hx with rfl | rfl | rfl | rfl | rfl <;> exact ⟨by unfold In62; decide, by unfold In62; decide⟩
theorem rverF_trip {n lo hi : Int} {ss : List SampD} {i j k : Nat} (h : fieldErr n lo hi ss = 0) (hi' : i < n.toNat) (hj : j < n.toNat) (hk : k < n.toNat) (hc : holdsB (fun w => (endN lo hi ss w).1) (fun w => (endN lo hi ss w).2) i j k = true) : rverF n lo hi ss [(i : Int), (j : Int), (k : Int)] = 0 := by
  unfold rverF verIn
  rw [if_pos h, if_pos (show [(i : Int), (j : Int), (k : Int)].length = 3 from rfl), if_pos (by simp [weekB]; omega)]
  simp only [List.getD_cons_zero, List.getD_cons_succ, Int.toNat_natCast]
  rw [if_pos hc]
theorem trip_ver {i j k : Nat} (hi : i < 5) (hj : j < 5) (hk : k < 5) (h : hB 0 2000 ssZ i j k = true) : verF 5 0 2000 ssZ [(i : Int), (j : Int), (k : Int)] = 0 := by
  rw [verF_eq]
  exact rverF_trip errZ hi hj hk h
set_option maxRecDepth 100000 in
set_option maxHeartbeats 4000000 in
theorem works_ev (s : St) : Ev TT 13 [] s fun r s' => r = .bool true ∧ Keep s s' := by
  have hkF := fun v s h => known_ev 5 0 2000 v ssF s h (by decide)
  have hkZ := fun v s h => known_ev 5 0 2000 v ssZ s h (by decide)
  have hcZ := fun v s h => clashTop_ev 5 0 2000 v ssZ s h (by decide)
  have hpF := fun v s h => peaks_ev 5 0 2000 v ssF s h (by decide)
  have hrF := fun v s h => ripe_ev 5 0 2000 1300 v ssF s h (by decide)
  have hgF := fun v s h => regret_ev 5 0 2000 3 v ssF s h (by decide)
  have huF := fun v s h => cut_ev 5 0 2000 v ssF s h (by decide)
  have hvZ := fun v w ws s h hw hl => verify_ev 5 0 2000 v w ssZ ws s h (by decide) hw hl
  have hvF := fun v w ws s h hw hl => verify_ev 5 0 2000 v w ssF ws s h (by decide) hw hl
  unfold fieldV at hkF hkZ hcZ hpF hrF hgF huF hvZ hvF
  refine Ev.intro (fn := Try.f13) rfl (by kernel_rfl) rfl rfl ?_
  apply zz
  refine Cd.ra (h := ?_)
  apply Run.by_eq
  · intro self
    conv => lhs; simp -implicitDefEqProofs (maxSteps := 300000) (disch := omega) [-getElem?_pos, -getElem?_neg]
  try (with_reducible refine Run.ret ?_)
  apply zz
  -- Known of F
  refine Cd.mono (Q := fun x f1 s1 => x = Ex.normal ∧ f1.marks = [] ∧ Keep s s1 ∧ ∃ kv, f1.get 1 = kv ∧ f1.get 2 = .int .i64 0 ∧ SpAt s1 kv [(980, 1020), (1180, 1545), (1380, 1420), (1275, 1640), (1170, 1230)]) ?_ ?_
  · apply zz
    refine Cd.ra (h := ?_)
    apply Run.by_eq
    · intro self
      conv => lhs; simp -implicitDefEqProofs (maxSteps := 300000) (disch := omega) [-getElem?_pos, -getElem?_neg]
    try (with_reducible refine Run.ret ?_)
    apply zz
    refine Run.call ((F_ev _).mono fun v w1 hv => ?_)
    obtain ⟨k1, b, rfl, hb1, hb2, hb3⟩ := hv
    apply Run.by_eq
    · intro self
      conv => lhs; simp -implicitDefEqProofs (maxSteps := 300000) (disch := omega) [-getElem?_pos, -getElem?_neg]
    try (with_reducible refine Run.ret ?_)
    apply zz
    refine Run.call ((hkF _ _ (smF hb2 hb3)).mono fun v w2 hv => ?_)
    obtain ⟨k2, kv, e, rfl, hK⟩ := hv
    obtain ⟨rfl, hkv⟩ := known_F hK
    have ho := SlAt.one hkv
    apply Run.by_eq
    · intro self
      conv => lhs; simp -implicitDefEqProofs (maxSteps := 300000) (disch := omega) [-getElem?_pos, -getElem?_neg]
    try (with_reducible refine Run.ret ?_)
    apply zz
    exact ⟨rfl, by simp, k1.trans k2, kv, by simp, by simp, hkv⟩
  rintro x f s1 ⟨rfl, hmk, hk, kv, g1, g2, hkv⟩
  apply zz
  -- Known of Z
  refine Cd.mono (Q := fun x f1 s1 => x = Ex.normal ∧ f1.marks = [] ∧ Keep s s1 ∧ f1.get 1 = kv ∧ f1.get 2 = .int .i64 0 ∧ f1.get 4 = .int .i64 12 ∧ SpAt s1 kv [(980, 1020), (1180, 1545), (1380, 1420), (1275, 1640), (1170, 1230)]) ?_ ?_
  · apply zz
    refine Cd.ra (h := ?_)
    apply Run.by_eq
    · intro self
      conv => lhs; simp -implicitDefEqProofs (maxSteps := 300000) (disch := omega) [-getElem?_pos, -getElem?_neg]
    try (with_reducible refine Run.ret ?_)
    apply zz
    refine Run.call ((Z_ev _).mono fun v w1 hv => ?_)
    obtain ⟨k1, b, rfl, hb1, hb2, hb3⟩ := hv
    apply Run.by_eq
    · intro self
      conv => lhs; simp -implicitDefEqProofs (maxSteps := 300000) (disch := omega) [-getElem?_pos, -getElem?_neg]
    try (with_reducible refine Run.ret ?_)
    apply zz
    refine Run.call ((hkZ _ _ (smZ hb2 hb3)).mono fun v w2 hv => ?_)
    obtain ⟨k2, zv, e, rfl, hK⟩ := hv
    obtain ⟨rfl, rfl⟩ := known_Z hK
    apply Run.by_eq
    · intro self
      conv => lhs; simp -implicitDefEqProofs (maxSteps := 300000) (disch := omega) [-getElem?_pos, -getElem?_neg]
    try (with_reducible refine Run.ret ?_)
    apply zz
    exact ⟨rfl, by simp [hmk], hk.trans (k1.trans k2), by simp [g1], by simp [g2], by simp, hkv.keep (k1.trans k2)⟩
  clear hmk g1 g2 hk hkv
  rintro x f s1 ⟨rfl, hmk, hk, g1, g2, g4, hkv⟩
  apply zz
  -- Clash of Z
  refine Cd.mono (Q := fun x f1 s1 => x = Ex.normal ∧ f1.marks = [] ∧ Keep s s1 ∧ f1.get 1 = kv ∧ f1.get 2 = .int .i64 0 ∧ f1.get 4 = .int .i64 12 ∧ SpAt s1 kv [(980, 1020), (1180, 1545), (1380, 1420), (1275, 1640), (1170, 1230)] ∧ f1.get 6 = .int .i64 0 ∧ ∃ cv, f1.get 5 = cv ∧ Trip 5 (hB 0 2000 ssZ) cv s1) ?_ ?_
  · apply zz
    refine Cd.ra (h := ?_)
    apply Run.by_eq
    · intro self
      conv => lhs; simp -implicitDefEqProofs (maxSteps := 300000) (disch := omega) [-getElem?_pos, -getElem?_neg]
    try (with_reducible refine Run.ret ?_)
    apply zz
    refine Run.call ((Z_ev _).mono fun v w1 hv => ?_)
    obtain ⟨k1, b, rfl, hb1, hb2, hb3⟩ := hv
    apply Run.by_eq
    · intro self
      conv => lhs; simp -implicitDefEqProofs (maxSteps := 300000) (disch := omega) [-getElem?_pos, -getElem?_neg]
    try (with_reducible refine Run.ret ?_)
    apply zz
    refine Run.call ((hcZ _ _ (smZ hb2 hb3)).mono fun v w2 hv => ?_)
    obtain ⟨k2, cv, e, rfl, hK⟩ := hv
    obtain ⟨rfl, hT⟩ := clash_Z hK
    have ho : oneV cv = true := by obtain ⟨_, _, _, _, _, _, _, _, rfl, _⟩ := hT; rfl
    apply Run.by_eq
    · intro self
      conv => lhs; simp -implicitDefEqProofs (maxSteps := 300000) (disch := omega) [-getElem?_pos, -getElem?_neg]
    try (with_reducible refine Run.ret ?_)
    apply zz
    exact ⟨rfl, by simp [hmk], hk.trans (k1.trans k2), by simp [g1], by simp [g2], by simp [g4], hkv.keep (k1.trans k2), by simp, cv, by simp, hT⟩
  clear hmk g1 g2 g4 hk hkv
  rintro x f s1 ⟨rfl, hmk, hk, g1, g2, g4, hkv, g6, cv, g5, hT⟩
  apply zz
  obtain ⟨ti, tj, tk, t1, t2, t3, t4, hci, bc, rfl⟩ := hT.ints
  clear hT
  -- Peaks of F
  refine Cd.mono (Q := fun x f1 s1 => x = Ex.normal ∧ f1.marks = [] ∧ Keep s s1 ∧ f1.get 1 = kv ∧ f1.get 2 = .int .i64 0 ∧ f1.get 4 = .int .i64 12 ∧ SpAt s1 kv [(980, 1020), (1180, 1545), (1380, 1420), (1275, 1640), (1170, 1230)] ∧ f1.get 6 = .int .i64 0 ∧ f1.get 5 = .slice (some bc) 3 3 ∧ IntsAt s1 (.slice (some bc) 3 3) [(ti : Int), (tj : Int), (tk : Int)] ∧ f1.get 8 = .int .i64 0 ∧ ∃ pv, f1.get 7 = pv ∧ IntsAt s1 pv [1, 2, 3]) ?_ ?_
  · apply zz
    refine Cd.ra (h := ?_)
    apply Run.by_eq
    · intro self
      conv => lhs; simp -implicitDefEqProofs (maxSteps := 300000) (disch := omega) [-getElem?_pos, -getElem?_neg]
    try (with_reducible refine Run.ret ?_)
    apply zz
    refine Run.call ((F_ev _).mono fun v w1 hv => ?_)
    obtain ⟨k1, b, rfl, hb1, hb2, hb3⟩ := hv
    apply Run.by_eq
    · intro self
      conv => lhs; simp -implicitDefEqProofs (maxSteps := 300000) (disch := omega) [-getElem?_pos, -getElem?_neg]
    try (with_reducible refine Run.ret ?_)
    apply zz
    refine Run.call ((hpF _ _ (smF hb2 hb3)).mono fun v w2 hv => ?_)
    obtain ⟨k2, pv, e, rfl, hK⟩ := hv
    obtain ⟨rfl, hP⟩ := hK.F
    have hP2 : IntsAt w2 pv [1, 2, 3] := by have := peaksF ▸ hP; exact this
    have ho := SlAt.one hP2
    apply Run.by_eq
    · intro self
      conv => lhs; simp -implicitDefEqProofs (maxSteps := 300000) (disch := omega) [-getElem?_pos, -getElem?_neg]
    try (with_reducible refine Run.ret ?_)
    apply zz
    exact ⟨rfl, by simp [hmk], hk.trans (k1.trans k2), by simp [g1], by simp [g2], by simp [g4], hkv.keep (k1.trans k2), by simp [g6], by simp [g5], hci.keep (k1.trans k2), by simp, pv, by simp, hP2⟩
  clear hmk g1 g2 g4 g5 g6 hk hkv hci
  rintro x f s1 ⟨rfl, hmk, hk, g1, g2, g4, hkv, g6, g5, hci, g8, pv, g7, hpv⟩
  apply zz
  -- Ripe of F
  refine Cd.mono (Q := fun x f1 s1 => x = Ex.normal ∧ f1.marks = [] ∧ Keep s s1 ∧ f1.get 1 = kv ∧ f1.get 2 = .int .i64 0 ∧ f1.get 4 = .int .i64 12 ∧ SpAt s1 kv [(980, 1020), (1180, 1545), (1380, 1420), (1275, 1640), (1170, 1230)] ∧ f1.get 6 = .int .i64 0 ∧ f1.get 5 = .slice (some bc) 3 3 ∧ IntsAt s1 (.slice (some bc) 3 3) [(ti : Int), (tj : Int), (tk : Int)] ∧ f1.get 8 = .int .i64 0 ∧ f1.get 7 = pv ∧ IntsAt s1 pv [1, 2, 3] ∧ f1.get 11 = .int .i64 0 ∧ ∃ sv mv, f1.get 9 = sv ∧ f1.get 10 = mv ∧ IntsAt s1 sv [2] ∧ IntsAt s1 mv [1, 2, 3]) ?_ ?_
  · apply zz
    refine Cd.ra (h := ?_)
    apply Run.by_eq
    · intro self
      conv => lhs; simp -implicitDefEqProofs (maxSteps := 300000) (disch := omega) [-getElem?_pos, -getElem?_neg]
    try (with_reducible refine Run.ret ?_)
    apply zz
    refine Run.call ((F_ev _).mono fun v w1 hv => ?_)
    obtain ⟨k1, b, rfl, hb1, hb2, hb3⟩ := hv
    apply Run.by_eq
    · intro self
      conv => lhs; simp -implicitDefEqProofs (maxSteps := 300000) (disch := omega) [-getElem?_pos, -getElem?_neg]
    try (with_reducible refine Run.ret ?_)
    apply zz
    refine Run.call ((hrF _ _ (smF hb2 hb3)).mono fun v w2 hv => ?_)
    obtain ⟨k2, sv, mv, e, rfl, hK⟩ := hv
    obtain ⟨rfl, hP⟩ := hK.F
    have hS2 : IntsAt w2 sv [2] := by have := surelyF ▸ hP.1; exact this
    have hM2 : IntsAt w2 mv [1, 2, 3] := by have := perhapsF ▸ hP.2; exact this
    have ho := SlAt.one hS2
    have ho2 := SlAt.one hM2
    apply Run.by_eq
    · intro self
      conv => lhs; simp -implicitDefEqProofs (maxSteps := 300000) (disch := omega) [-getElem?_pos, -getElem?_neg]
    try (with_reducible refine Run.ret ?_)
    apply zz
    exact ⟨rfl, by simp [hmk], hk.trans (k1.trans k2), by simp [g1], by simp [g2], by simp [g4], hkv.keep (k1.trans k2), by simp [g6], by simp [g5], hci.keep (k1.trans k2), by simp [g8], by simp [g7], hpv.keep (k1.trans k2), by simp, sv, mv, by simp, by simp, hS2, hM2⟩
  clear hmk g1 g2 g4 g5 g6 g7 g8 hk hkv hci hpv
  rintro x f s1 ⟨rfl, hmk, hk, g1, g2, g4, hkv, g6, g5, hci, g8, g7, hpv, g11, sv, mv, g9, g10, hsv, hmv⟩
  apply zz
  have hv0 := trip_ver t1 t2 t3 t4
  have vc := slAt_veq hci 4
  refine Cd.mono (Q := fun x f1 s1 => x = Ex.normal ∧ f1.marks = [] ∧ Keep s s1 ∧ f1.get 7 = pv ∧ IntsAt s1 pv [1, 2, 3] ∧ f1.get 9 = sv ∧ f1.get 10 = mv ∧ IntsAt s1 sv [2] ∧ IntsAt s1 mv [1, 2, 3] ∧ f1.get 87 = .bool false) ?_ ?_
  · have hr5 : repeatL [Value.int .i64 0, .int .i64 0] 5 = [.int .i64 0, .int .i64 0, .int .i64 0, .int .i64 0, .int .i64 0, .int .i64 0, .int .i64 0, .int .i64 0, .int .i64 0, .int .i64 0] := rfl
    apply zz
    refine Cd.ra (h := ?_)
    apply Run.by_eq
    · intro self
      conv => lhs; simp -implicitDefEqProofs (maxSteps := 300000) (disch := omega) [-getElem?_pos, -getElem?_neg, g1, g2, g4, g5, g6, g8, g11]
    try (with_reducible refine Run.ret ?_)
    apply zz
    refine Run.call ((span_ev 980 1020 _).mono fun v wa hv => ?_)
    obtain ⟨rfl, a⟩ := hv
    have aa := a.1
    have ab := a.2
    try simp only [pushed_next', upded_next'] at aa ab
    apply Run.by_eq
    · intro self
      conv => lhs; simp -implicitDefEqProofs (maxSteps := 300000) (disch := omega) [-getElem?_pos, -getElem?_neg]
    try (with_reducible refine Run.ret ?_)
    apply zz
    refine Run.call ((span_ev 1180 1545 _).mono fun v wb hv => ?_)
    obtain ⟨rfl, b⟩ := hv
    have ba := b.1
    have bb := b.2
    try simp only [pushed_next', upded_next'] at ba bb
    apply Run.by_eq
    · intro self
      conv => lhs; simp -implicitDefEqProofs (maxSteps := 300000) (disch := omega) [-getElem?_pos, -getElem?_neg]
    try (with_reducible refine Run.ret ?_)
    apply zz
    refine Run.call ((span_ev 1380 1420 _).mono fun v wc hv => ?_)
    obtain ⟨rfl, c⟩ := hv
    have ca := c.1
    have cb := c.2
    try simp only [pushed_next', upded_next'] at ca cb
    apply Run.by_eq
    · intro self
      conv => lhs; simp -implicitDefEqProofs (maxSteps := 300000) (disch := omega) [-getElem?_pos, -getElem?_neg]
    try (with_reducible refine Run.ret ?_)
    apply zz
    refine Run.call ((span_ev 1275 1640 _).mono fun v wd hv => ?_)
    obtain ⟨rfl, d⟩ := hv
    have da := d.1
    have db := d.2
    try simp only [pushed_next', upded_next'] at da db
    apply Run.by_eq
    · intro self
      conv => lhs; simp -implicitDefEqProofs (maxSteps := 300000) (disch := omega) [-getElem?_pos, -getElem?_neg]
    try (with_reducible refine Run.ret ?_)
    apply zz
    refine Run.call ((span_ev 1170 1230 _).mono fun v we hv => ?_)
    obtain ⟨rfl, e⟩ := hv
    have ea := e.1
    have eb := e.2
    try simp only [pushed_next', upded_next'] at ea eb
    have ke : Keep s1 we := ⟨by omega, fun i hi => by rw [eb i (by omega), db i (by omega), cb i (by omega), bb i (by omega)]; exact ab i hi⟩
    apply Run.by_eq
    · intro self
      conv => lhs; simp -implicitDefEqProofs (maxSteps := 300000) (disch := omega) [-getElem?_pos, -getElem?_neg, g1, hr5]
    try (with_reducible refine Run.ret ?_)
    apply zz
    have kp : Keep s1 (we.pushed (.cells [.int .i64 980, .int .i64 1020, .int .i64 1180, .int .i64 1545, .int .i64 1380, .int .i64 1420, .int .i64 1275, .int .i64 1640, .int .i64 1170, .int .i64 1230] none)) := ke.pushed _
    have hlit : SpAt (we.pushed (.cells [.int .i64 980, .int .i64 1020, .int .i64 1180, .int .i64 1545, .int .i64 1380, .int .i64 1420, .int .i64 1275, .int .i64 1640, .int .i64 1170, .int .i64 1230] none)) (.slice (some ⟨we.next, 0, none⟩) 5 5) kL := sl_of_cells (n := 2) (l := kL.map spP) (Nat.lt_succ_self _) (fun y hy => by obtain ⟨p, _, rfl⟩ := List.mem_map.1 hy; rfl) (get_pushed_new _ _)
    have hkv2 : SpAt (we.pushed (.cells [.int .i64 980, .int .i64 1020, .int .i64 1180, .int .i64 1545, .int .i64 1380, .int .i64 1420, .int .i64 1275, .int .i64 1640, .int .i64 1170, .int .i64 1230] none)) kv kL := hkv.keep kp
    refine Run.call ((spans_ev _ _ _ _ _ hkv2 hlit small_kL small_kL (by decide) (by decide)).mono fun v w6 hv => ?_)
    obtain ⟨rfl, k6⟩ := hv
    have k6' := kp.trans k6
    apply Run.by_eq
    · intro self
      conv => lhs; simp -implicitDefEqProofs (maxSteps := 300000) (disch := omega) [-getElem?_pos, -getElem?_neg]
    try (with_reducible refine Run.ret ?_)
    apply zz
    refine Run.call ((Z_ev _).mono fun v w7 hv => ?_)
    obtain ⟨k7, b7, rfl, hb1, hb2, hb3⟩ := hv
    have k7' := k6'.trans k7
    apply Run.by_eq
    · intro self
      conv => lhs; simp -implicitDefEqProofs (maxSteps := 300000) (disch := omega) [-getElem?_pos, -getElem?_neg, g5]
    try (with_reducible refine Run.ret ?_)
    apply zz
    refine Run.call ((hvZ _ _ _ _ (smZ hb2 hb3) (hci.keep k7') (by simp)).mono fun v w8 hv => ?_)
    obtain ⟨rfl, k8⟩ := hv
    have k8' := k7'.trans k8
    clear hb1 hb2 hb3
    rw [hv0]
    apply Run.by_eq
    · intro self
      conv => lhs; simp -implicitDefEqProofs (maxSteps := 300000) (disch := omega) [-getElem?_pos, -getElem?_neg]
    try (with_reducible refine Run.ret ?_)
    apply zz
    refine Run.call ((Z_ev _).mono fun v w9 hv => ?_)
    obtain ⟨k9, b9, rfl, hb1, hb2, hb3⟩ := hv
    have k9' := k8'.trans k9
    apply Run.by_eq
    · intro self
      conv => lhs; simp -implicitDefEqProofs (maxSteps := 300000) (disch := omega) [-getElem?_pos, -getElem?_neg]
    try (with_reducible refine Run.ret ?_)
    apply zz
    have kq : Keep w9 (w9.pushed (.cells [.int .i64 0, .int .i64 2, .int .i64 4] none)) := (Keep.refl _).pushed _
    have h024 : IntsAt (w9.pushed (.cells [.int .i64 0, .int .i64 2, .int .i64 4] none)) (.slice (some ⟨w9.next, 0, none⟩) 3 3) [0, 2, 4] := ints_of_cells (xs := [0, 2, 4]) (Nat.lt_succ_self _) (get_pushed_new _ _)
    refine Run.call ((hvZ _ _ _ _ ((smZ hb2 hb3).keep kq) h024 (by decide)).mono fun v w10 hv => ?_)
    obtain ⟨rfl, k10⟩ := hv
    have k10' := (k9'.trans kq).trans k10
    clear hb1 hb2 hb3
    rw [verZ]
    apply Run.by_eq
    · intro self
      conv => lhs; simp -implicitDefEqProofs (maxSteps := 300000) (disch := omega) [-getElem?_pos, -getElem?_neg]
    try (with_reducible refine Run.ret ?_)
    apply zz
    refine Run.call ((F_ev _).mono fun v w11 hv => ?_)
    obtain ⟨k11, b11, rfl, hb1, hb2, hb3⟩ := hv
    have k11' := k10'.trans k11
    apply Run.by_eq
    · intro self
      conv => lhs; simp -implicitDefEqProofs (maxSteps := 300000) (disch := omega) [-getElem?_pos, -getElem?_neg]
    try (with_reducible refine Run.ret ?_)
    apply zz
    have kq2 : Keep w11 (w11.pushed (.cells [.int .i64 0, .int .i64 2, .int .i64 4] none)) := (Keep.refl _).pushed _
    have h024' : IntsAt (w11.pushed (.cells [.int .i64 0, .int .i64 2, .int .i64 4] none)) (.slice (some ⟨w11.next, 0, none⟩) 3 3) [0, 2, 4] := ints_of_cells (xs := [0, 2, 4]) (Nat.lt_succ_self _) (get_pushed_new _ _)
    refine Run.call ((hvF _ _ _ _ ((smF hb2 hb3).keep kq2) h024' (by decide)).mono fun v w12 hv => ?_)
    obtain ⟨rfl, k12⟩ := hv
    have k12' := (k11'.trans kq2).trans k12
    clear hb1 hb2 hb3
    rw [verFF]
    apply Run.by_eq
    · intro self
      conv => lhs; simp -implicitDefEqProofs (maxSteps := 300000) (disch := omega) [-getElem?_pos, -getElem?_neg]
    try (with_reducible refine Run.ret ?_)
    apply zz
    exact ⟨rfl, by simp [hmk], hk.trans k12', by simp [g7], hpv.keep k12', by simp [g9], by simp [g10], hsv.keep k12', hmv.keep k12', by simp⟩
  clear hmk g1 g2 g4 g5 g6 g7 g8 g9 g10 g11 hk hkv hci hpv hsv hmv hv0 vc
  rintro x f s1 ⟨rfl, hmk, hk, g7, hpv, g9, g10, hsv, hmv, g87⟩
  apply zz
  apply Cd.ite rfl
  · conv => lhs; simp -implicitDefEqProofs (maxSteps := 300000) (disch := omega) [-getElem?_pos, -getElem?_neg, g87]
  all_goals intro c0
  all_goals try (cases c0; done)
  all_goals try simp only [Bool.not_eq_true', Bool.not_eq_false', decide_eq_true_eq, decide_eq_false_iff_not] at c0
  all_goals apply zz
  -- Regret of F
  refine Cd.mono (Q := fun x f1 s1 => x = Ex.normal ∧ f1.marks = [] ∧ Keep s s1 ∧ f1.get 7 = pv ∧ IntsAt s1 pv [1, 2, 3] ∧ f1.get 9 = sv ∧ f1.get 10 = mv ∧ IntsAt s1 sv [2] ∧ IntsAt s1 mv [1, 2, 3] ∧ f1.get 2 = .int .i64 0 ∧ f1.get 12 = .int .i64 250) ?_ ?_
  · apply zz
    refine Cd.ra (h := ?_)
    apply Run.by_eq
    · intro self
      conv => lhs; simp -implicitDefEqProofs (maxSteps := 300000) (disch := omega) [-getElem?_pos, -getElem?_neg]
    try (with_reducible refine Run.ret ?_)
    apply zz
    refine Run.call ((F_ev _).mono fun v w1 hv => ?_)
    obtain ⟨k1, b, rfl, hb1, hb2, hb3⟩ := hv
    apply Run.by_eq
    · intro self
      conv => lhs; simp -implicitDefEqProofs (maxSteps := 300000) (disch := omega) [-getElem?_pos, -getElem?_neg]
    try (with_reducible refine Run.ret ?_)
    apply zz
    refine Run.call ((hgF _ _ (smF hb2 hb3)).mono fun v w2 hv => ?_)
    obtain ⟨k2, rg, e, rfl, hK⟩ := hv
    obtain ⟨rfl, rfl⟩ := reg_F hK
    apply Run.by_eq
    · intro self
      conv => lhs; simp -implicitDefEqProofs (maxSteps := 300000) (disch := omega) [-getElem?_pos, -getElem?_neg]
    try (with_reducible refine Run.ret ?_)
    apply zz
    have k2' := k1.trans k2
    exact ⟨rfl, by simp [hmk], hk.trans k2', by simp [g7], hpv.keep k2', by simp [g9], by simp [g10], hsv.keep k2', hmv.keep k2', by simp, by simp⟩
  clear hmk g7 g9 g10 g87 hk hpv hsv hmv
  rintro x f s1 ⟨rfl, hmk, hk, g7, hpv, g9, g10, hsv, hmv, g2, g12⟩
  apply zz
  -- Cut of F
  refine Cd.mono (Q := fun x f1 s1 => x = Ex.normal ∧ f1.marks = [] ∧ Keep s s1 ∧ f1.get 7 = pv ∧ IntsAt s1 pv [1, 2, 3] ∧ f1.get 9 = sv ∧ f1.get 10 = mv ∧ IntsAt s1 sv [2] ∧ IntsAt s1 mv [1, 2, 3] ∧ f1.get 2 = .int .i64 0 ∧ f1.get 12 = .int .i64 250 ∧ f1.get 13 = .int .i64 2 ∧ f1.get 14 = .int .i64 220 ∧ f1.get 4 = .int .i64 0) ?_ ?_
  · apply zz
    refine Cd.ra (h := ?_)
    apply Run.by_eq
    · intro self
      conv => lhs; simp -implicitDefEqProofs (maxSteps := 300000) (disch := omega) [-getElem?_pos, -getElem?_neg]
    try (with_reducible refine Run.ret ?_)
    apply zz
    refine Run.call ((F_ev _).mono fun v w1 hv => ?_)
    obtain ⟨k1, b, rfl, hb1, hb2, hb3⟩ := hv
    apply Run.by_eq
    · intro self
      conv => lhs; simp -implicitDefEqProofs (maxSteps := 300000) (disch := omega) [-getElem?_pos, -getElem?_neg]
    try (with_reducible refine Run.ret ?_)
    apply zz
    refine Run.call ((huF _ _ (smF hb2 hb3)).mono fun v w2 hv => ?_)
    obtain ⟨k2, cw, cx, e, rfl, hK⟩ := hv
    obtain ⟨rfl, hcw, hcx⟩ := hK.F
    have e1 : bestI (RF 5 0 2000 ssF) ((5 : Int).toNat - 1) = 2 := cutF1
    rw [e1] at hcw hcx
    rw [cutF2] at hcx
    subst hcw hcx
    apply Run.by_eq
    · intro self
      conv => lhs; simp -implicitDefEqProofs (maxSteps := 300000) (disch := omega) [-getElem?_pos, -getElem?_neg]
    try (with_reducible refine Run.ret ?_)
    apply zz
    have k2' := k1.trans k2
    exact ⟨rfl, by simp [hmk], hk.trans k2', by simp [g7], hpv.keep k2', by simp [g9], by simp [g10], hsv.keep k2', hmv.keep k2', by simp [g2], by simp [g12], by simp, by simp, by simp⟩
  clear hmk g7 g9 g10 g2 g12 hk hpv hsv hmv
  rintro x f s1 ⟨rfl, hmk, hk, g7, hpv, g9, g10, hsv, hmv, g2, g12, g13, g14, g4⟩
  apply zz
  refine Cd.ra (h := ?_)
  apply Run.by_eq
  · intro self
    conv => lhs; simp -implicitDefEqProofs (maxSteps := 300000) (disch := omega) [-getElem?_pos, -getElem?_neg, g2, g4, g12, g13, g14, g7]
  try (with_reducible refine Run.ret ?_)
  apply zz
  have kp1 : Keep s1 (s1.pushed (.cells [.int .i64 1, .int .i64 2, .int .i64 3] none)) := (Keep.refl _).pushed _
  refine Run.call ((numbers_ev _ _ _ _ _ (hpv.keep kp1) (ints_of_cells (xs := [1, 2, 3]) (Nat.lt_succ_self _) (get_pushed_new _ _)) (by decide) (by decide)).mono fun v w1 hv => ?_)
  obtain ⟨rfl, k1⟩ := hv
  have k1' := kp1.trans k1
  apply Run.by_eq
  · intro self
    conv => lhs; simp -implicitDefEqProofs (maxSteps := 300000) (disch := omega) [-getElem?_pos, -getElem?_neg, g9]
  try (with_reducible refine Run.ret ?_)
  apply zz
  have kp2 : Keep w1 (w1.pushed (.cells [.int .i64 2] none)) := (Keep.refl _).pushed _
  refine Run.call ((numbers_ev _ _ _ _ _ (hsv.keep (k1'.trans kp2)) (ints_of_cells (xs := [2]) (Nat.lt_succ_self _) (get_pushed_new _ _)) (by decide) (by decide)).mono fun v w2 hv => ?_)
  obtain ⟨rfl, k2⟩ := hv
  have k2' := (k1'.trans kp2).trans k2
  apply Run.by_eq
  · intro self
    conv => lhs; simp -implicitDefEqProofs (maxSteps := 300000) (disch := omega) [-getElem?_pos, -getElem?_neg, g10]
  try (with_reducible refine Run.ret ?_)
  apply zz
  have kp3 : Keep w2 (w2.pushed (.cells [.int .i64 1, .int .i64 2, .int .i64 3] none)) := (Keep.refl _).pushed _
  refine Run.call ((numbers_ev _ _ _ _ _ (hmv.keep (k2'.trans kp3)) (ints_of_cells (xs := [1, 2, 3]) (Nat.lt_succ_self _) (get_pushed_new _ _)) (by decide) (by decide)).mono fun v w3 hv => ?_)
  obtain ⟨rfl, k3⟩ := hv
  apply Run.by_eq
  · intro self
    conv => lhs; simp -implicitDefEqProofs (maxSteps := 300000) (disch := omega) [-getElem?_pos, -getElem?_neg]
  try (with_reducible refine Run.ret ?_)
  apply zz
  apply Leave.mk (by first | exact .inl rfl | exact .inr rfl) (by simp only [Fr.marks_put, fr0_marks, hmk])
  · conv => lhs; simp -implicitDefEqProofs (disch := omega) [Try.results13, hmk]
  exact ⟨rfl, hk.trans ((k2'.trans kp3).trans k3)⟩
end Go.Proofs.Ytnhokodcmeekhaa
namespace Go.Proofs.Ytnhokodcmeekhaa
open Go Kern
/-! The law of fields -/
theorem fl_bd {x : Frac} (h0 : 0 ≤ x.o) (h : Mid 3600000 30 x) : In62 (flF x) := by
  unfold Mid at h
  have h1 : 0 ≤ x.o / x.u := Int.ediv_nonneg h0 (by omega)
  have h2 : x.o / x.u ≤ x.o := Int.ediv_le_self _ h0
  unfold In62 flF; omega
theorem ce_bd {x : Frac} (h0 : 0 ≤ x.o) (h : Mid 3600000 30 x) : In62 (ceF x) := by
  unfold Mid at h
  rw [← ce_up h.2.1]
  have h1 : 0 ≤ (x.o + x.u - 1) / x.u := Int.ediv_nonneg (by omega) (by omega)
  have h2 : (x.o + x.u - 1) / x.u ≤ x.o + x.u - 1 := Int.ediv_le_self _ (by omega)
  unfold In62; omega
def knownL (m : Nat) (lo hi : Int) (ss : List SampD) : List (Int × Int) := (List.range m).map fun w => (flF (lowF m (bndN m lo hi ss).1 w), ceF (upF m (bndN m lo hi ss).1 (bndN m lo hi ss).2 w))
theorem knownL_rows (m : Nat) (lo hi : Int) (ss : List SampD) : (List.range m).map (knownRow m lo hi ss) = (knownL m lo hi ss).map spP := by
  unfold knownL; rw [List.map_map]; rfl
/-- What both answers of Known have in common. -/
theorem KnownA.both {n lo hi : Int} {ss : List SampD} {w w' : Value} {e e' : Int} {s s' : St} (h : KnownA n lo hi ss w e s) (h' : KnownA n lo hi ss w' e' s') : e' = e ∧ ∃ l, SpAt s w l ∧ SpAt s' w' l ∧ SmallP l ∧ l.length ≤ 1000 := by
  rcases h with ⟨h1, rfl, rfl⟩ | ⟨h1, rfl, rfl, h4⟩ | ⟨h1, rfl, h3, h4⟩
  · rcases h' with ⟨_, rfl, rfl⟩ | ⟨k1, _⟩ | ⟨k1, _⟩
    · exact ⟨rfl, [], .nil 0, .nil 0, (fun x hx => by cases hx), by simp⟩
    · exact absurd k1 h1
    · exact absurd k1 h1
  · rcases h' with ⟨k1, _⟩ | ⟨_, rfl, rfl, _⟩ | ⟨_, _, _, k4⟩
    · exact absurd h1 k1
    · exact ⟨rfl, [], .nil 0, .nil 0, (fun x hx => by cases hx), by simp⟩
    · obtain ⟨i, j, k, hi, hj, hk, h⟩ := h4
      rw [k4 i j k hi hj hk] at h; cases h
  · rcases h' with ⟨k1, _⟩ | ⟨_, _, _, i, j, k, hi, hj, hk, h⟩ | ⟨_, rfl, k3, _⟩
    · exact absurd h1 k1
    · rw [h4 i j k hi hj hk] at h; cases h
    · rw [knownL_rows] at h3 k3
      have hok := (fieldErr_ok h1).1
      obtain ⟨m, rfl⟩ : ∃ m : Nat, n = m := ⟨n.toNat, by omega⟩
      simp only [Int.toNat_natCast] at h3 k3 h4
      refine ⟨rfl, knownL m lo hi ss, h3, k3, fun x hx => ?_, by simp [knownL]; omega⟩
      obtain ⟨w, hw, rfl⟩ := List.mem_map.1 hx
      obtain ⟨⟨v1, v2⟩, v3, v4⟩ := vals_ok h1 h4 (w := w) (by simpa using hw)
      exact ⟨fl_bd v1 v2, ce_bd v3 v4⟩
end Go.Proofs.Ytnhokodcmeekhaa
namespace Go.Proofs.Ytnhokodcmeekhaa
open Go Kern
/-! The law of peaks -/
theorem Ans.both {n lo hi : Int} {ss : List SampD} {e e' : Int} {bad good bad' good' : Prop} (h : Ans n lo hi ss e bad good) (h' : Ans n lo hi ss e' bad' good') : e' = e ∧ ((bad ∧ bad') ∨ (good ∧ good')) := by
  rcases h with ⟨h1, rfl, h3⟩ | ⟨h1, rfl, h3, h4⟩ | ⟨h1, rfl, h3, h4⟩
  · rcases h' with ⟨_, rfl, k3⟩ | ⟨k1, _⟩ | ⟨k1, _⟩
    · exact ⟨rfl, .inl ⟨h3, k3⟩⟩
    · exact absurd k1 h1
    · exact absurd k1 h1
  · rcases h' with ⟨k1, _⟩ | ⟨_, rfl, k3, _⟩ | ⟨_, _, _, k4⟩
    · exact absurd h1 k1
    · exact ⟨rfl, .inl ⟨h3, k3⟩⟩
    · obtain ⟨i, j, k, hi, hj, hk, h⟩ := h4
      rw [k4 i j k hi hj hk] at h; cases h
  · rcases h' with ⟨k1, _⟩ | ⟨_, _, _, i, j, k, hi, hj, hk, h⟩ | ⟨_, rfl, k3, _⟩
    · exact absurd h1 k1
    · rw [h4 i j k hi hj hk] at h; cases h
    · exact ⟨rfl, .inr ⟨h3, k3⟩⟩
end Go.Proofs.Ytnhokodcmeekhaa
namespace Go.Proofs.Ytnhokodcmeekhaa
open Go Kern
/-! Crops by numbers -/
structure CropD where
  weeks : Int
  first : Int
  step : Int
  falls : List Int
  r0 : Int
  r1 : Int
  samples : List (Int × Int × Int)
def Byte (x : Int) : Prop := 0 ≤ x ∧ x ≤ 255
structure CropD.Ok (c : CropD) : Prop where
  weeks : Byte c.weeks
  first : Byte c.first
  step : Byte c.step
  falls : ∀ x ∈ c.falls, Byte x
  r0 : Byte c.r0
  r1 : Byte c.r1
  samples : ∀ x ∈ c.samples, Byte x.1 ∧ Byte x.2.1 ∧ Byte x.2.2
def u8C (x : Int) : List Value := [.int .u8 x]
def u8T (x : Int × Int × Int) : List Value := [.int .u8 x.1, .int .u8 x.2.1, .int .u8 x.2.2]
def cropV (c : CropD) (fv sv : Value) : Value := .agg #[.int .u8 c.weeks, .int .u8 c.first, .int .u8 c.step, fv, .int .u8 c.r0, .int .u8 c.r1, sv]
namespace CropD
def n (c : CropD) : Nat := 1 + (c.weeks % 12).toNat
def fall (c : CropD) (k : Nat) : Int := if k < c.falls.length then c.falls.getD k 0 / 2 else 0
def stp (c : CropD) : Nat → Int
  | 0 => 2 * c.step
  | k + 1 => c.stp k - c.fall k
def sweet (c : CropD) : Nat → Int
  | 0 => 8000 + 20 * c.first
  | k + 1 => c.sweet k + c.stp k
def lst (c : CropD) (k : Nat) : Int := ((List.range k).map c.sweet).foldl min (c.sweet 0)
def mst (c : CropD) (k : Nat) : Int := ((List.range k).map c.sweet).foldl max (c.sweet 0)
def lo (c : CropD) : Int := max 0 (c.lst c.n - 10 * c.r0)
def hi (c : CropD) : Int := c.mst c.n + 10 * c.r1
/-- What a sample of the numbers is. -/
def samp (c : CropD) (x : Int × Int × Int) : SampD := ⟨x.1 % c.n, max 0 (c.sweet (x.1 % c.n).toNat - x.2.1 + x.2.2 % (2 * x.2.1 + 1)), x.2.1⟩
def ss (c : CropD) : List SampD := (c.samples.take 15).map c.samp
end CropD
theorem n_bd (c : CropD) : 1 ≤ c.n ∧ c.n ≤ 12 := by unfold CropD.n; omega
theorem fall_bd {c : CropD} (h : c.Ok) (k : Nat) : 0 ≤ c.fall k ∧ c.fall k ≤ 127 := by
  unfold CropD.fall
  split
  · rename_i hk
    have := h.falls (c.falls.getD k 0) (by
      rw [List.getD_eq_getElem?_getD, List.getElem?_eq_getElem hk]; simp)
    unfold Byte at this; omega
  · omega
theorem stp_bd {c : CropD} (h : c.Ok) : ∀ k : Nat, -(127 * (k : Int)) ≤ c.stp k ∧ c.stp k ≤ 510
  | 0 => by have := h.step; unfold Byte at this; unfold CropD.stp; omega
  | k + 1 => by
    have h1 := stp_bd h k
    have h2 := fall_bd h k
    unfold CropD.stp; omega
theorem sweet_bd {c : CropD} (h : c.Ok) : ∀ k : Nat, k ≤ 12 → 16000 - 127 * ((k : Int) * ((k : Int) - 1)) ≤ 2 * c.sweet k ∧ c.sweet k ≤ 13100 + 510 * (k : Int)
  | 0, _ => by have := h.first; unfold Byte at this; unfold CropD.sweet; omega
  | k + 1, hk => by
    have h1 := sweet_bd h k (by omega)
    have h2 := stp_bd h k
    unfold CropD.sweet
    have e : ((k + 1 : Nat) : Int) * (((k + 1 : Nat) : Int) - 1) = (k : Int) * ((k : Int) - 1) + 2 * k := by grind
    rw [e]
    omega
theorem sweet_nn {c : CropD} (h : c.Ok) {k : Nat} (hk : k < 12) : 1000 ≤ c.sweet k ∧ c.sweet k ≤ 18710 := by
  have h1 := sweet_bd h k (by omega)
  have h2 : (k : Int) * ((k : Int) - 1) ≤ 110 := by
    have : (k : Int) * ((k : Int) - 1) ≤ 11 * ((k : Int) - 1) ∨ k = 0 := by
      by_cases h0 : k = 0
      · exact .inr h0
      · exact .inl (Int.mul_le_mul_of_nonneg_right (by omega) (by omega))
    rcases this with h | rfl
    · omega
    · simp
  omega
theorem foldmin_le : ∀ (l : List Int) (a : Int), l.foldl min a ≤ a ∧ ∀ x ∈ l, l.foldl min a ≤ x
  | [], a => ⟨Int.le_refl _, fun x h => by cases h⟩
  | y :: r, a => by
    obtain ⟨h1, h2⟩ := foldmin_le r (min a y)
    refine ⟨by rw [List.foldl_cons]; omega, fun x hx => ?_⟩
    rw [List.foldl_cons]
    cases hx with
    | head => omega
    | tail _ hx => exact h2 x hx
theorem foldmax_ge : ∀ (l : List Int) (a : Int), a ≤ l.foldl max a ∧ ∀ x ∈ l, x ≤ l.foldl max a
  | [], a => ⟨Int.le_refl _, fun x h => by cases h⟩
  | y :: r, a => by
    obtain ⟨h1, h2⟩ := foldmax_ge r (max a y)
    refine ⟨by rw [List.foldl_cons]; omega, fun x hx => ?_⟩
    rw [List.foldl_cons]
    cases hx with
    | head => omega
    | tail _ hx => exact h2 x hx
theorem foldmm_mem (f : Int → Int → Int) (hf : ∀ a b, f a b = a ∨ f a b = b) : ∀ (l : List Int) (a : Int), l.foldl f a = a ∨ l.foldl f a ∈ l
  | [], a => .inl rfl
  | y :: r, a => by
    rw [List.foldl_cons]
    rcases foldmm_mem f hf r (f a y) with h | h
    · rw [h]
      rcases hf a y with h | h
      · rw [h]; exact .inl rfl
      · rw [h]; exact .inr (.head _)
    · exact .inr (.tail _ h)
theorem lst_mst {c : CropD} (h : c.Ok) {k : Nat} (hk : k ≤ 12) : (1000 ≤ c.lst k ∧ c.lst k ≤ 18710) ∧ 1000 ≤ c.mst k ∧ c.mst k ≤ 18710 := by
  have key : ∀ x, x = c.sweet 0 ∨ x ∈ (List.range k).map c.sweet → 1000 ≤ x ∧ x ≤ 18710 := fun x hx => by
    rcases hx with rfl | hx
    · exact sweet_nn h (by omega)
    · obtain ⟨j, hj, rfl⟩ := List.mem_map.1 hx
      exact sweet_nn h (by have : j < k := by simpa using hj
                           omega)
  exact ⟨key _ (foldmm_mem min (fun a b => by omega) _ _), key _ (foldmm_mem max (fun a b => by omega) _ _)⟩
/-- The sweetness lies between both ends of the range. -/
theorem sweet_range {c : CropD} (h : c.Ok) {w : Nat} (hw : w < c.n) : c.lo ≤ c.sweet w ∧ c.sweet w ≤ c.hi := by
  have hn := n_bd c
  have hr0 := h.r0
  have hr1 := h.r1
  unfold Byte at hr0 hr1
  have hs := sweet_nn h (k := w) (by omega)
  have h1 := (foldmin_le ((List.range c.n).map c.sweet) (c.sweet 0)).2 (c.sweet w) (List.mem_map_of_mem (by simpa using hw))
  have h2 := (foldmax_ge ((List.range c.n).map c.sweet) (c.sweet 0)).2 (c.sweet w) (List.mem_map_of_mem (by simpa using hw))
  unfold CropD.lo CropD.hi CropD.lst CropD.mst
  omega
theorem samp_ok {c : CropD} (h : c.Ok) {x : Int × Int × Int} (hx : Byte x.1 ∧ Byte x.2.1 ∧ Byte x.2.2) : (0 ≤ (c.samp x).week ∧ (c.samp x).week < c.n) ∧ (0 ≤ (c.samp x).val ∧ (c.samp x).val ≤ 20000) ∧ (0 ≤ (c.samp x).off ∧ (c.samp x).off ≤ 255) ∧ (c.samp x).val - (c.samp x).off ≤ c.sweet (c.samp x).week.toNat ∧ c.sweet (c.samp x).week.toNat ≤ (c.samp x).val + (c.samp x).off := by
  obtain ⟨h1, h2, h3⟩ := hx
  unfold Byte at h1 h2 h3
  have hn := n_bd c
  have hm1 := Int.emod_nonneg x.1 (show (c.n : Int) ≠ 0 by omega)
  have hm2 := Int.emod_lt_of_pos x.1 (show (0 : Int) < c.n by omega)
  have hm3 := Int.emod_nonneg x.2.2 (show 2 * x.2.1 + 1 ≠ 0 by omega)
  have hm4 := Int.emod_lt_of_pos x.2.2 (show 0 < 2 * x.2.1 + 1 by omega)
  have hs := sweet_nn h (k := (x.1 % c.n).toNat) (by omega)
  unfold CropD.samp
  simp only []
  omega
theorem hi_bd {c : CropD} (h : c.Ok) : (0 ≤ c.lo ∧ c.lo ≤ c.hi) ∧ c.hi ≤ 30000 := by
  have hn := n_bd c
  have h1 := lst_mst h (k := c.n) (by omega)
  have hr0 := h.r0
  have hr1 := h.r1
  unfold Byte at hr0 hr1
  have h3 := sweet_range h (w := 0) (by omega)
  have h4 := sweet_nn h (k := 0) (by omega)
  unfold CropD.hi at h3 ⊢
  refine ⟨⟨?_, by omega⟩, by omega⟩
  unfold CropD.lo; omega
/-- A crop's field is valid. -/
theorem crop_valid {c : CropD} (h : c.Ok) (ss : List SampD) (hl : ss.length ≤ 100) (hss : ∀ x ∈ ss, (0 ≤ x.week ∧ x.week < c.n) ∧ (0 ≤ x.val ∧ x.val ≤ 30000) ∧ 0 ≤ x.off ∧ x.off ≤ 30000) : fieldErr c.n c.lo c.hi ss = 0 := by
  have hn := n_bd c
  obtain ⟨⟨h1, h2⟩, h3⟩ := hi_bd h
  have hf : ∀ x ∈ ss, sampErr c.n x = 0 := fun x hx => by
    obtain ⟨⟨a1, a2⟩, ⟨b1, b2⟩, c1, c2⟩ := hss x hx
    unfold sampErr weekB sweetB
    simp [a1, a2, b1, b2, c1, c2]
  unfold fieldErr
  rw [if_neg (by omega), if_neg (by simp [sweetB]; omega), if_neg (by omega)]
  exact firstS_zero fun j x hj => hf x (List.mem_of_getElem? hj)
end Go.Proofs.Ytnhokodcmeekhaa
namespace Go.Proofs.Ytnhokodcmeekhaa
open Go Kern
/-! Rows in a block that may not grow in place -/
theorem appV_fix {s : St} {size b b2 n : Nat} {old new : List Value} {g : Option Nat} (h1 : s.heap.get b = some (.cells old none)) (hb : s.heap.get b2 = some (.cells new g)) (hn : new.length = size) (ho : new.all oneV = true) (hl : old.length = n * size) (hm : n + 1 ≤ 1048576) :
    appV size (.slice (some ⟨b, 0, none⟩) n n) (.slice (some ⟨b2, 0, none⟩) 1 1) s = some (.slice (some ⟨s.next, 0, none⟩) (n + 1) (n + 1), s.pushed (.cells (old ++ new) (some size))) := by
  subst hn
  show ob (ob (ob (s.heap.get b2) cellsOf) fun c => ob (takeL (1 * new.length) (dropL 0 c.1)) fun l => gd (l.all oneV) (some l)) _ = _
  rw [hb]
  show ob (ob (takeL (1 * new.length) new) fun l => gd (l.all oneV) (some l)) _ = _
  rw [Nat.one_mul, takeL_all]
  show ob (gd (new.all oneV) (some new)) _ = _
  rw [ho]
  show gd (Nat.ble (n + 1) 1048576) (bt (Nat.ble (n + 1) n) _ (ob (ob (s.heap.get b) cellsOf) fun c => ob (takeL (n * new.length) (dropL 0 c.1)) fun old => ob (killF s new.length c.2 b) fun s =>
      exNew s (.cells (old ++ new) (some new.length)) fun i => .slice (some ⟨i, 0, none⟩) (n + 1) (n + 1))) = _
  have e1 : Nat.ble (n + 1) 1048576 = true := by simpa using hm
  have e2 : Nat.ble (n + 1) n = false := by
    cases h : Nat.ble (n + 1) n with
    | false => rfl
    | true => have := Nat.le_of_ble_eq_true h; omega
  rw [e1, e2, h1]
  show ob (takeL (n * new.length) old) (fun old => ob (some s) fun s => exNew s (.cells (old ++ new) (some new.length)) fun i => .slice (some ⟨i, 0, none⟩) (n + 1) (n + 1)) = _
  rw [← hl, takeL_all]; rfl
/-- Some rows, in a block of their own. -/
def OwnN (n N : Nat) (s : St) (w : Value) (l : List (List Value)) : Prop :=
  ∃ b g, w = .slice (some ⟨b, 0, none⟩) l.length l.length ∧ l ≠ [] ∧ N ≤ b ∧ b < s.next ∧ s.heap.get b = some (.cells l.flatten g) ∧ (g = none ∨ g = some n)
theorem OwnN.keep {n N : Nat} {s s' : St} {w : Value} {l : List (List Value)} (h : OwnN n N s w l) (h1 : s.next ≤ s'.next) (h2 : ∀ i, N ≤ i → i < s.next → s'.heap.get i = s.heap.get i) : OwnN n N s' w l := by
  obtain ⟨b, g, k1, k2, k3, k4, k5, k6⟩ := h
  exact ⟨b, g, k1, k2, k3, by omega, (h2 b k3 k4).trans k5, k6⟩
theorem OwnN.sl {n N : Nat} {s : St} {w : Value} {l : List (List Value)} (h : OwnN n N s w l) (hn : ∀ x ∈ l, x.length = n) : SlAt n s w l := by
  obtain ⟨b, g, rfl, k2, k3, k4, k5, k6⟩ := h
  exact sl_of_cells k4 hn k5
theorem app_n {n N b2 : Nat} {s : St} {w : Value} {l : List (List Value)} {x : List Value} {g : Option Nat} (hO : OwnN n N s w l) (hn : ∀ y ∈ l, y.length = n) (hx : x.length = n) (ho : onesL x = true) (hb2 : s.heap.get b2 = some (.cells x g)) (hN : N ≤ s.next) (hl : l.length ≤ 1000000) :
    ∃ s', appV n w (.slice (some ⟨b2, 0, none⟩) 1 1) s = some (.slice (some ⟨s.next, 0, none⟩) (l.length + 1) (l.length + 1), s') ∧ s'.next = s.next + 1 ∧ (∀ i, i < N → s'.heap.get i = s.heap.get i) ∧ OwnN n N s' (.slice (some ⟨s.next, 0, none⟩) (l.length + 1) (l.length + 1)) (l ++ [x]) := by
  obtain ⟨b, gg, rfl, hne, h1, h2, h3, h4⟩ := hO
  rcases h4 with rfl | rfl
  · refine ⟨_, appV_fix h3 hb2 hx (by rw [onesL_eq]; exact ho) (flatlen hn) (by omega), rfl, fun i hi => get_pushed_old _ _ _ (by omega), s.next, some n, by simp, by simp, hN, Nat.lt_succ_self _, ?_, .inr rfl⟩
    rw [get_pushed_new]; simp
  · refine ⟨_, appV_more h3 hb2 hx (by rw [onesL_eq]; exact ho) (flatlen hn) (by omega), rfl, fun i hi => ?_, s.next, some n, by simp, by simp, hN, Nat.lt_succ_self _, ?_, .inr rfl⟩
    · rw [get_pushed_old _ _ _ (by show i ≠ s.next; omega), get_upded_other _ _ _ _ (by omega)]
    · show ((s.upded b .dead).pushed _).heap.get (s.upded b .dead).next = _
      rw [get_pushed_new]; simp
theorem iC_flat : ∀ (l : List Int), (iC l).flatten = l.map (Value.int .i64)
  | [] => rfl
  | x :: r => by
    show [Value.int .i64 x] ++ (iC r).flatten = Value.int .i64 x :: r.map (Value.int .i64)
    rw [iC_flat r]; rfl
theorem swL_get {c : CropD} {k j : Nat} (h : j < k) : ((iC ((List.range k).map c.sweet)).flatten)[j]? = some (.int .i64 (c.sweet j)) := by
  rw [iC_flat, List.getElem?_map, List.getElem?_map, List.getElem?_range h]; rfl
@[simp] theorem conv_5_3 {self : Self} {f : Fr} {s : St} {x : Operand} : actO TT self (.convert 5 3 x) f s = pureR (vConv .i64 x f.eval s.heap) s := o_convert_3 (by rw [und_5]; rfl)
theorem OwnG.less {n N M : Nat} {s : St} {w : Value} {l : List (List Value)} (h : OwnG n N s w l) (hM : M ≤ N) : OwnG n M s w l := by
  rcases h with h | ⟨b, h1, h2, h3, h4⟩
  · exact .inl h
  · exact .inr ⟨b, h1, h2, by omega, h4⟩
theorem OwnG.b {n N : Nat} {s : St} {w : Value} {l : List (List Value)} (h : OwnG n N s w l) : ∃ b, OwnB n N s w l b := by
  rcases h with h | ⟨b, h⟩
  · exact ⟨none, .inl ⟨rfl, h⟩⟩
  · exact ⟨some b, .inr ⟨b, rfl, h⟩⟩
@[simp] theorem newObj_a82 {f : Fr} : Kern.newObj TT (.alloc 82) f = some (.cells [.int .i64 0, .int .i64 0, .int .i64 0] none) := newObj_alloc 82 zero_82
set_option maxRecDepth 100000 in
set_option maxHeartbeats 4000000 in
theorem made_ev (c : CropD) (hc : c.Ok) (fv sv : Value) (s : St) (hf : SlAt 1 s fv (c.falls.map u8C)) (hs : SlAt 3 s sv (c.samples.map u8T)) :
    Ev TT 33 [cropV c fv sv] s fun r s' => Keep s s' ∧ ∃ q sw, r = .tuple #[fieldV c.n c.lo c.hi q, sw] ∧ OwnG 3 s.next s' q (c.ss.map SampD.cs) ∧ IntsAt s' sw ((List.range c.n).map c.sweet) := by
  obtain ⟨af, cf, rfl⟩ := hf.shape
  obtain ⟨az, cs', rfl⟩ := hs.shape
  rw [List.length_map] at hf hs ⊢
  rw [List.length_map]
  have hn := n_bd c
  have hnW : c.weeks % 12 = (c.n : Int) - 1 := by unfold CropD.n; omega
  have h_w := hc.weeks
  have h_f := hc.first
  have h_s := hc.step
  unfold Byte at h_w h_f h_s
  have hrem := intOp_rem .i64 c.weeks 12 h_w.1 (by omega)
  rw [hnW] at hrem
  have hn1 : (1 : Int) + ((c.n : Int) - 1) = c.n := by omega
  have hs0 : 8000 + 20 * c.first = c.sweet 0 := rfl
  have ht0 : 2 * c.step = c.stp 0 := rfl
  have hswb := fun k (hk : k < 12) => sweet_nn hc hk
  have hstb := fun k => stp_bd hc k
  unfold cropV
  refine Ev.intro (fn := Try.f33) rfl (by kernel_rfl) rfl rfl ?_
  apply zz
  refine Cd.ra (h := ?_)
  apply Run.by_eq
  · intro self
    conv => lhs; simp -implicitDefEqProofs (maxSteps := 300000) (disch := omega) [-getElem?_pos, -getElem?_neg]
  try (with_reducible refine Run.ret ?_)
  apply zz
  refine Cd.ra (h := ?_)
  apply Run.by_eq
  · intro self
    conv => lhs; simp -implicitDefEqProofs (maxSteps := 300000) (disch := omega) [-getElem?_pos, -getElem?_neg, hrem, hn1]
  try (with_reducible refine Run.ret ?_)
  apply zz
  refine Cd.ra (h := ?_)
  apply Run.by_eq
  · intro self
    conv => lhs; simp -implicitDefEqProofs (maxSteps := 300000) (disch := omega) [-getElem?_pos, -getElem?_neg, hs0]
  try (with_reducible refine Run.ret ?_)
  apply zz
  refine Cd.ra (h := ?_)
  apply Run.by_eq
  · intro self
    conv => lhs; simp -implicitDefEqProofs (maxSteps := 300000) (disch := omega) [-getElem?_pos, -getElem?_neg, ht0]
  try (with_reducible refine Run.ret ?_)
  apply zz
  refine Cd.ra (h := ?_)
  apply Run.by_eq
  · intro self
    conv => lhs; simp -implicitDefEqProofs (maxSteps := 300000) (disch := omega) [-getElem?_pos, -getElem?_neg]
  try (with_reducible refine Run.ret ?_)
  apply zz
  have hS0 := hswb 0 (by omega)
  refine Cd.mono (Q := fun x f2 s2 => x = Ex.exit 0 ∧ f2.marks = [] ∧ f2.get 1 = .pointer (some ⟨s.next, 0, none⟩) ∧ f2.get 2 = .pointer (some ⟨s.next + 1, 0, none⟩) ∧ f2.get 4 = .int .i64 c.n ∧ Keep s s2 ∧ s.next + 1 + 1 ≤ s2.next ∧ s2.heap.get s.next = some (.cells [.int .u8 c.weeks, .int .u8 c.first, .int .u8 c.step, .slice af c.falls.length cf, .int .u8 c.r0, .int .u8 c.r1, .slice az c.samples.length cs'] none) ∧ s2.heap.get (s.next + 1) = some (.cells [.int .i64 0, .int .i64 0, .int .i64 0, .slice none 0 0] none) ∧ OwnN 1 (s.next + 1 + 1) s2 (f2.get 5) (iC ((List.range c.n).map c.sweet))) (Cd.inv (fun z f2 s2 => ∃ k : Nat, k + 1 ≤ c.n ∧ z = c.n - (k + 1) ∧ f2.marks = [] ∧ f2.get 1 = .pointer (some ⟨s.next, 0, none⟩) ∧ f2.get 2 = .pointer (some ⟨s.next + 1, 0, none⟩) ∧ f2.get 4 = .int .i64 c.n ∧ f2.get 6 = .int .i64 (c.stp k) ∧ f2.get 7 = .int .i64 (k + 1 : Nat) ∧ Keep s s2 ∧ s.next + 1 + 1 ≤ s2.next ∧ s2.heap.get s.next = some (.cells [.int .u8 c.weeks, .int .u8 c.first, .int .u8 c.step, .slice af c.falls.length cf, .int .u8 c.r0, .int .u8 c.r1, .slice az c.samples.length cs'] none) ∧ s2.heap.get (s.next + 1) = some (.cells [.int .i64 0, .int .i64 0, .int .i64 0, .slice none 0 0] none) ∧ OwnN 1 (s.next + 1 + 1) s2 (f2.get 5) (iC ((List.range (k + 1)).map c.sweet))) (c.n - 1) ?_ ?_) ?_
  · refine ⟨0, by omega, rfl, by simp, by simp, by simp, by simp, by simp, by simp, ⟨by (try simp only [pushed_next', upded_next']); omega, fun i hi => by simp -implicitDefEqProofs (disch := omega) []⟩, by simp, by simp -implicitDefEqProofs (disch := omega), by simp -implicitDefEqProofs (disch := omega), s.next + 1 + 1, none, by simp, by simp, by omega, by simp, ?_, .inl rfl⟩
    show _ = some (AObj.cells [.int .i64 (c.sweet 0)] none)
    simp -implicitDefEqProofs (disch := omega)
  · rintro z f s1 ⟨k, hk, rfl, hm, g1, g2, g4, g6, g7, hkp, hnx, hg0, hg1, hO⟩
    have hkpa := hkp.1
    have hkpb := hkp.2
    have hk1 : ((k + 1 : Nat) : Int) - 1 = (k : Int) := by omega
    have hSk := hswb k (by omega)
    have hTk := hstb k
    by_cases hlt : k + 1 < c.n
    · have hSk1 := hswb (k + 1) (by omega)
      have hTk1 := hstb (k + 1)
      have hadd : c.sweet k + c.stp k = c.sweet (k + 1) := rfl
      have hsub : c.stp k - c.fall k = c.stp (k + 1) := rfl
      have hrows := iC_len ((List.range (k + 1)).map c.sweet)
      have hrl : (iC ((List.range (k + 1)).map c.sweet)).length = k + 1 := by simp
      have hrn : iC ((List.range (k + 1 + 1)).map c.sweet) = iC ((List.range (k + 1)).map c.sweet) ++ [[.int .i64 (c.sweet (k + 1))]] := by rw [List.range_succ, List.map_append]; exact iC_snoc _ _
      have hget := swL_get (c := c) (k := k + 1) (j := k) (by omega)
      obtain ⟨b, g, e5, _, hb1, hb2, hb3, hb4⟩ := id hO
      rw [hrl] at e5
      have kx2 : Keep s1 (s1.pushed (.cells [.int .i64 (c.sweet (k + 1))] none)) := (Keep.refl _).pushed _
      obtain ⟨s4, happ, hn4, hk4, hO4⟩ := app_n (n := 1) (b2 := s1.next) (x := [.int .i64 (c.sweet (k + 1))]) (g := none) (hO.keep (by simp) fun i h1 h2 => kx2.2 i h2) hrows rfl rfl (get_pushed_new _ _) (by simp only [pushed_next']; omega) (by omega)
      rw [e5] at happ
      simp only [pushed_next', hrl] at happ hn4 hO4
      generalize hrw : (iC ((List.range (k + 1)).map c.sweet)).flatten = cells at hb3 hget
      generalize hK : k + 1 = k1 at *
      have hlt' : (k1 : Int) < c.n := by omega
      have hkk : k < k1 := by omega
      apply zz
      refine Cd.ra (h := ?_)
      apply Run.by_eq
      · intro self
        conv => lhs; simp -implicitDefEqProofs (maxSteps := 300000) (disch := omega) [-getElem?_pos, -getElem?_neg, g7, g4, hlt']
      try (with_reducible refine Run.ret ?_)
      apply zz
      apply Cd.ite rfl
      · conv => lhs; simp -implicitDefEqProofs (maxSteps := 300000) (disch := omega) [-getElem?_pos, -getElem?_neg]
      all_goals intro c0
      all_goals try (cases c0; done)
      all_goals try simp only [Bool.not_eq_true', Bool.not_eq_false', decide_eq_true_eq, decide_eq_false_iff_not] at c0
      all_goals apply zz
      apply zz
      refine Cd.ra (h := ?_)
      apply Run.by_eq
      · intro self
        conv => lhs; simp -implicitDefEqProofs (maxSteps := 300000) (disch := omega) [-getElem?_pos, -getElem?_neg, e5, g6, g7, hk1, hkk, hb3, hget, hadd, happ]
      try (with_reducible refine Run.ret ?_)
      apply zz
      have q0 : s4.heap.get s.next = _ := (hk4 _ (by omega)).trans ((kx2.2 _ (by omega)).trans hg0)
      have q1 : s4.heap.get (s.next + 1) = _ := (hk4 _ (by omega)).trans ((kx2.2 _ (by omega)).trans hg1)
      have kq : Keep s s4 := ⟨by omega, fun i hi => (hk4 i (by omega)).trans ((kx2.2 i (by omega)).trans (hkpb i hi))⟩
      by_cases hfl : k1 ≤ c.falls.length
      · have hfl' : (k1 : Int) ≤ c.falls.length := by omega
        obtain ⟨y, hy⟩ : ∃ y, c.falls[k]? = some y := ⟨c.falls[k]'(by omega), by simp⟩
        have hyb := hc.falls y (List.mem_of_getElem? hy)
        unfold Byte at hyb
        have hfe : c.fall k = y / 2 := by
          unfold CropD.fall
          rw [if_pos (by omega), List.getD_eq_getElem?_getD, hy]; rfl
        obtain ⟨fb, foff, fo, fcs, fg, rfl, qb, qo, qc, qt⟩ := SlAt.at (hf.keep kq) (k := k) (e := u8C y) (by rw [List.getElem?_map, hy]; rfl)
        have qt1 : fcs[foff + k]? = some (.int .u8 y) := by
          have := takeL_one qt
          rw [List.getElem?_drop, Nat.mul_one] at this; exact this
        have hquo := intOp_quo .i64 y 2 hyb.1 (by omega)
        have hwr : wrapF .i64 (y / 2) = y / 2 := by simp -implicitDefEqProofs (disch := omega)
        rw [hwr, ← hfe] at hquo
        have hkf : k < c.falls.length := by omega
        have hfb := fall_bd hc k
        generalize c.fall k = FK at *
        apply zz
        refine Cd.ra (h := ?_)
        apply Run.by_eq
        · intro self
          conv => lhs; simp -implicitDefEqProofs (maxSteps := 300000) (disch := omega) [-getElem?_pos, -getElem?_neg, g7, g1, q0, hfl']
        try (with_reducible refine Run.ret ?_)
        apply zz
        apply Cd.ite rfl
        · conv => lhs; simp -implicitDefEqProofs (maxSteps := 300000) (disch := omega) [-getElem?_pos, -getElem?_neg]
        all_goals intro c1
        all_goals try (cases c1; done)
        all_goals try simp only [Bool.not_eq_true', Bool.not_eq_false', decide_eq_true_eq, decide_eq_false_iff_not] at c1
        all_goals apply zz
        apply zz
        refine Cd.ra (h := ?_)
        apply Run.by_eq
        · intro self
          conv => lhs; simp -implicitDefEqProofs (maxSteps := 300000) (disch := omega) [-getElem?_pos, -getElem?_neg, g6, g7, g1, q0, hk1, hkf, qo, qc, qt1, hquo, hsub]
        try (with_reducible refine Run.ret ?_)
        apply zz
        refine Cd.ra (h := ?_)
        apply Run.by_eq
        · intro self
          conv => lhs; simp -implicitDefEqProofs (maxSteps := 300000) (disch := omega) [-getElem?_pos, -getElem?_neg, g7]
        try (with_reducible refine Run.ret ?_)
        apply zz
        refine LoopK.nm (c.n - (k1 + 1)) (by omega) ⟨k1, by omega, rfl, by simp [hm], by simp [g1], by simp [g2], by simp [g4], by simp, by simp, kq, by omega, q0, q1, ?_⟩
        rw [hrn]; simpa using hO4
      · have hfl' : ¬ (k1 : Int) ≤ c.falls.length := by omega
        have hf0 : c.fall k = 0 := by unfold CropD.fall; rw [if_neg (by omega)]
        have hst : c.stp k1 = c.stp k := by rw [← hsub, hf0]; omega
        apply zz
        refine Cd.ra (h := ?_)
        apply Run.by_eq
        · intro self
          conv => lhs; simp -implicitDefEqProofs (maxSteps := 300000) (disch := omega) [-getElem?_pos, -getElem?_neg, g7, g1, q0, hfl']
        try (with_reducible refine Run.ret ?_)
        apply zz
        apply Cd.ite rfl
        · conv => lhs; simp -implicitDefEqProofs (maxSteps := 300000) (disch := omega) [-getElem?_pos, -getElem?_neg]
        all_goals intro c1
        all_goals try (cases c1; done)
        all_goals try simp only [Bool.not_eq_true', Bool.not_eq_false', decide_eq_true_eq, decide_eq_false_iff_not] at c1
        all_goals apply zz
        apply zz
        refine Cd.ra (h := ?_)
        apply Run.by_eq
        · intro self
          conv => lhs; simp -implicitDefEqProofs (maxSteps := 300000) (disch := omega) [-getElem?_pos, -getElem?_neg, g7]
        try (with_reducible refine Run.ret ?_)
        apply zz
        refine LoopK.nm (c.n - (k1 + 1)) (by omega) ⟨k1, by omega, rfl, by simp [hm], by simp [g1], by simp [g2], by simp [g4], by simp [g6, hst], by simp, kq, by omega, q0, q1, ?_⟩
        rw [hrn]; simpa using hO4
    · have hkn : c.n = k + 1 := by omega
      have hlt' : ¬ ((k + 1 : Nat) : Int) < c.n := by omega
      generalize hK : k + 1 = k1 at *
      apply zz
      refine Cd.ra (h := ?_)
      apply Run.by_eq
      · intro self
        conv => lhs; simp -implicitDefEqProofs (maxSteps := 300000) (disch := omega) [-getElem?_pos, -getElem?_neg, g7, g4, hlt']
      try (with_reducible refine Run.ret ?_)
      apply zz
      apply Cd.ite rfl
      · conv => lhs; simp -implicitDefEqProofs (maxSteps := 300000) (disch := omega) [-getElem?_pos, -getElem?_neg]
      all_goals intro c0
      all_goals try (cases c0; done)
      all_goals try simp only [Bool.not_eq_true', Bool.not_eq_false', decide_eq_true_eq, decide_eq_false_iff_not] at c0
      all_goals apply zz
      exact ⟨rfl, by simp [hm], by simp [g1], by simp [g2], by simp [g4], hkp, hnx, hg0, hg1, by rw [hkn]; simpa using hO⟩
  rintro x f s1 ⟨rfl, hm, g1, g2, g4, hkp, hnx, hg0, hg1, hO⟩
  apply zz
  have hsw : IntsAt s1 (f.get 5) ((List.range c.n).map c.sweet) := hO.sl (iC_len _)
  have hlenS : ((List.range c.n).map c.sweet).length = c.n := by simp
  obtain ⟨sb, gS, e5, hne5, hsb1, hsb2, hsb3, hsb4⟩ := id hO
  have e5' : f.get 5 = .slice (some ⟨sb, 0, none⟩) c.n c.n := by rw [e5]; simp
  have hO' : OwnN 1 (s.next + 1 + 1) s1 (.slice (some ⟨sb, 0, none⟩) c.n c.n) (iC ((List.range c.n).map c.sweet)) := e5' ▸ hO
  clear e5 hne5
  have hgetS := fun j (h : j < c.n) => swL_get (c := c) (k := c.n) h
  have hget0 : (iC ((List.range c.n).map c.sweet)).flatten[0]? = some (.int .i64 (c.sweet 0)) := hgetS 0 (by omega)
  have hcn0 : 0 < c.n := by omega
  generalize (iC ((List.range c.n).map c.sweet)).flatten = cells at *
  have ve5 : veq 5 (Value.slice (some ⟨sb, 0, none⟩) c.n c.n) (Value.slice (some ⟨sb, 0, none⟩) c.n c.n) = true := veq_slice _ _ _ _ _
  apply zz
  refine Cd.drawn (pl := [(0, 0, false, false), (1, 1, false, false), (2, 3, false, false), (3, 0, false, false), (4, 8, false, false), (5, 24, false, false), (6, 7, false, false), (7, 127, false, false)]) (by kernel_rfl) (by conv => lhs; simp only [List.map_cons, List.map_nil]) (by conv => lhs; simp [strip, ordered]) ?_
  apply Run.by_eq
  · intro self
    conv => lhs; simp -implicitDefEqProofs (maxSteps := 300000) (disch := omega) [filter_bt, -getElem?_pos, -getElem?_neg, e5', hsb3, hget0, hcn0, ve5]
  try (with_reducible refine Run.ret ?_)
  apply zz
  refine Cd.ra (h := ?_)
  apply Run.by_eq
  · intro self
    conv => lhs; simp -implicitDefEqProofs (maxSteps := 300000) (disch := omega) [-getElem?_pos, -getElem?_neg, e5']
  try (with_reducible refine Run.ret ?_)
  apply zz
  refine Cd.mono (Q := fun x f2 s2 => x = Ex.exit 2 ∧ f2.marks = [] ∧ f2.get 1 = .pointer (some ⟨s.next, 0, none⟩) ∧ f2.get 2 = .pointer (some ⟨s.next + 1, 0, none⟩) ∧ f2.get 4 = .int .i64 c.n ∧ f2.get 5 = .slice (some ⟨sb, 0, none⟩) c.n c.n ∧ f2.get 8 = .int .i64 (c.lst c.n) ∧ f2.get 9 = .int .i64 (c.mst c.n) ∧ s2 = s1) (Cd.inv (fun z f2 s2 => ∃ k : Nat, k ≤ c.n ∧ z = c.n - k ∧ f2.marks = [] ∧ f2.get 1 = .pointer (some ⟨s.next, 0, none⟩) ∧ f2.get 2 = .pointer (some ⟨s.next + 1, 0, none⟩) ∧ f2.get 4 = .int .i64 c.n ∧ f2.get 5 = .slice (some ⟨sb, 0, none⟩) c.n c.n ∧ f2.get 67 = .slice (some ⟨sb, 0, none⟩) c.n c.n ∧ f2.get 68 = .int .i64 c.n ∧ f2.get 69 = .int .i64 k ∧ f2.get 8 = .int .i64 (c.lst k) ∧ f2.get 9 = .int .i64 (c.mst k) ∧ s2 = s1) c.n ?_ ?_) ?_
  · exact ⟨0, by omega, rfl, by simp [hm], by simp [g1], by simp [g2], by simp [g4], by simp [e5'], by simp, by simp, by simp, by simp [CropD.lst], by simp [CropD.mst], rfl⟩
  · clear hm g1 g2 g4
    rintro z f2 s2 ⟨k, hk, rfl, hm, g1, g2, g4, g5, g67, g68, g69, g8, g9, rfl⟩
    by_cases hlt : k < c.n
    · have hlt' : (k : Int) < c.n := by omega
      have hgk := hgetS k hlt
      have hl1 : min (c.lst k) (c.sweet k) = c.lst (k + 1) := by unfold CropD.lst; rw [List.range_succ, List.map_append, List.foldl_append]; rfl
      have hm1 : max (c.mst k) (c.sweet k) = c.mst (k + 1) := by unfold CropD.mst; rw [List.range_succ, List.map_append, List.foldl_append]; rfl
      apply zz
      refine Cd.ra (h := ?_)
      apply Run.by_eq
      · intro self
        conv => lhs; simp -implicitDefEqProofs (maxSteps := 300000) (disch := omega) [-getElem?_pos, -getElem?_neg, g69, g68, hlt']
      try (with_reducible refine Run.ret ?_)
      apply zz
      apply Cd.ite rfl
      · conv => lhs; simp -implicitDefEqProofs (maxSteps := 300000) (disch := omega) [-getElem?_pos, -getElem?_neg]
      all_goals intro c0
      all_goals try (cases c0; done)
      all_goals try simp only [Bool.not_eq_true', Bool.not_eq_false', decide_eq_true_eq, decide_eq_false_iff_not] at c0
      all_goals apply zz
      apply zz
      refine Cd.ra (h := ?_)
      apply Run.by_eq
      · intro self
        conv => lhs; simp -implicitDefEqProofs (maxSteps := 300000) (disch := omega) [-getElem?_pos, -getElem?_neg, g67, g69, hlt, hsb3, hgk]
      try (with_reducible refine Run.ret ?_)
      apply zz
      refine Cd.ra (h := ?_)
      apply Run.by_eq
      · intro self
        conv => lhs; simp -implicitDefEqProofs (maxSteps := 300000) (disch := omega) [-getElem?_pos, -getElem?_neg, g8, g9, hl1, hm1]
      try (with_reducible refine Run.ret ?_)
      apply zz
      refine Cd.ra (h := ?_)
      apply Run.by_eq
      · intro self
        conv => lhs; simp -implicitDefEqProofs (maxSteps := 300000) (disch := omega) [-getElem?_pos, -getElem?_neg, g69]
      try (with_reducible refine Run.ret ?_)
      apply zz
      exact LoopK.nm (c.n - (k + 1)) (by omega) ⟨k + 1, by omega, rfl, by simp [hm], by simp [g1], by simp [g2], by simp [g4], by simp [g5], by simp [g67], by simp [g68], by simp, by simp, by simp, rfl⟩
    · obtain rfl : k = c.n := by omega
      apply zz
      refine Cd.ra (h := ?_)
      apply Run.by_eq
      · intro self
        conv => lhs; simp -implicitDefEqProofs (maxSteps := 300000) (disch := omega) [-getElem?_pos, -getElem?_neg, g69, g68]
      try (with_reducible refine Run.ret ?_)
      apply zz
      apply Cd.ite rfl
      · conv => lhs; simp -implicitDefEqProofs (maxSteps := 300000) (disch := omega) [-getElem?_pos, -getElem?_neg]
      all_goals intro c0
      all_goals try (cases c0; done)
      all_goals try simp only [Bool.not_eq_true', Bool.not_eq_false', decide_eq_true_eq, decide_eq_false_iff_not] at c0
      all_goals apply zz
      exact ⟨rfl, by simp [hm], by simp [g1], by simp [g2], by simp [g4], by simp [g5], by simp [g8], by simp [g9], rfl⟩
  clear hm g1 g2 g4 e5'
  rintro x f s2 ⟨rfl, hm, g1, g2, g4, g5, g8, g9, rfl⟩
  apply zz
  have h_r0 := hc.r0
  have h_r1 := hc.r1
  unfold Byte at h_r0 h_r1
  have hLM := lst_mst hc (k := c.n) (by omega)
  have hloE : max 0 (c.lst c.n - 10 * c.r0) = c.lo := rfl
  have hhiE : c.mst c.n + 10 * c.r1 = c.hi := rfl
  have hlob := hi_bd hc
  apply zz
  refine Cd.ra (h := ?_)
  apply Run.by_eq
  · intro self
    conv => lhs; simp -implicitDefEqProofs (maxSteps := 300000) (disch := omega) [-getElem?_pos, -getElem?_neg, g1, g4, g8, g9, hg0, hloE, hhiE]
  try (with_reducible refine Run.ret ?_)
  apply zz
  refine Run.call ((span_ev c.lo c.hi _).mono fun v wy hv => ?_)
  obtain ⟨rfl, y⟩ := hv
  have ya := y.1
  have yb := y.2
  try simp only [pushed_next', upded_next'] at ya yb
  have y0 := (yb _ (by omega)).trans hg0
  have y1 := (yb _ (by omega)).trans hg1
  apply Run.by_eq
  · intro self
    conv => lhs; simp -implicitDefEqProofs (maxSteps := 300000) (disch := omega) [-getElem?_pos, -getElem?_neg, y0, y1]
  try (with_reducible refine Run.ret ?_)
  apply zz
  refine Cd.ra (h := ?_)
  apply Run.by_eq
  · intro self
    conv => lhs; simp -implicitDefEqProofs (maxSteps := 300000) (disch := omega) [-getElem?_pos, -getElem?_neg]
  try (with_reducible refine Run.ret ?_)
  apply zz
  have hsl : c.ss.length ≤ 15 := by unfold CropD.ss; simp; omega
  have hssk : ∀ k x, k < 15 → c.samples[k]? = some x → (c.samples.take (k + 1)).map c.samp = (c.samples.take k).map c.samp ++ [c.samp x] := fun k x hk hx => by rw [List.take_add_one, hx, List.map_append]; rfl
  have y2 : wy.heap.get sb = some (.cells cells gS) := (yb _ (by omega)).trans hsb3
  refine Cd.inv (fun z f s' => ∃ (k : Nat) (qv : Value), k ≤ c.samples.length ∧ k ≤ 15 ∧ z = 15 - k ∧ f.marks = [] ∧ f.get 1 = .pointer (some ⟨s.next, 0, none⟩) ∧ f.get 2 = .pointer (some ⟨s.next + 1, 0, none⟩) ∧ f.get 4 = .int .i64 c.n ∧ f.get 5 = .slice (some ⟨sb, 0, none⟩) c.n c.n ∧ f.get 12 = .pointer (some ⟨wy.next, 0, none⟩) ∧ f.get 13 = .int .i64 k ∧ Keep wy s' ∧ wy.next + 1 ≤ s'.next ∧ s'.heap.get wy.next = some (.cells [.int .i64 c.n, .int .i64 c.lo, .int .i64 c.hi, qv] none) ∧ OwnG 3 (wy.next + 1) s' qv (((c.samples.take k).map c.samp).map SampD.cs)) 15 ?_ ?_
  · exact ⟨0, .slice none 0 0, by omega, by omega, rfl, by simp [hm], by simp [g1], by simp [g2], by simp [g4], by simp [g5], by simp, by simp, ⟨by (try simp only [pushed_next', upded_next']); omega, fun i hi => by simp -implicitDefEqProofs (disch := omega) []⟩, by simp, by simp -implicitDefEqProofs (disch := omega), .inl ⟨rfl, rfl⟩⟩
  clear hm g1 g2 g4 g5 g8 g9
  rintro z f s3 ⟨k, qv, hk1, hk2, rfl, hm, g1, g2, g4, g5, g12, g13, hkp3, hnx3, hgq, hQ⟩
  have k3a := hkp3.1
  have k3b := hkp3.2
  have z0 := (k3b _ (by omega)).trans y0
  have z1 := (k3b _ (by omega)).trans y1
  have z2 := (k3b _ (by omega)).trans y2
  have hk3s : Keep s s3 := ⟨by omega, fun i hi => by rw [k3b i (by omega), yb i (by omega)]; exact hkp.2 i hi⟩
  by_cases hlt : k < c.samples.length ∧ k < 15
  · obtain ⟨hlt1, hlt2⟩ := hlt
    have hlt1' : (k : Int) < c.samples.length := by omega
    have hlt2' : (k : Int) < 15 := by omega
    obtain ⟨x, hx⟩ : ∃ x, c.samples[k]? = some x := ⟨c.samples[k], by simp⟩
    have hxb := hc.samples x (List.mem_of_getElem? hx)
    obtain ⟨xb0, xo, xob, xcs, xg, rfl, qb, qo, qc, qt⟩ := SlAt.at (hs.keep hk3s) (k := k) (e := u8T x) (by rw [List.getElem?_map, hx]; rfl)
    have hrowS := hssk k x hlt2 hx
    have hsok := samp_ok hc hxb
    have hrows := samp_len ((c.samples.take k).map c.samp)
    have hrl : (((c.samples.take k).map c.samp).map SampD.cs).length = k := by simp; omega
    obtain ⟨hb1, hb2, hb3⟩ := hxb
    unfold Byte at hb1 hb2 hb3
    have hw1 := Int.emod_nonneg x.1 (show (c.n : Int) ≠ 0 by omega)
    have hw2 := Int.emod_lt_of_pos x.1 (show (0 : Int) < c.n by omega)
    obtain ⟨wk, hwk⟩ : ∃ wk : Nat, x.1 % c.n = wk := ⟨(x.1 % c.n).toNat, by omega⟩
    have hwkn : wk < c.n := by omega
    have hr1 := intOp_rem .i64 x.1 c.n hb1.1 (by omega)
    rw [hwk] at hr1
    have hr2 := intOp_rem .i64 x.2.2 (2 * x.2.1 + 1) hb3.1 (by omega)
    have hm3 := Int.emod_nonneg x.2.2 (show 2 * x.2.1 + 1 ≠ 0 by omega)
    have hm4 := Int.emod_lt_of_pos x.2.2 (show 0 < 2 * x.2.1 + 1 by omega)
    have hgw := hgetS wk hwkn
    have hswk := hswb wk (by omega)
    have hval : max 0 (c.sweet wk - x.2.1 + x.2.2 % (2 * x.2.1 + 1)) = (c.samp x).val := by
      unfold CropD.samp; simp only []; rw [hwk]; rfl
    have hSc : c.samp x = ⟨wk, (c.samp x).val, x.2.1⟩ := by unfold CropD.samp; simp only [hwk]
    have ht80 : u8T x = [.int .u8 x.1, .int .u8 x.2.1, .int .u8 x.2.2] := rfl
    rw [ht80] at qt
    have hvb := hsok.2.1
    rw [hSc] at hrowS
    generalize (c.samp x).val = VAL at *
    clear hsok hSc
    generalize hRM : x.2.2 % (2 * x.2.1 + 1) = RM at *
    obtain ⟨x0, x1, x2⟩ := x
    simp only [] at *
    apply zz
    refine Cd.ra (h := ?_)
    apply Run.by_eq
    · intro self
      conv => lhs; simp -implicitDefEqProofs (maxSteps := 300000) (disch := omega) [-getElem?_pos, -getElem?_neg, g13, g1, z0, hlt1', hlt2']
    try (with_reducible refine Run.ret ?_)
    apply zz
    apply Cd.ite rfl
    · conv => lhs; simp -implicitDefEqProofs (maxSteps := 300000) (disch := omega) [-getElem?_pos, -getElem?_neg]
    all_goals intro c0
    all_goals try (cases c0; done)
    all_goals try simp only [Bool.not_eq_true', Bool.not_eq_false', decide_eq_true_eq, decide_eq_false_iff_not] at c0
    all_goals apply zz
    apply zz
    refine Cd.ra (h := ?_)
    apply Run.by_eq
    · intro self
      conv => lhs; simp -implicitDefEqProofs (maxSteps := 300000) (disch := omega) [-getElem?_pos, -getElem?_neg, g1, g13, z0, hlt1, qo, qc, qt]
    try (with_reducible refine Run.ret ?_)
    apply zz
    refine Cd.drawn (pl := [(0, 0, false, false), (1, 1, false, false), (2, 3, false, false), (3, 0, false, false), (4, 15, false, false), (5, 0, false, false), (6, 32, false, false), (7, 96, false, false), (8, 255, false, false), (9, 0, false, true), (10, 1023, true, false)]) (by kernel_rfl) (by conv => lhs; simp only [List.map_cons, List.map_nil]) (by conv => lhs; simp [strip, ordered]) ?_
    apply Run.by_eq
    · intro self
      conv => lhs; simp -implicitDefEqProofs (maxSteps := 300000) (disch := omega) [filter_bt, (show ∀ i, Nat.testBit 1023 i = decide (i < 10) from fun i => Nat.testBit_two_pow_sub_one 10 i), -getElem?_pos, -getElem?_neg, g4, hr1]
    try (with_reducible refine Run.ret ?_)
    apply zz
    refine Cd.mono (Q := fun x f2 s4 => x = Ex.normal ∧ f2.marks = [] ∧ f2.get 1 = .pointer (some ⟨s.next, 0, none⟩) ∧ f2.get 2 = .pointer (some ⟨s.next + 1, 0, none⟩) ∧ f2.get 4 = .int .i64 c.n ∧ f2.get 5 = .slice (some ⟨sb, 0, none⟩) c.n c.n ∧ f2.get 12 = .pointer (some ⟨wy.next, 0, none⟩) ∧ f2.get 13 = .int .i64 k ∧ f2.get 15 = .pointer (some ⟨s3.next + 1, 0, none⟩) ∧ Keep s3 s4 ∧ s3.next + 1 + 1 ≤ s4.next ∧ s4.heap.get (s3.next + 1) = some (.cells [.int .i64 wk, .int .i64 VAL, .int .i64 x1] none)) ?_ ?_
    · apply zz
      refine Cd.drawn (pl := [(0, 0, false, false), (1, 0, false, false), (2, 2, false, false), (3, 7, false, false), (4, 15, false, false), (5, 0, false, false), (6, 32, false, false), (7, 127, false, false), (8, 0, false, false), (9, 256, false, false), (10, 768, false, false), (11, 0, false, false), (12, 2048, false, false), (13, 6144, false, false), (14, 14336, false, false), (15, 32512, false, false), (16, 65535, false, false), (17, 131071, false, false), (18, 262143, false, false), (19, 524287, true, false)]) (by kernel_rfl) (by conv => lhs; simp only [List.map_cons, List.map_nil]) (by conv => lhs; simp [strip, ordered]) ?_
      apply Run.by_eq
      · intro self
        conv => lhs; simp -implicitDefEqProofs (maxSteps := 300000) (disch := omega) [filter_bt, (show ∀ i, Nat.testBit 524287 i = decide (i < 19) from fun i => Nat.testBit_two_pow_sub_one 19 i), -getElem?_pos, -getElem?_neg, g5, z2, hgw, hwkn, ve5, hr2, hval]
      try (with_reducible refine Run.ret ?_)
      apply zz
      exact ⟨rfl, by simp [hm], by simp [g1], by simp [g2], by simp [g4], by simp [g5], by simp [g12], by simp [g13], by simp, ⟨by (try simp only [pushed_next', upded_next']); omega, fun i hi => by simp -implicitDefEqProofs (disch := omega) []⟩, by simp, by simp -implicitDefEqProofs (disch := omega)⟩
    clear hm g1 g2 g4 g5 g12 g13
    rintro x f2 s4 ⟨rfl, hm, g1, g2, g4, g5, g12, g13, g15, k4, hn4, hg15⟩
    apply zz
    have k4a := k4.1
    have hgq4 := (k4.2 _ (by omega)).trans hgq
    have kx2 : Keep s3 (s4.pushed (.cells [.int .i64 wk, .int .i64 VAL, .int .i64 x1] none)) := k4.pushed _
    generalize hRows : ((c.samples.take k).map c.samp).map SampD.cs = rows at *
    obtain ⟨s5, happ, hn5, hk5, hO5⟩ := app_one (n := 3) (b2 := s4.next) (x := [.int .i64 wk, .int .i64 VAL, .int .i64 x1]) (g := none) (hQ.keepK kx2) hrows rfl rfl (get_pushed_new _ _) (by simp only [pushed_next']; omega) (by omega)
    simp only [pushed_next', hrl] at happ hn5 hO5
    have hvq : oneV qv = true := by rcases hQ with ⟨_, rfl⟩ | ⟨_, rfl, _⟩ <;> rfl
    have hq5 : s5.heap.get wy.next = _ := (hk5 _ (by omega)).trans ((kx2.2 _ (by omega)).trans hgq)
    apply zz
    refine Cd.ra (h := ?_)
    apply Run.by_eq
    · intro self
      conv => lhs; simp -implicitDefEqProofs (maxSteps := 300000) (disch := omega) [-getElem?_pos, -getElem?_neg, g12, g15, hgq4, hg15, happ, hq5]
    try (with_reducible refine Run.ret ?_)
    apply zz
    refine Cd.ra (h := ?_)
    apply Run.by_eq
    · intro self
      conv => lhs; simp -implicitDefEqProofs (maxSteps := 300000) (disch := omega) [-getElem?_pos, -getElem?_neg, g13]
    try (with_reducible refine Run.ret ?_)
    apply zz
    refine LoopK.nm (15 - (k + 1)) (by omega) ⟨k + 1, .slice (some ⟨s4.next + 1, 0, none⟩) (k + 1) (k + 1), by omega, by omega, rfl, by simp [hm], by simp [g1], by simp [g2], by simp [g4], by simp [g5], by simp [g12], by simp, ⟨by (try simp only [upded_next']); omega, fun i hi => ?_⟩, by (try simp only [upded_next']); omega, get_upded_same _ _ _, ?_⟩
    · rw [get_upded_other _ _ _ _ (by omega), hk5 i (by omega), kx2.2 i (by omega)]; exact k3b i hi
    · rw [hrowS, List.map_append, hRows]
      exact (hO5.keep (by (try simp only [upded_next']); omega) fun i h1 h2 => get_upded_other _ _ _ _ (by omega))
  · have hcd : ¬ ((k : Int) < c.samples.length ∧ (k : Int) < 15) := fun h => hlt ⟨by omega, by omega⟩
    have hss : c.ss = (c.samples.take k).map c.samp := by
      unfold CropD.ss
      by_cases h15 : k = 15
      · rw [h15]
      · have : k = c.samples.length := by omega
        rw [this, List.take_of_length_le (by omega), List.take_of_length_le (by omega)]
    have hrows := samp_len ((c.samples.take k).map c.samp)
    have hQs := hQ.sl hrows
    have hvq : oneV qv = true := by rcases hQ with ⟨_, rfl⟩ | ⟨_, rfl, _⟩ <;> rfl
    apply zz
    refine Cd.mono (Q := fun x f2 s4 => x = Ex.normal ∧ f2.marks = [] ∧ f2.get 2 = .pointer (some ⟨s.next + 1, 0, none⟩) ∧ f2.get 5 = .slice (some ⟨sb, 0, none⟩) c.n c.n ∧ f2.get 12 = .pointer (some ⟨wy.next, 0, none⟩) ∧ f2.get 106 = .bool false ∧ s4 = s3) ?_ ?_
    · by_cases h1 : (k : Int) < c.samples.length
      · have h2 : ¬ (k : Int) < 15 := fun h => hcd ⟨h1, h⟩
        apply zz
        refine Cd.ra (h := ?_)
        apply Run.by_eq
        · intro self
          conv => lhs; simp -implicitDefEqProofs (maxSteps := 300000) (disch := omega) [-getElem?_pos, -getElem?_neg, g13, g1, z0, h1, h2]
        try (with_reducible refine Run.ret ?_)
        apply zz
        exact ⟨rfl, by simp [hm], by simp [g2], by simp [g5], by simp [g12], by simp, rfl⟩
      · apply zz
        refine Cd.ra (h := ?_)
        apply Run.by_eq
        · intro self
          conv => lhs; simp -implicitDefEqProofs (maxSteps := 300000) (disch := omega) [-getElem?_pos, -getElem?_neg, g13, g1, z0, h1]
        try (with_reducible refine Run.ret ?_)
        apply zz
        exact ⟨rfl, by simp [hm], by simp [g2], by simp [g5], by simp [g12], by simp, rfl⟩
    clear hm g1 g2 g4 g5 g12 g13
    rintro x f2 s4 ⟨rfl, hm, g2, g5, g12, g106, rfl⟩
    apply zz
    apply Cd.ite rfl
    · conv => lhs; simp -implicitDefEqProofs (maxSteps := 300000) (disch := omega) [-getElem?_pos, -getElem?_neg, g106]
    all_goals intro c0
    all_goals try (cases c0; done)
    all_goals try simp only [Bool.not_eq_true', Bool.not_eq_false', decide_eq_true_eq, decide_eq_false_iff_not] at c0
    all_goals apply zz
    apply zz
    refine Cd.ra (h := ?_)
    apply Run.by_eq
    · intro self
      conv => lhs; simp -implicitDefEqProofs (maxSteps := 300000) (disch := omega) [-getElem?_pos, -getElem?_neg, g2, g5, g12, z1, hgq, hvq]
    try (with_reducible refine Run.ret ?_)
    apply zz
    apply Leave.mk (by first | exact .inl rfl | exact .inr rfl) (by simp only [Fr.marks_put, fr0_marks, hm, g2, hvq])
    · conv => lhs; simp -implicitDefEqProofs (disch := omega) [Try.results33, hm, g2, hvq]
    refine ⟨⟨by (try simp only [upded_next']); omega, fun i hi => ?_⟩, qv, _, rfl, ?_, ?_⟩
    · rw [get_upded_other _ _ _ _ (by omega)]; exact hk3s.2 i hi
    · rw [hss]
      exact OwnG.less (hQ.keep (s' := s4.upded (s.next + 1) _) (by (try simp only [upded_next']); omega) fun i h1 h2 => get_upded_other _ _ _ _ (by omega)) (by omega)
    · have hkk : Keep s2 s4 := ⟨by omega, fun i hi => by rw [k3b i (by omega), yb i (by omega)]⟩
      refine OwnN.sl (OwnN.keep hO' ?_ fun i h1 h2 => ?_) (iC_len _)
      · (try simp only [upded_next']); omega
      · rw [get_upded_other _ _ _ _ (by omega)]; exact hkk.2 i h2
end Go.Proofs.Ytnhokodcmeekhaa
namespace Go.Proofs.Ytnhokodcmeekhaa
open Go Kern
/-! The law of cuts -/
end Go.Proofs.Ytnhokodcmeekhaa
namespace Go.Proofs.Ytnhokodcmeekhaa
open Go Kern
/-! The law of proofs -/
def HasClash (n lo hi : Int) (ss : List SampD) : Prop := ∃ i j k, i < n.toNat ∧ j < n.toNat ∧ k < n.toNat ∧ hB lo hi ss i j k = true
theorem Ans.mode {n lo hi : Int} {ss : List SampD} {e : Int} {bad good : Prop} (h1 : fieldErr n lo hi ss = 0) (h : Ans n lo hi ss e bad good) : (HasClash n lo hi ss → e = 12 ∧ bad) ∧ (¬ HasClash n lo hi ss → e = 0 ∧ good) := by
  rcases h with ⟨h, _⟩ | ⟨_, h, g, hc⟩ | ⟨_, h, g, hc⟩
  · exact absurd h1 h
  · exact ⟨fun _ => ⟨h, g⟩, fun hn => absurd hc hn⟩
  · refine ⟨fun ⟨i, j, k, a, b, c, d⟩ => ?_, fun _ => ⟨h, g⟩⟩
    rw [hc i j k a b c] at d; cases d
theorem ClashA.mode {n lo hi : Int} {ss : List SampD} {w : Value} {e : Int} {s : St} (h1 : fieldErr n lo hi ss = 0) (h : ClashA (fieldErr n lo hi ss) n.toNat (holdsB (fun w => (endN lo hi ss w).1) (fun w => (endN lo hi ss w).2)) w e s) : (HasClash n lo hi ss → e = 0 ∧ Trip n.toNat (hB lo hi ss) w s) ∧ (¬ HasClash n lo hi ss → e = 5 ∧ w = .slice none 0 0) := by
  rcases h with ⟨h, _⟩ | ⟨_, h, g, hc⟩ | ⟨_, h, g⟩
  · exact absurd h1 h
  · refine ⟨fun ⟨i, j, k, a, b, c, d⟩ => ?_, fun _ => ⟨h, g⟩⟩
    have := hc i j k a b c
    change hB lo hi ss i j k = false at this
    rw [this] at d; cases d
  · refine ⟨fun _ => ⟨h, g⟩, fun hn => ?_⟩
    obtain ⟨i, j, k, a, b, c, d, _⟩ := g
    exact absurd ⟨i, j, k, a, b, c, d⟩ hn
def wsamp (n : Nat) (x : Int × Int × Int) : SampD := ⟨x.1 % n, 7000 + 40 * x.2.1, x.2.2⟩
@[simp] theorem newObj_24 {f : Fr} {pl0 : Array (Nat × Operand)} : Kern.newObj TT (.buildSlice 24 1 pl0) f = ob (fillL f.eval (placesA 3 pl0.toList) (repeatL [.int .i64 0, .int .i64 0, .int .i64 0] 1)) fun c => some (.cells c none) :=
  newObj_buildSlice 24 1 pl0 und_24 size_82 zero_82 rfl
def Bytes3 (x : Int × Int × Int) : Prop := Byte x.1 ∧ Byte x.2.1 ∧ Byte x.2.2
end Go.Proofs.Ytnhokodcmeekhaa
namespace Go.Proofs.Ytnhokodcmeekhaa
open Go Kern
/-! What is true lies within what is known -/
/-- A truth: within all lows and highs, in steps that never become greater. -/
structure Truth (m : Nat) (L H : Nat → Frac) (x : Nat → Int) : Prop where
  u : ∀ w, w < m → (L w).u = 1 ∧ (H w).u = 1
  lo : ∀ w, w < m → (L w).o ≤ x w
  hi : ∀ w, w < m → x w ≤ (H w).o
  con : ∀ i j k, i < j → j < k → k < m → x i * ((k : Int) - j) + x k * ((j : Int) - i) ≤ x j * ((k : Int) - i)
theorem mul_le2 {a b c d p q : Int} (h1 : a ≤ b) (h2 : c ≤ d) (hp : 0 ≤ p) (hq : 0 ≤ q) : a * p + c * q ≤ b * p + d * q := by
  have := Int.mul_le_mul_of_nonneg_right h1 hp
  have := Int.mul_le_mul_of_nonneg_right h2 hq
  omega
theorem Truth.nocl {m : Nat} {L H : Nat → Frac} {x : Nat → Int} (h : Truth m L H x) : NoCl m L H := by
  refine ⟨h.u, fun i j k hi hj hk => ?_⟩
  unfold clashB
  split
  · rename_i e
    obtain ⟨rfl, rfl⟩ := e
    rw [above_not, (h.u i hi).1, (h.u i hi).2, Int.mul_one, Int.mul_one]
    exact Int.le_trans (h.lo i hi) (h.hi i hi)
  · by_cases h1 : i < j
    · by_cases h2 : j < k
      · rw [decide_eq_true h1, decide_eq_true h2, Bool.true_and, Bool.true_and, above_not]
        unfold lineF lineO
        rw [if_neg (by omega)]
        simp only [(h.u i hi).1, (h.u k hk).1, (h.u j hj).2, Int.mul_one, Int.one_mul]
        have a := h.con i j k h1 h2 hk
        have b := mul_le2 (h.lo i hi) (h.lo k hk) (show (0 : Int) ≤ (k : Int) - j by omega) (show (0 : Int) ≤ (j : Int) - i by omega)
        have c := Int.mul_le_mul_of_nonneg_right (h.hi j hj) (show (0 : Int) ≤ (k : Int) - i by omega)
        omega
      · rw [decide_eq_false h2, Bool.false_and, Bool.and_false]
    · rw [decide_eq_false h1, Bool.false_and]
theorem Truth.line_le {m w i k : Nat} {L H : Nat → Frac} {x : Nat → Int} (h : Truth m L H x) (hi : i < w) (hk : w < k) (hkm : k < m) : LeF (lineF i (L i) k (L k) w) ⟨x w, 1⟩ := by
  unfold lineF lineO LeF
  rw [if_neg (by omega)]
  simp only [(h.u i (by omega)).1, (h.u k hkm).1, Int.mul_one, Int.one_mul]
  have a := h.con i w k hi hk hkm
  have b := mul_le2 (h.lo i (by omega)) (h.lo k hkm) (show (0 : Int) ≤ (k : Int) - w by omega) (show (0 : Int) ≤ (w : Int) - i by omega)
  omega
theorem Truth.low {m w : Nat} {L H : Nat → Frac} {x : Nat → Int} (h : Truth m L H x) (hw : w < m) : LeF (lowF m L w) ⟨x w, 1⟩ := by
  refine fore_le ?_ fun y hy => ?_
  · unfold LeF; rw [(h.u w hw).1]; simp only [Int.mul_one]; exact h.lo w hw
  · obtain ⟨⟨i, k⟩, hp, rfl⟩ := List.mem_map.1 hy
    obtain ⟨h1, h2, h3⟩ := across_mem.1 hp
    exact h.line_le h1 h2 h3
theorem Truth.up {m w : Nat} {L H : Nat → Frac} {x : Nat → Int} (h : Truth m L H x) (hw : w < m) : LeF ⟨x w, 1⟩ (upF m L H w) := by
  unfold upF
  rcases foreF_mem (bf := belowB) (H w) ((towardL m w).map fun p => lineF p.1 (L p.1) p.2 (H p.2) w) with e | e
  · rw [e]; unfold LeF; rw [(h.u w hw).2]; simp only [Int.mul_one]; exact h.hi w hw
  · obtain ⟨⟨a, b⟩, hp, hx⟩ := List.mem_map.1 e
    rw [← hx]
    have hm := toward_mem.1 hp
    simp only [] at hm ⊢
    obtain ⟨ha, hm | hm⟩ := hm
    · have c := h.con a b w hm.1 hm.2 hw
      have d := Int.mul_le_mul_of_nonneg_right (h.hi b (by omega)) (show (0 : Int) ≤ (w : Int) - a by omega)
      have e := Int.mul_le_mul_of_nonneg_right (h.lo a ha) (show (0 : Int) ≤ (w : Int) - b by omega)
      unfold lineF lineO LeF
      rw [if_neg (by omega)]
      simp only [(h.u a ha).1, (h.u b (by omega)).2, Int.mul_one, Int.one_mul]
      have e1 : (L a).o * ((b : Int) - w) = -((L a).o * ((w : Int) - b)) := by rw [← Int.mul_neg]; congr 1; omega
      omega
    · have c := h.con w b a hm.1 hm.2 ha
      have d := Int.mul_le_mul_of_nonneg_right (h.hi b (by omega)) (show (0 : Int) ≤ (a : Int) - w by omega)
      have e := Int.mul_le_mul_of_nonneg_right (h.lo a ha) (show (0 : Int) ≤ (b : Int) - w by omega)
      unfold lineF lineO LeF
      rw [if_pos (by omega)]
      simp only [(h.u a ha).1, (h.u b (by omega)).2, Int.mul_one, Int.one_mul]
      have e1 : (L a).o * ((w : Int) - b) = -((L a).o * ((b : Int) - w)) := by rw [← Int.mul_neg]; congr 1; omega
      omega
theorem fl_le {x : Frac} {n : Int} (hu : 0 < x.u) (h : LeF x ⟨n, 1⟩) : flF x ≤ n := by
  unfold LeF at h
  simp only [Int.mul_one] at h
  unfold flF
  have : x.o / x.u < n + 1 := by
    rw [Int.ediv_lt_iff_lt_mul hu, Int.add_mul]; omega
  omega
theorem le_ce {x : Frac} {n : Int} (hu : 0 < x.u) (h : LeF ⟨n, 1⟩ x) : n ≤ ceF x := by
  unfold LeF at h
  simp only [Int.mul_one] at h
  have : flF ⟨-x.o, x.u⟩ ≤ -n := fl_le hu (by unfold LeF; simp only [Int.mul_one, Int.neg_mul]; omega)
  unfold flF at this
  simp only [] at this
  unfold ceF
  omega
theorem ce_mono {x y : Frac} (hx : 0 < x.u) (hy : 0 < y.u) (h : LeF x y) : ceF x ≤ ceF y := by
  have key : LeF ⟨-y.o, y.u⟩ ⟨-x.o, x.u⟩ := by unfold LeF at *; simp only [Int.neg_mul]; omega
  have h1 : (-y.o) / y.u ≤ (-x.o) / x.u := by
    rw [Int.le_ediv_iff_mul_le hx]
    have h2 : (-y.o) / y.u * y.u ≤ -y.o := Int.ediv_mul_le _ (by omega)
    have h3 := Int.mul_le_mul_of_nonneg_right h2 (Int.le_of_lt hx)
    unfold LeF at key
    simp only [] at key
    have h4 : (-y.o) / y.u * x.u * y.u ≤ -x.o * y.u := by rw [Int.mul_right_comm]; omega
    exact Int.le_of_mul_le_mul_right h4 hy
  unfold ceF
  omega
/-- Of all truths' losses none is greater than the regret. -/
theorem Truth.loss {m w o : Nat} {L H : Nat → Frac} {x : Nat → Int} (h : Truth m L H x) (hw : w < m) (ho : o < m) : LeF ⟨x o - x w, 1⟩ (lossF m L H w o) := by
  have hN := h.nocl
  obtain ⟨hLp, hHp⟩ := hN.pos
  have hU := up_pos hLp hHp ho
  have hxU := h.up ho
  have hRw : raisedL m L H o o = upF m L H o := if_pos rfl
  have hRn : ∀ i, i ≠ o → raisedL m L H o i = L i := fun i h => if_neg h
  have hRp : ∀ i, i < m → 0 < (raisedL m L H o i).u := fun i hi => by
    unfold raisedL updF; split
    · exact hU
    · exact hLp i hi
  -- below what lies at most the truth's sweetness
  have key : ∀ X : Frac, 0 < X.u → LeF X ⟨x w, 1⟩ → LeF ⟨x o - x w, 1⟩ (minusF (upF m L H o) X) := fun X hX hle => by
    unfold LeF minusF at *
    simp only [Int.mul_one] at *
    have a := Int.mul_le_mul_of_nonneg_right hxU (Int.le_of_lt hX)
    have b := Int.mul_le_mul_of_nonneg_right hle (Int.le_of_lt hU)
    have e : (x o - x w) * ((upF m L H o).u * X.u) = x o * (upF m L H o).u * X.u - x w * X.u * (upF m L H o).u := by grind
    omega
  -- a line from the raised week to another one
  have line : ∀ i : Nat, i < m → ((i < w ∧ w < o) ∨ (o < w ∧ w < i)) → LeF ⟨x o - x w, 1⟩ (minusF (upF m L H o) (lineF i (L i) o (upF m L H o) w)) := fun i hi hb => by
    generalize hUe : upF m L H o = U at *
    obtain ⟨uo, uu⟩ := U
    unfold LeF at hxU ⊢
    simp only [Int.mul_one] at hU hxU
    have hlo := h.lo i hi
    rcases hb with ⟨h1, h2⟩ | ⟨h1, h2⟩
    · have c := h.con i w o h1 h2 ho
      unfold minusF lineF lineO
      rw [if_neg (by omega)]
      simp only [(h.u i hi).1, Int.one_mul, Int.mul_one]
      -- U - X = (U - L i) (o - w) / (o - i)
      have g1 : 0 ≤ (uo - x o * uu) * ((o : Int) - w) := Int.mul_nonneg (by omega) (by omega)
      have g2 : 0 ≤ (x i - (L i).o) * uu * ((o : Int) - w) := Int.mul_nonneg (Int.mul_nonneg (by omega) (by omega)) (by omega)
      have g3 : 0 ≤ (x w * ((o : Int) - i) - (x i * ((o : Int) - w) + x o * ((w : Int) - i))) * uu := Int.mul_nonneg (by omega) (by omega)
      have g4 := Int.mul_nonneg (show 0 ≤ (uo - x o * uu) * ((o : Int) - w) + (x i - (L i).o) * uu * ((o : Int) - w) + (x w * ((o : Int) - i) - (x i * ((o : Int) - w) + x o * ((w : Int) - i))) * uu by omega) (Int.le_of_lt hU)
      have e : (uo * (uu * ((o : Int) - i)) - ((L i).o * uu * ((o : Int) - w) + uo * ((w : Int) - i)) * uu) - (x o - x w) * (uu * (uu * ((o : Int) - i))) = ((uo - x o * uu) * ((o : Int) - w) + (x i - (L i).o) * uu * ((o : Int) - w) + (x w * ((o : Int) - i) - (x i * ((o : Int) - w) + x o * ((w : Int) - i))) * uu) * uu := by grind
      omega
    · have c := h.con o w i h1 h2 hi
      unfold minusF lineF lineO
      rw [if_pos (by omega)]
      simp only [(h.u i hi).1, Int.one_mul, Int.mul_one]
      have g1 : 0 ≤ (uo - x o * uu) * ((w : Int) - o) := Int.mul_nonneg (by omega) (by omega)
      have g2 : 0 ≤ (x i - (L i).o) * uu * ((w : Int) - o) := Int.mul_nonneg (Int.mul_nonneg (by omega) (by omega)) (by omega)
      have g3 : 0 ≤ (x w * ((i : Int) - o) - (x o * ((i : Int) - w) + x i * ((w : Int) - o))) * uu := Int.mul_nonneg (by omega) (by omega)
      have g4 := Int.mul_nonneg (show 0 ≤ (uo - x o * uu) * ((w : Int) - o) + (x i - (L i).o) * uu * ((w : Int) - o) + (x w * ((i : Int) - o) - (x o * ((i : Int) - w) + x i * ((w : Int) - o))) * uu by omega) (Int.le_of_lt hU)
      have e : (uo * (uu * ((i : Int) - o)) - (uo * ((i : Int) - w) + (L i).o * uu * ((w : Int) - o)) * uu) - (x o - x w) * (uu * (uu * ((i : Int) - o))) = ((uo - x o * uu) * ((w : Int) - o) + (x i - (L i).o) * uu * ((w : Int) - o) + (x w * ((i : Int) - o) - (x o * ((i : Int) - w) + x i * ((w : Int) - o))) * uu) * uu := by grind
      omega
  unfold lossF
  have hmem := foreF_mem (bf := aboveB) (raisedL m L H o w) ((acrossL m w).map fun p => lineF p.1 (raisedL m L H o p.1) p.2 (raisedL m L H o p.2) w)
  have eR : lowF m (raisedL m L H o) w = foreF aboveB (raisedL m L H o w) ((acrossL m w).map fun p => lineF p.1 (raisedL m L H o p.1) p.2 (raisedL m L H o p.2) w) := rfl
  rw [← eR] at hmem
  by_cases hwo : w = o
  · subst hwo
    have hz : (x w - x w : Int) = 0 := by omega
    rw [hz]
    have key0 : ∀ X : Frac, LeF X (upF m L H w) → LeF ⟨0, 1⟩ (minusF (upF m L H w) X) := fun X hX => by
      unfold LeF minusF at *
      simp only [Int.zero_mul, Int.mul_one]
      omega
    refine key0 _ ?_
    rcases hmem with e | e
    · rw [e, hRw]; exact LeF.refl _
    · obtain ⟨⟨i, k⟩, hp, hx⟩ := List.mem_map.1 e
      obtain ⟨h1, h2, h3⟩ := across_mem.1 hp
      simp only [] at h1 h2 h3 hx
      rw [← hx, hRn i (by omega), hRn k (by omega)]
      exact across_le_up h.u hN.all h1 h2 h3
  · rcases hmem with e | e
    · rw [e, hRn w hwo]
      refine key _ (hLp w hw) ?_
      unfold LeF; rw [(h.u w hw).1]; simp only [Int.mul_one]; exact h.lo w hw
    · obtain ⟨⟨i, k⟩, hp, hx⟩ := List.mem_map.1 e
      obtain ⟨h1, h2, h3⟩ := across_mem.1 hp
      simp only [] at h1 h2 h3 hx
      rw [← hx]
      by_cases hio : i = o
      · subst hio
        rw [hRw, hRn k (by omega), line_swap _ _ _ _ _ (by omega)]
        exact line k h3 (by omega)
      · by_cases hko : k = o
        · subst hko
          rw [hRw, hRn i hio]
          exact line i (by omega) (by omega)
        · rw [hRn i hio, hRn k hko]
          exact key _ (line_pos (hLp i (by omega)) (hLp k h3) (by omega)) (h.line_le h1 h2 h3)
theorem Truth.regret {m w o : Nat} {L H : Nat → Frac} {x : Nat → Int} (hm : m ≤ 30) (h : Truth m L H x) (hL : ∀ i, i < m → Mid 60000 1 (L i)) (hH : ∀ i, i < m → Mid 60000 1 (H i)) (hw : w < m) (ho : o < m) : x o - x w ≤ ceF (regF m L H w) := by
  obtain ⟨gp, g0, g1⟩ := fore_max ((List.range m).map (lossF m L H w)) ⟨0, 1⟩ (by decide) fun y hy => by
    obtain ⟨j, hj, rfl⟩ := List.mem_map.1 hy
    exact (loss_mid hm hw (by simpa using hj) hL hH).2.1
  have h1 := g1 _ (List.mem_map_of_mem (f := lossF m L H w) (show o ∈ List.range m by simpa using ho))
  exact le_ce gp ((h.loss hw ho).trans (show (0 : Int) < 1 by decide) (loss_mid hm hw ho hL hH).2.1 gp h1)
/-- The week that is named has the least regret. -/
theorem best_least {R : Nat → Frac} {m : Nat} (hR : ∀ w, w < m → 0 < (R w).u) : ∀ k, k < m → ∀ w, w ≤ k → LeF (R (bestI R k)) (R w)
  | 0, _, w, hw => by
    have : w = 0 := by omega
    subst this; exact LeF.refl _
  | k + 1, hk, w, hw => by
    have ih := best_least hR k (by omega)
    have hb := bestI_le R k
    unfold bestI
    by_cases hab : aboveB (R (bestI R k)) (R (k + 1)) = true
    · rw [if_pos hab]
      rw [above_iff] at hab
      have hlt : LeF (R (k + 1)) (R (bestI R k)) := by unfold LeF; omega
      by_cases e : w = k + 1
      · subst e; exact LeF.refl _
      · exact hlt.trans (hR _ hk) (hR _ (by omega)) (hR _ (by omega)) (ih w (by omega))
    · rw [if_neg hab]
      by_cases e : w = k + 1
      · subst e
        simp only [Bool.not_eq_true] at hab
        rw [above_not] at hab
        exact hab
      · exact ih w (by omega)
theorem wkL_mem {m w : Nat} {p : Nat → Bool} : (w : Int) ∈ wkL m p ↔ w < m ∧ p w = true := by
  unfold wkL
  simp only [List.mem_map, List.mem_filter, List.mem_range]
  constructor
  · rintro ⟨j, ⟨h1, h2⟩, h3⟩
    have : j = w := by omega
    subst this; exact ⟨h1, h2⟩
  · rintro ⟨h1, h2⟩; exact ⟨w, ⟨h1, h2⟩, rfl⟩
end Go.Proofs.Ytnhokodcmeekhaa
namespace Go.Proofs.Ytnhokodcmeekhaa
open Go Kern
/-! A crop's sweetness is a truth of its field -/
theorem stp_le {c : CropD} (h : c.Ok) {a b : Nat} (hab : a ≤ b) : c.stp b ≤ c.stp a := by
  induction b with
  | zero => have : a = 0 := by omega
            subst this; exact Int.le_refl _
  | succ b ih =>
    by_cases e : a = b + 1
    · subst e; exact Int.le_refl _
    · have h1 := ih (by omega)
      have h2 := (fall_bd h b).1
      have h3 : c.stp (b + 1) = c.stp b - c.fall b := rfl
      omega
theorem sweet_lo {c : CropD} (h : c.Ok) {i j : Nat} (hij : i ≤ j) : ((j : Int) - i) * c.stp j ≤ c.sweet j - c.sweet i := by
  obtain ⟨d, rfl⟩ : ∃ d, j = i + d := ⟨j - i, by omega⟩
  have key : ∀ d e : Nat, d ≤ e → (d : Int) * c.stp (i + e) ≤ c.sweet (i + d) - c.sweet i := by
    intro d
    induction d with
    | zero => intro e _; simp
    | succ d ih =>
      intro e he
      have h1 := ih e (by omega)
      have h2 := stp_le h (show i + d ≤ i + e by omega)
      have h3 : c.sweet (i + (d + 1)) = c.sweet (i + d) + c.stp (i + d) := rfl
      have h4 : ((d + 1 : Nat) : Int) * c.stp (i + e) = (d : Int) * c.stp (i + e) + c.stp (i + e) := by push_cast; rw [Int.add_mul]; omega
      omega
  have := key d d (Nat.le_refl _)
  rw [show ((i + d : Nat) : Int) - i = d by omega]
  exact this
theorem sweet_hi {c : CropD} (h : c.Ok) {j k : Nat} (hjk : j ≤ k) : c.sweet k - c.sweet j ≤ ((k : Int) - j) * c.stp j := by
  obtain ⟨d, rfl⟩ : ∃ d, k = j + d := ⟨k - j, by omega⟩
  have key : ∀ d : Nat, c.sweet (j + d) - c.sweet j ≤ (d : Int) * c.stp j := by
    intro d
    induction d with
    | zero => simp
    | succ d ih =>
      have h2 := stp_le h (show j ≤ j + d by omega)
      have h3 : c.sweet (j + (d + 1)) = c.sweet (j + d) + c.stp (j + d) := rfl
      have h4 : ((d + 1 : Nat) : Int) * c.stp j = (d : Int) * c.stp j + c.stp j := by push_cast; rw [Int.add_mul]; omega
      omega
  rw [show ((j + d : Nat) : Int) - j = d by omega]
  exact key d
theorem sweet_con {c : CropD} (h : c.Ok) {i j k : Nat} (hij : i < j) (hjk : j < k) : c.sweet i * ((k : Int) - j) + c.sweet k * ((j : Int) - i) ≤ c.sweet j * ((k : Int) - i) := by
  have a := Int.mul_le_mul_of_nonneg_right (sweet_lo h (show i ≤ j by omega)) (show (0 : Int) ≤ (k : Int) - j by omega)
  have b := Int.mul_le_mul_of_nonneg_right (sweet_hi h (show j ≤ k by omega)) (show (0 : Int) ≤ (j : Int) - i by omega)
  have e1 : ((j : Int) - i) * c.stp j * ((k : Int) - j) = ((k : Int) - j) * c.stp j * ((j : Int) - i) := by ac_rfl
  have e2 : c.sweet j * ((k : Int) - i) - (c.sweet i * ((k : Int) - j) + c.sweet k * ((j : Int) - i)) = (c.sweet j - c.sweet i) * ((k : Int) - j) - (c.sweet k - c.sweet j) * ((j : Int) - i) := by grind
  omega
/-- A sample that is right. -/
def Right (x : Nat → Int) (s : SampD) : Prop := s.val - s.off ≤ x s.week.toNat ∧ x s.week.toNat ≤ s.val + s.off
theorem end_truth {x : Nat → Int} (w : Nat) : ∀ (ss : List SampD) (p : Int × Int), p.1 ≤ x w ∧ x w ≤ p.2 → (∀ s ∈ ss, Right x s) → (ss.foldl (endS w) p).1 ≤ x w ∧ x w ≤ (ss.foldl (endS w) p).2
  | [], _, h, _ => h
  | s :: r, p, h, hs => by
    refine end_truth w r (endS w p s) ?_ fun y hy => hs y (.tail _ hy)
    have h1 := hs s (.head _)
    unfold endS
    split
    · rename_i e
      unfold Right at h1
      rw [e, Int.toNat_natCast] at h1
      simp only []
      omega
    · exact h
theorem crop_truth {c : CropD} (hc : c.Ok) {ss : List SampD} (h1 : fieldErr c.n c.lo c.hi ss = 0) (hs : ∀ s ∈ ss, Right c.sweet s) : Truth c.n (LF c.n c.lo c.hi ss) (HF c.n c.lo c.hi ss) c.sweet := by
  have key : ∀ w, w < c.n → (LF c.n c.lo c.hi ss w).o ≤ c.sweet w ∧ c.sweet w ≤ (HF c.n c.lo c.hi ss w).o := fun w hw => by
    rw [LF_ref h1 hw, HF_ref h1 hw]
    exact end_truth w ss (c.lo, c.hi) (sweet_range hc hw) hs
  refine ⟨fun w hw => by rw [LF_ref h1 hw, HF_ref h1 hw]; exact ⟨rfl, rfl⟩, fun w hw => (key w hw).1, fun w hw => (key w hw).2, fun i j k hij hjk _ => sweet_con hc hij hjk⟩
theorem crop_ss {c : CropD} (hc : c.Ok) : fieldErr c.n c.lo c.hi c.ss = 0 ∧ ∀ s ∈ c.ss, Right c.sweet s := by
  have hsl : c.ss.length ≤ 15 := by unfold CropD.ss; simp; omega
  refine ⟨crop_valid hc _ (by omega) fun x hx => ?_, fun x hx => ?_⟩
  · obtain ⟨z, hz, rfl⟩ := List.mem_map.1 hx
    obtain ⟨a1, a2, a3, _⟩ := samp_ok hc (hc.samples z (List.mem_of_mem_take hz))
    omega
  · obtain ⟨z, hz, rfl⟩ := List.mem_map.1 hx
    obtain ⟨_, _, _, a4⟩ := samp_ok hc (hc.samples z (List.mem_of_mem_take hz))
    exact a4
theorem Truth.noHas {m : Nat} {lo hi : Int} {ss : List SampD} {x : Nat → Int} (h1 : fieldErr m lo hi ss = 0) (h : Truth m (LF m lo hi ss) (HF m lo hi ss) x) : ¬ HasClash m lo hi ss := by
  rintro ⟨i, j, k, a, b, c, d⟩
  simp only [Int.toNat_natCast] at a b c
  have := h.nocl.all i j k a b c
  rw [show clashB (LF m lo hi ss) (HF m lo hi ss) i j k = hB lo hi ss i j k from hB_eq h1 i j k a b c] at this
  rw [this] at d; cases d
/-! A number of a list -/
end Go.Proofs.Ytnhokodcmeekhaa
namespace Go.Proofs.Ytnhokodcmeekhaa
open Go Kern
/-! The stage's theorem: its law -/
structure TFacts (c : CropD) (least : Int) (w : Nat) : Prop where
  kl : (knownL c.n c.lo c.hi c.ss)[w]? = some (flF (lowF c.n (bndN c.n c.lo c.hi c.ss).1 w), ceF (upF c.n (bndN c.n c.lo c.hi c.ss).1 (bndN c.n c.lo c.hi c.ss).2 w))
  lo : flF (lowF c.n (bndN c.n c.lo c.hi c.ss).1 w) ≤ c.sweet w
  hi : c.sweet w ≤ ceF (upF c.n (bndN c.n c.lo c.hi c.ss).1 (bndN c.n c.lo c.hi c.ss).2 w)
  loss : c.mst c.n - c.sweet w ≤ ceF (RF c.n c.lo c.hi c.ss w)
  best : ceF (RF c.n c.lo c.hi c.ss (bestI (RF c.n c.lo c.hi c.ss) (c.n - 1))) ≤ ceF (RF c.n c.lo c.hi c.ss w)
  peak : c.sweet w = c.mst c.n → (w : Int) ∈ wkL c.n (fromB (UF c.n c.lo c.hi c.ss) (topF c.n (LF c.n c.lo c.hi c.ss)))
  sure : (w : Int) ∈ wkL c.n (fromB (WF c.n c.lo c.hi c.ss) ⟨limI least, 1⟩) → least ≤ c.sweet w
  maybe : least ≤ c.sweet w → (w : Int) ∈ wkL c.n (fromB (UF c.n c.lo c.hi c.ss) ⟨limI least, 1⟩)
theorem mst_is {c : CropD} (k : Nat) (hk : 0 < k) : (∃ o, o < k ∧ c.sweet o = c.mst k) ∧ ∀ w, w < k → c.sweet w ≤ c.mst k := by
  constructor
  · rcases foldmm_mem max (fun a b => by omega) ((List.range k).map c.sweet) (c.sweet 0) with h | h
    · exact ⟨0, hk, h.symm⟩
    · obtain ⟨o, ho, e⟩ := List.mem_map.1 h
      exact ⟨o, by simpa using ho, e⟩
  · intro w hw
    exact (foldmax_ge _ _).2 _ (List.mem_map_of_mem (by simpa using hw))
theorem t_facts {c : CropD} (hc : c.Ok) {least : Int} (hl : 7000 ≤ least ∧ least ≤ 16000) {w : Nat} (hw : w < c.n) : TFacts c least w := by
  have hn := n_bd c
  obtain ⟨h1, hR⟩ := crop_ss hc
  have hT := crop_truth hc h1 hR
  obtain ⟨hm, hb⟩ := base_ok h1
  have hL : ∀ i, i < c.n → Mid 60000 1 (LF c.n c.lo c.hi c.ss i) := fun i hi => (hb i hi).1.mid
  have hH : ∀ i, i < c.n → Mid 60000 1 (HF c.n c.lo c.hi c.ss i) := fun i hi => (hb i hi).2.1.mid
  have hLp : ∀ i, i < c.n → 0 < (LF c.n c.lo c.hi c.ss i).u := fun i hi => (hL i hi).2.1
  have hHp : ∀ i, i < c.n → 0 < (HF c.n c.lo c.hi c.ss i).u := fun i hi => (hH i hi).2.1
  have hlp := low_pos hLp hw
  have hup := up_pos hLp hHp hw
  have hlow := hT.low hw
  have hupp := hT.up hw
  obtain ⟨⟨o, ho, htop⟩, hall⟩ := mst_is (c := c) c.n (by omega)
  have hlim : limI least = least := by unfold limI; omega
  have hRp : ∀ w, w < c.n → 0 < (RF c.n c.lo c.hi c.ss w).u := fun w hw => (reg_mid (by omega) hw hL hH).1.2.1
  refine ⟨?_, fl_le hlp hlow, le_ce hup hupp, ?_, ?_, fun hp => ?_, fun hs => ?_, fun hm' => ?_⟩
  · unfold knownL; rw [List.getElem?_map, List.getElem?_range hw]; rfl
  · rw [← htop]; exact hT.regret (by omega) hL hH hw ho
  · have hb := bestI_le (RF c.n c.lo c.hi c.ss) (c.n - 1)
    exact ce_mono (hRp _ (by omega)) (hRp w hw) (best_least hRp (c.n - 1) (by omega) w (by omega))
  · refine wkL_mem.2 ⟨hw, ?_⟩
    unfold fromB
    have ht := foreF_mem (bf := aboveB) (LF c.n c.lo c.hi c.ss 0) ((List.range (c.n - 1)).map fun j => LF c.n c.lo c.hi c.ss (j + 1))
    obtain ⟨t, htm, hte⟩ : ∃ t, t < c.n ∧ topF c.n (LF c.n c.lo c.hi c.ss) = LF c.n c.lo c.hi c.ss t := by
      rcases ht with e | e
      · exact ⟨0, by omega, e⟩
      · obtain ⟨j, hj, e⟩ := List.mem_map.1 e
        exact ⟨j + 1, by have : j < c.n - 1 := by simpa using hj
                         omega, e.symm⟩
    rw [hte]
    have h2 : aboveB (LF c.n c.lo c.hi c.ss t) (UF c.n c.lo c.hi c.ss w) = false := by
      rw [above_not, (hT.u t htm).1, Int.mul_one]
      have h3 := hT.lo t htm
      have h4 := hall t htm
      have h5 : (LF c.n c.lo c.hi c.ss t).o ≤ c.sweet w := by omega
      have h6 := Int.mul_le_mul_of_nonneg_right h5 (Int.le_of_lt hup)
      unfold LeF at hupp
      simp only [Int.mul_one] at hupp
      exact Int.le_trans h6 hupp
    rw [h2]; rfl
  · have h2 := (wkL_mem.1 hs).2
    unfold fromB at h2
    rw [hlim] at h2
    have h3 : aboveB ⟨least, 1⟩ (WF c.n c.lo c.hi c.ss w) = false := by simpa using h2
    rw [above_not] at h3
    simp only [Int.mul_one] at h3
    unfold LeF at hlow
    simp only [Int.mul_one] at hlow
    exact Int.le_of_mul_le_mul_right (Int.le_trans h3 hlow) hlp
  · refine wkL_mem.2 ⟨hw, ?_⟩
    unfold fromB
    rw [hlim]
    have h2 : aboveB ⟨least, 1⟩ (UF c.n c.lo c.hi c.ss w) = false := by
      rw [above_not]
      simp only [Int.mul_one]
      have h6 := Int.mul_le_mul_of_nonneg_right hm' (Int.le_of_lt hup)
      unfold LeF at hupp
      simp only [Int.mul_one] at hupp
      exact Int.le_trans h6 hupp
    rw [h2]; rfl
@[simp] theorem conv_64_3 {self : Self} {f : Fr} {s : St} {x : Operand} : actO TT self (.convert 64 3 x) f s = pureR (vConv .i64 x f.eval s.heap) s := o_convert_3 (by rw [und_64]; rfl)
end Go.Proofs.Ytnhokodcmeekhaa
namespace Go.Proofs.Ytnhokodcmeekhaa
open Go Kern
/-! Ripe weeks, and those of peaks, lie next to each other -/
/-- What it says that the greatest sweetness is at least some number. -/
structure UpGe (m : Nat) (L H : Nat → Frac) (T : Int) (w : Nat) : Prop where
  h : T ≤ (H w).o
  left : ∀ a b, a < b → b < w → T * ((b : Int) - a) ≤ (L a).o * ((b : Int) - w) + (H b).o * ((w : Int) - a)
  right : ∀ a b, w < b → b < a → a < m → T * ((a : Int) - b) ≤ (H b).o * ((a : Int) - w) + (L a).o * ((w : Int) - b)
end Go.Proofs.Ytnhokodcmeekhaa
namespace Go.Proofs.Ytnhokodcmeekhaa
open Go Kern
/-! The law of weeks -/
structure WFacts (c : CropD) (least : Int) (w : Nat) : Prop where
  kl : (knownL c.n c.lo c.hi c.ss)[w]? = some (flF (lowF c.n (bndN c.n c.lo c.hi c.ss).1 w), ceF (upF c.n (bndN c.n c.lo c.hi c.ss).1 (bndN c.n c.lo c.hi c.ss).2 w))
  sure : (w : Int) ∈ wkL c.n (fromB (WF c.n c.lo c.hi c.ss) ⟨limI least, 1⟩) ↔ least ≤ flF (lowF c.n (bndN c.n c.lo c.hi c.ss).1 w)
  may1 : (w : Int) ∈ wkL c.n (fromB (UF c.n c.lo c.hi c.ss) ⟨limI least, 1⟩) → least ≤ ceF (upF c.n (bndN c.n c.lo c.hi c.ss).1 (bndN c.n c.lo c.hi c.ss).2 w)
  may2 : least < ceF (upF c.n (bndN c.n c.lo c.hi c.ss).1 (bndN c.n c.lo c.hi c.ss).2 w) → (w : Int) ∈ wkL c.n (fromB (UF c.n c.lo c.hi c.ss) ⟨limI least, 1⟩)
  may3 : (w : Int) ∈ wkL c.n (fromB (WF c.n c.lo c.hi c.ss) ⟨limI least, 1⟩) → (w : Int) ∈ wkL c.n (fromB (UF c.n c.lo c.hi c.ss) ⟨limI least, 1⟩)
structure CropF (c : CropD) (least : Int) : Prop where
  w : ∀ w, w < c.n → WFacts c least w
  top : ∃ t0, t0 < c.n ∧ ∃ T, topF c.n (LF c.n c.lo c.hi c.ss) = ⟨T, 1⟩ ∧ (LF c.n c.lo c.hi c.ss t0).o = T
  peaks : ∀ (i : Nat) (x y : Int), (wkL c.n (fromB (UF c.n c.lo c.hi c.ss) (topF c.n (LF c.n c.lo c.hi c.ss))))[i]? = some x → (wkL c.n (fromB (UF c.n c.lo c.hi c.ss) (topF c.n (LF c.n c.lo c.hi c.ss))))[i + 1]? = some y → y = x + 1
  nonemp : wkL c.n (fromB (UF c.n c.lo c.hi c.ss) (topF c.n (LF c.n c.lo c.hi c.ss))) ≠ []
  sures : ∀ (i : Nat) (x y : Int), (wkL c.n (fromB (WF c.n c.lo c.hi c.ss) ⟨limI least, 1⟩))[i]? = some x → (wkL c.n (fromB (WF c.n c.lo c.hi c.ss) ⟨limI least, 1⟩))[i + 1]? = some y → y = x + 1
end Go.Proofs.Ytnhokodcmeekhaa
namespace Go.Proofs.Ytnhokodcmeekhaa
open Go Kern
/-! What is known of less is within what is known of more: monotony in lows and highs -/
def q (x : Frac) : Rat := (x.o : Rat) / (x.u : Rat)
theorem ratpos {n : Int} (h : 0 < n) : (0 : Rat) < (n : Rat) := by
  have := Rat.intCast_lt_intCast.2 h
  exact this
theorem q_le {x y : Frac} (hx : 0 < x.u) (hy : 0 < y.u) : LeF x y ↔ q x ≤ q y := by
  have h1 := ratpos hx
  have h2 := ratpos hy
  unfold LeF q
  rw [← Rat.not_lt, Rat.lt_div_iff h1, ← Int.not_lt]
  have e : (y.o : Rat) / (y.u : Rat) * (x.u : Rat) = ((y.o : Rat) * x.u) / y.u := by grind
  rw [e, Rat.div_lt_iff h2, ← Rat.intCast_mul, ← Rat.intCast_mul, Rat.intCast_lt_intCast]
theorem q_minus {x y : Frac} (hx : 0 < x.u) (hy : 0 < y.u) : q (minusF x y) = q x - q y := by
  have h1 := ratpos hx
  have h2 := ratpos hy
  unfold q minusF
  simp only [Rat.intCast_sub, Rat.intCast_mul]
  grind
def cA (a b w : Int) : Rat := ((b : Rat) - w) / ((b : Rat) - a)
def cB (a b w : Int) : Rat := ((w : Rat) - a) / ((b : Rat) - a)
theorem ratne {a b : Int} (h : a ≠ b) : (b : Rat) - a ≠ 0 := by
  intro e
  have : (b : Rat) = a := by grind
  exact h (Rat.intCast_inj.1 this).symm
theorem c_one {a b w : Int} (h : a ≠ b) : cA a b w + cB a b w = 1 := by
  have := ratne h
  unfold cA cB
  grind
theorem q_line {a b w : Int} {x y : Frac} (hx : 0 < x.u) (hy : 0 < y.u) (h : a ≠ b) : q (lineF a x b y w) = q x * cA a b w + q y * cB a b w := by
  have h1 := ratpos hx
  have h2 := ratpos hy
  have h3 := ratne h
  have h4 := ratne (Ne.symm h)
  unfold lineF lineO
  split
  · unfold q cA cB
    simp only [Rat.intCast_sub, Rat.intCast_mul, Rat.intCast_add]
    grind
  · unfold q cA cB
    simp only [Rat.intCast_sub, Rat.intCast_mul, Rat.intCast_add]
    grind
theorem frac_nn {n d : Rat} (h : 0 ≤ n) (hd : 0 < d) : 0 ≤ n / d := by
  rw [← Rat.not_lt, Rat.div_lt_iff hd]
  grind
theorem ratlt {a b : Int} (h : a < b) : (0 : Rat) < (b : Rat) - a := by
  have := Rat.intCast_lt_intCast.2 h
  grind
theorem c_mid {a b w : Int} (h1 : a < w) (h2 : w < b) : 0 ≤ cA a b w ∧ 0 ≤ cB a b w := by
  have d := ratlt (show a < b by omega)
  have d1 := ratlt h1
  have d2 := ratlt h2
  exact ⟨frac_nn (by grind) d, frac_nn (by grind) d⟩
theorem c_out {a b w : Int} (h : (a < b ∧ b < w) ∨ (w < b ∧ b < a)) : 0 ≤ -cA a b w ∧ 0 ≤ cB a b w := by
  rcases h with ⟨h1, h2⟩ | ⟨h1, h2⟩
  · have d := ratlt h1
    have d1 := ratlt h2
    have e : -cA a b w = ((w : Rat) - b) / ((b : Rat) - a) := by unfold cA; grind
    rw [e]
    exact ⟨frac_nn (by grind) d, frac_nn (by grind) d⟩
  · have d := ratlt h1
    have d1 := ratlt h2
    have e : -cA a b w = ((b : Rat) - w) / ((a : Rat) - b) := by unfold cA; grind
    have e2 : cB a b w = ((a : Rat) - w) / ((a : Rat) - b) := by unfold cB; grind
    rw [e, e2]
    exact ⟨frac_nn (by grind) d1, frac_nn (by grind) d1⟩
theorem low_lip {m w : Nat} {L L' : Nat → Frac} {D : Rat} (hL : ∀ i, i < m → 0 < (L i).u) (hL' : ∀ i, i < m → 0 < (L' i).u) (h : ∀ i, i < m → q (L i) ≤ q (L' i) + D) (hw : w < m) : q (lowF m L w) ≤ q (lowF m L' w) + D := by
  have hlp : ∀ x ∈ (acrossL m w).map (fun p => lineF p.1 (L' p.1) p.2 (L' p.2) w), 0 < x.u := fun x hx => by
    obtain ⟨⟨i, k⟩, hp, rfl⟩ := List.mem_map.1 hx
    obtain ⟨h1, h2, h3⟩ := across_mem.1 hp
    exact line_pos (hL' i (by omega)) (hL' k h3) (by omega)
  obtain ⟨m1, m2, m3⟩ := fore_max _ _ (hL' w hw) hlp
  change 0 < (lowF m L' w).u at m1
  have m2' : q (L' w) ≤ q (lowF m L' w) := (q_le (hL' w hw) m1).1 m2
  have hw0 := h w hw
  rcases foreF_mem (bf := aboveB) (L w) ((acrossL m w).map fun p => lineF p.1 (L p.1) p.2 (L p.2) w) with e | e
  · have e' : lowF m L w = L w := e
    rw [e']; grind
  · obtain ⟨⟨i, k⟩, hp, e2⟩ := List.mem_map.1 e
    have e' : lowF m L w = lineF i (L i) k (L k) w := e2.symm
    obtain ⟨h1, h2, h3⟩ := across_mem.1 hp
    simp only [] at h1 h2 h3
    have hne : (i : Int) ≠ k := by omega
    have hx := m3 _ (List.mem_map_of_mem hp)
    simp only [] at hx
    have hx' := (q_le (line_pos (hL' i (by omega)) (hL' k h3) hne) m1).1 hx
    change q (lineF i (L' i) k (L' k) w) ≤ q (lowF m L' w) at hx'
    rw [e', q_line (hL i (by omega)) (hL k h3) hne]
    rw [q_line (hL' i (by omega)) (hL' k h3) hne] at hx'
    obtain ⟨c1, c2⟩ := c_mid (a := i) (b := k) (w := w) (by omega) (by omega)
    have c3 := c_one (w := w) hne
    have a1 := Rat.mul_le_mul_of_nonneg_right (h i (by omega)) c1
    have a2 := Rat.mul_le_mul_of_nonneg_right (h k h3) c2
    have a3 : D * cA i k w + D * cB i k w = D := by rw [← Rat.mul_add, c3, Rat.mul_one]
    grind
structure Nar (m : Nat) (L H L' H' : Nat → Frac) : Prop where
  pL : ∀ i, i < m → 0 < (L i).u
  pH : ∀ i, i < m → 0 < (H i).u
  pL' : ∀ i, i < m → 0 < (L' i).u
  pH' : ∀ i, i < m → 0 < (H' i).u
  lo : ∀ i, i < m → LeF (L i) (L' i)
  hi : ∀ i, i < m → LeF (H' i) (H i)
theorem Nar.up {m w : Nat} {L H L' H' : Nat → Frac} (h : Nar m L H L' H') (hw : w < m) : LeF (upF m L' H' w) (upF m L H w) := by
  obtain ⟨m1, m2, m3⟩ := fore_min _ _ (h.pH' w hw) (up_lines_pos h.pL' h.pH' hw)
  change 0 < (upF m L' H' w).u at m1
  have hup := up_pos h.pL h.pH hw
  rcases foreF_mem (bf := belowB) (H w) ((towardL m w).map fun p => lineF p.1 (L p.1) p.2 (H p.2) w) with e | e
  · have e' : upF m L H w = H w := e
    rw [e']
    exact LeF.trans m1 (h.pH' w hw) (h.pH w hw) m2 (h.hi w hw)
  · obtain ⟨⟨a, b⟩, hp, e2⟩ := List.mem_map.1 e
    have e' : upF m L H w = lineF a (L a) b (H b) w := e2.symm
    obtain ⟨h1, h2⟩ := toward_mem.1 hp
    simp only [] at h1 h2
    have hb : b < m := by omega
    have hne : (a : Int) ≠ b := by omega
    have hx := m3 _ (List.mem_map_of_mem hp)
    simp only [] at hx
    have hx' := (q_le m1 (line_pos (h.pL' a h1) (h.pH' b hb) hne)).1 hx
    change q (upF m L' H' w) ≤ q (lineF a (L' a) b (H' b) w) at hx'
    rw [e', q_le m1 (line_pos (h.pL a h1) (h.pH b hb) hne), q_line (h.pL a h1) (h.pH b hb) hne]
    rw [q_line (h.pL' a h1) (h.pH' b hb) hne] at hx'
    obtain ⟨c1, c2⟩ := c_out (a := a) (b := b) (w := w) (by omega)
    have a1 := Rat.mul_le_mul_of_nonneg_right ((q_le (h.pL a h1) (h.pL' a h1)).1 (h.lo a h1)) c1
    have a2 := Rat.mul_le_mul_of_nonneg_right ((q_le (h.pH' b hb) (h.pH b hb)).1 (h.hi b hb)) c2
    grind
theorem Nar.loss {m w o : Nat} {L H L' H' : Nat → Frac} (h : Nar m L H L' H') (hw : w < m) (ho : o < m) : LeF (lossF m L' H' w o) (lossF m L H w o) := by
  have hU := up_pos h.pL h.pH ho
  have hU' := up_pos h.pL' h.pH' ho
  have hR : ∀ i, i < m → 0 < (raisedL m L H o i).u := fun i hi => by unfold raisedL updF; split; (· exact hU); exact h.pL i hi
  have hR' : ∀ i, i < m → 0 < (raisedL m L' H' o i).u := fun i hi => by unfold raisedL updF; split; (· exact hU'); exact h.pL' i hi
  have hq := (q_le hU' hU).1 (h.up ho)
  have hl := low_lip (D := q (upF m L H o) - q (upF m L' H' o)) hR hR' (fun i hi => by
    unfold raisedL updF
    split
    · grind
    · have := (q_le (h.pL i hi) (h.pL' i hi)).1 (h.lo i hi)
      grind) hw
  have p1 := low_pos hR hw
  have p2 := low_pos hR' hw
  unfold lossF
  rw [q_le (Int.mul_pos hU' p2) (Int.mul_pos hU p1), q_minus hU' p2, q_minus hU p1]
  grind
theorem Nar.loss_pos {m w o : Nat} {L H : Nat → Frac} (hL : ∀ i, i < m → 0 < (L i).u) (hH : ∀ i, i < m → 0 < (H i).u) (hw : w < m) (ho : o < m) : 0 < (lossF m L H w o).u := by
  have hU := up_pos hL hH ho
  have hR : ∀ i, i < m → 0 < (raisedL m L H o i).u := fun i hi => by unfold raisedL updF; split; (· exact hU); exact hL i hi
  exact Int.mul_pos hU (low_pos hR hw)
theorem Nar.reg {m w : Nat} {L H L' H' : Nat → Frac} (h : Nar m L H L' H') (hw : w < m) : (0 < (regF m L' H' w).u ∧ 0 < (regF m L H w).u) ∧ LeF (regF m L' H' w) (regF m L H w) := by
  have hp : ∀ x ∈ (List.range m).map (lossF m L H w), 0 < x.u := fun x hx => by
    obtain ⟨o, ho, rfl⟩ := List.mem_map.1 hx
    exact Nar.loss_pos h.pL h.pH hw (by simpa using ho)
  have hp' : ∀ x ∈ (List.range m).map (lossF m L' H' w), 0 < x.u := fun x hx => by
    obtain ⟨o, ho, rfl⟩ := List.mem_map.1 hx
    exact Nar.loss_pos h.pL' h.pH' hw (by simpa using ho)
  obtain ⟨m1, m2, m3⟩ := fore_max _ ⟨0, 1⟩ (show (0 : Int) < 1 by decide) hp
  obtain ⟨n1, _, _⟩ := fore_max _ ⟨0, 1⟩ (show (0 : Int) < 1 by decide) hp'
  refine ⟨⟨n1, m1⟩, fore_le m2 fun x hx => ?_⟩
  obtain ⟨o, ho, rfl⟩ := List.mem_map.1 hx
  have ho' : o < m := by simpa using ho
  exact LeF.trans (Nar.loss_pos h.pL' h.pH' hw ho') (Nar.loss_pos h.pL h.pH hw ho') m1 (h.loss hw ho') (m3 _ (List.mem_map_of_mem ho))
theorem Nar.top {m : Nat} {L H L' H' : Nat → Frac} (h : Nar m L H L' H') (hm : 0 < m) : (0 < (topF m L).u ∧ 0 < (topF m L').u) ∧ LeF (topF m L) (topF m L') := by
  have hp : ∀ x ∈ (List.range (m - 1)).map (fun j => L' (j + 1)), 0 < x.u := fun x hx => by
    obtain ⟨o, ho, rfl⟩ := List.mem_map.1 hx
    have h0 : o < m - 1 := by simpa using ho
    exact h.pL' _ (by omega)
  have hp0 : ∀ x ∈ (List.range (m - 1)).map (fun j => L (j + 1)), 0 < x.u := fun x hx => by
    obtain ⟨o, ho, rfl⟩ := List.mem_map.1 hx
    have h0 : o < m - 1 := by simpa using ho
    exact h.pL _ (by omega)
  obtain ⟨m1, m2, m3⟩ := fore_max _ (L' 0) (h.pL' 0 hm) hp
  obtain ⟨n1, _, _⟩ := fore_max _ (L 0) (h.pL 0 hm) hp0
  refine ⟨⟨n1, m1⟩, fore_le (LeF.trans (h.pL 0 hm) (h.pL' 0 hm) m1 (h.lo 0 hm) m2) fun x hx => ?_⟩
  obtain ⟨o, ho, rfl⟩ := List.mem_map.1 hx
  have ho' : o < m - 1 := by simpa using ho
  exact LeF.trans (h.pL _ (by omega)) (h.pL' _ (by omega)) m1 (h.lo _ (by omega)) (m3 _ (List.mem_map_of_mem ho))
theorem fl_mono {x y : Frac} (hx : 0 < x.u) (hy : 0 < y.u) (h : LeF x y) : flF x ≤ flF y := by
  unfold flF
  rw [Int.le_ediv_iff_mul_le hy]
  have h1 : x.o / x.u * x.u ≤ x.o := Int.ediv_mul_le _ (by omega)
  unfold LeF at h
  have h2 : x.o / x.u * x.u * y.u ≤ x.o * y.u := Int.mul_le_mul_of_nonneg_right h1 (by omega)
  have h3 : x.o / x.u * y.u * x.u ≤ y.o * x.u := by
    have : x.o / x.u * y.u * x.u = x.o / x.u * x.u * y.u := by ac_rfl
    omega
  exact Int.le_of_mul_le_mul_right h3 hx
end Go.Proofs.Ytnhokodcmeekhaa
namespace Go.Proofs.Ytnhokodcmeekhaa
open Go Kern
/-! The law of weeks -/
theorem wkL_elem {m : Nat} {p : Nat → Bool} {x : Int} (h : x ∈ wkL m p) : 0 ≤ x ∧ x < m := by
  unfold wkL at h
  obtain ⟨j, hj, rfl⟩ := List.mem_map.1 h
  have := (List.mem_filter.1 hj).1
  have : j < m := by simpa using this
  omega
end Go.Proofs.Ytnhokodcmeekhaa
namespace Go.Proofs.Ytnhokodcmeekhaa
open Go Kern
/-! A crop with one more sample that is right, and lesser errors -/
def tight (c : CropD) (less : Int) (s : SampD) : SampD := ⟨s.week, s.val, max (max (s.val - c.sweet s.week.toNat) (c.sweet s.week.toNat - s.val)) (s.off - less)⟩
def bss (c : CropD) (less : Int) (x : Int × Int × Int) : List SampD := c.ss.map (tight c less) ++ [c.samp x]
structure Better (c : CropD) (tt : List SampD) : Prop where
  ok : fieldErr c.n c.lo c.hi tt = 0
  nc : ¬ HasClash c.n c.lo c.hi tt
  lo : ∀ w, w < c.n → flF (lowF c.n (bndN c.n c.lo c.hi c.ss).1 w) ≤ flF (lowF c.n (bndN c.n c.lo c.hi tt).1 w)
  hi : ∀ w, w < c.n → ceF (upF c.n (bndN c.n c.lo c.hi tt).1 (bndN c.n c.lo c.hi tt).2 w) ≤ ceF (upF c.n (bndN c.n c.lo c.hi c.ss).1 (bndN c.n c.lo c.hi c.ss).2 w)
  reg : ∀ w, w < c.n → ceF (RF c.n c.lo c.hi tt w) ≤ ceF (RF c.n c.lo c.hi c.ss w)
  pk : ∀ x ∈ wkL c.n (fromB (UF c.n c.lo c.hi tt) (topF c.n (LF c.n c.lo c.hi tt))), x ∈ wkL c.n (fromB (UF c.n c.lo c.hi c.ss) (topF c.n (LF c.n c.lo c.hi c.ss)))
end Go.Proofs.Ytnhokodcmeekhaa
namespace Go.Proofs.Ytnhokodcmeekhaa
open Go Kern
/-! Weeks in the opposite order, and numbers multiplied and raised -/
theorem low_char {m w : Nat} {L : Nat → Frac} {Z : Rat} (hL : ∀ i, i < m → 0 < (L i).u) (hw : w < m) : q (lowF m L w) ≤ Z ↔ q (L w) ≤ Z ∧ ∀ i k, i < w → w < k → k < m → q (L i) * cA i k w + q (L k) * cB i k w ≤ Z := by
  have hlp : ∀ x ∈ (acrossL m w).map (fun p => lineF p.1 (L p.1) p.2 (L p.2) w), 0 < x.u := fun x hx => by
    obtain ⟨⟨i, k⟩, hp, rfl⟩ := List.mem_map.1 hx
    obtain ⟨h1, h2, h3⟩ := across_mem.1 hp
    exact line_pos (hL i (by omega)) (hL k h3) (by omega)
  obtain ⟨m1, m2, m3⟩ := fore_max _ _ (hL w hw) hlp
  change 0 < (lowF m L w).u at m1
  have m2' : q (L w) ≤ q (lowF m L w) := (q_le (hL w hw) m1).1 m2
  have m3' : ∀ i k, i < w → w < k → k < m → q (L i) * cA i k w + q (L k) * cB i k w ≤ q (lowF m L w) := fun i k h1 h2 h3 => by
    have hne : (i : Int) ≠ k := by omega
    have hx := m3 (lineF i (L i) k (L k) w) (List.mem_map.2 ⟨(i, k), across_mem.2 ⟨h1, h2, h3⟩, rfl⟩)
    have hx' := (q_le (line_pos (hL i (by omega)) (hL k h3) hne) m1).1 hx
    change q (lineF i (L i) k (L k) w) ≤ q (lowF m L w) at hx'
    rwa [q_line (hL i (by omega)) (hL k h3) hne] at hx'
  constructor
  · intro h
    exact ⟨Rat.le_trans m2' h, fun i k h1 h2 h3 => Rat.le_trans (m3' i k h1 h2 h3) h⟩
  · rintro ⟨h1, h2⟩
    rcases foreF_mem (bf := aboveB) (L w) ((acrossL m w).map fun p => lineF p.1 (L p.1) p.2 (L p.2) w) with e | e
    · have e' : lowF m L w = L w := e
      rw [e']; exact h1
    · obtain ⟨⟨i, k⟩, hp, e2⟩ := List.mem_map.1 e
      have e' : lowF m L w = lineF i (L i) k (L k) w := e2.symm
      obtain ⟨g1, g2, g3⟩ := across_mem.1 hp
      simp only [] at g1 g2 g3
      rw [e', q_line (hL i (by omega)) (hL k g3) (by omega)]
      exact h2 i k g1 g2 g3
theorem up_char {m w : Nat} {L H : Nat → Frac} {Z : Rat} (hL : ∀ i, i < m → 0 < (L i).u) (hH : ∀ i, i < m → 0 < (H i).u) (hw : w < m) : Z ≤ q (upF m L H w) ↔ Z ≤ q (H w) ∧ ∀ a b, a < m → ((a < b ∧ b < w) ∨ (w < b ∧ b < a)) → Z ≤ q (L a) * cA a b w + q (H b) * cB a b w := by
  obtain ⟨m1, m2, m3⟩ := fore_min _ _ (hH w hw) (up_lines_pos hL hH hw)
  change 0 < (upF m L H w).u at m1
  have m2' : q (upF m L H w) ≤ q (H w) := (q_le m1 (hH w hw)).1 m2
  have m3' : ∀ a b, a < m → ((a < b ∧ b < w) ∨ (w < b ∧ b < a)) → q (upF m L H w) ≤ q (L a) * cA a b w + q (H b) * cB a b w := fun a b h1 h2 => by
    have hne : (a : Int) ≠ b := by omega
    have hb : b < m := by omega
    have hx := m3 (lineF a (L a) b (H b) w) (List.mem_map.2 ⟨(a, b), toward_mem.2 ⟨h1, h2⟩, rfl⟩)
    have hx' := (q_le m1 (line_pos (hL a h1) (hH b hb) hne)).1 hx
    change q (upF m L H w) ≤ q (lineF a (L a) b (H b) w) at hx'
    rwa [q_line (hL a h1) (hH b hb) hne] at hx'
  constructor
  · intro h
    exact ⟨Rat.le_trans h m2', fun a b h1 h2 => Rat.le_trans h (m3' a b h1 h2)⟩
  · rintro ⟨h1, h2⟩
    rcases foreF_mem (bf := belowB) (H w) ((towardL m w).map fun p => lineF p.1 (L p.1) p.2 (H p.2) w) with e | e
    · have e' : upF m L H w = H w := e
      rw [e']; exact h1
    · obtain ⟨⟨a, b⟩, hp, e2⟩ := List.mem_map.1 e
      have e' : upF m L H w = lineF a (L a) b (H b) w := e2.symm
      obtain ⟨g1, g2⟩ := toward_mem.1 hp
      simp only [] at g1 g2
      rw [e', q_line (hL a g1) (hH b (by omega)) (by omega)]
      exact h2 a b g1 g2
theorem c_rev {a b w m : Nat} (hab : a ≠ b) (ha : a < m) (hb : b < m) (hw : w < m) : cA ((m - 1 - b : Nat) : Int) ((m - 1 - a : Nat) : Int) ((m - 1 - w : Nat) : Int) = cB a b w ∧ cB ((m - 1 - b : Nat) : Int) ((m - 1 - a : Nat) : Int) ((m - 1 - w : Nat) : Int) = cA a b w := by
  have e : ∀ x, x < m → ((m - 1 - x : Nat) : Int) = (m : Int) - 1 - x := fun x hx => by omega
  rw [e a ha, e b hb, e w hw]
  have h3 := ratne (a := (a : Int)) (b := (b : Int)) (by omega)
  unfold cA cB
  simp only [Rat.intCast_sub]
  constructor <;> grind
theorem negdiv {x y : Rat} (h : y ≠ 0) : (-x) / (-y) = x / y := by grind
theorem c_rev2 {a b w m : Nat} (hab : a ≠ b) (ha : a < m) (hb : b < m) (hw : w < m) : cA ((m - 1 - a : Nat) : Int) ((m - 1 - b : Nat) : Int) ((m - 1 - w : Nat) : Int) = cA a b w ∧ cB ((m - 1 - a : Nat) : Int) ((m - 1 - b : Nat) : Int) ((m - 1 - w : Nat) : Int) = cB a b w := by
  have e : ∀ x, x < m → ((m - 1 - x : Nat) : Int) = (m : Int) - 1 - x := fun x hx => by omega
  rw [e a ha, e b hb, e w hw]
  have h3 := ratne (a := (a : Int)) (b := (b : Int)) (by omega)
  unfold cA cB
  simp only [Rat.intCast_sub]
  rw [← negdiv h3, ← negdiv (x := ((w : Int) : Rat) - ((a : Int) : Rat)) h3]
  constructor
  · congr 1 <;> grind
  · congr 1 <;> grind
/-- One plan is the other in the opposite order. -/
structure Rev (m : Nat) (L L' : Nat → Frac) : Prop where
  p : ∀ i, i < m → 0 < (L i).u
  p' : ∀ i, i < m → 0 < (L' i).u
  e : ∀ i, i < m → q (L' i) = q (L (m - 1 - i))
theorem Rev.symm {m : Nat} {L L' : Nat → Frac} (h : Rev m L L') : Rev m L' L := ⟨h.p', h.p, fun i hi => by
  rw [h.e (m - 1 - i) (by omega), show m - 1 - (m - 1 - i) = i by omega]⟩
theorem Rev.low_le {m w : Nat} {L L' : Nat → Frac} (h : Rev m L L') (hw : w < m) : q (lowF m L' w) ≤ q (lowF m L (m - 1 - w)) := by
  obtain ⟨k1, k2⟩ := (low_char h.p (show m - 1 - w < m by omega)).1 Rat.le_refl
  refine (low_char h.p' hw).2 ⟨by rw [h.e w hw]; exact k1, fun i k h1 h2 h3 => ?_⟩
  have g := k2 (m - 1 - k) (m - 1 - i) (by omega) (by omega) (by omega)
  obtain ⟨c1, c2⟩ := c_rev (a := i) (b := k) (w := w) (m := m) (by omega) (by omega) h3 hw
  rw [c1, c2] at g
  rw [h.e i (by omega), h.e k h3]
  grind
theorem Rev.low {m w : Nat} {L L' : Nat → Frac} (h : Rev m L L') (hw : w < m) : q (lowF m L' w) = q (lowF m L (m - 1 - w)) := by
  refine Rat.le_antisymm (h.low_le hw) ?_
  have := h.symm.low_le (show m - 1 - w < m by omega)
  rwa [show m - 1 - (m - 1 - w) = w by omega] at this
theorem Rev.up_le {m w : Nat} {L H L' H' : Nat → Frac} (h : Rev m L L') (g : Rev m H H') (hw : w < m) : q (upF m L (H) (m - 1 - w)) ≤ q (upF m L' H' w) := by
  obtain ⟨k1, k2⟩ := (up_char h.p g.p (show m - 1 - w < m by omega)).1 Rat.le_refl
  refine (up_char h.p' g.p' hw).2 ⟨by rw [g.e w hw]; exact k1, fun a b h1 h2 => ?_⟩
  have hb : b < m := by omega
  have g1 := k2 (m - 1 - a) (m - 1 - b) (by omega) (by omega)
  obtain ⟨c1, c2⟩ := c_rev2 (a := a) (b := b) (w := w) (m := m) (by omega) h1 hb hw
  rw [c1, c2] at g1
  rw [h.e a h1, g.e b hb]
  exact g1
theorem Rev.up {m w : Nat} {L H L' H' : Nat → Frac} (h : Rev m L L') (g : Rev m H H') (hw : w < m) : q (upF m L' H' w) = q (upF m L H (m - 1 - w)) := by
  refine Rat.le_antisymm ?_ (h.up_le g hw)
  have := h.symm.up_le g.symm (show m - 1 - w < m by omega)
  rwa [show m - 1 - (m - 1 - w) = w by omega] at this
theorem Rev.raised {m o : Nat} {L H L' H' : Nat → Frac} (h : Rev m L L') (g : Rev m H H') (ho : o < m) : Rev m (raisedL m L H (m - 1 - o)) (raisedL m L' H' o) := by
  refine ⟨fun i hi => ?_, fun i hi => ?_, fun i hi => ?_⟩
  · unfold raisedL updF; split
    · exact up_pos h.p g.p (by omega)
    · exact h.p i hi
  · unfold raisedL updF; split
    · exact up_pos h.p' g.p' ho
    · exact h.p' i hi
  · unfold raisedL updF
    by_cases e : i = o
    · rw [if_pos e, if_pos (by omega)]; exact h.up g ho
    · rw [if_neg e, if_neg (by omega)]; exact h.e i hi
theorem q_loss {m w o : Nat} {L H : Nat → Frac} (hL : ∀ i, i < m → 0 < (L i).u) (hH : ∀ i, i < m → 0 < (H i).u) (hw : w < m) (ho : o < m) : q (lossF m L H w o) = q (upF m L H o) - q (lowF m (raisedL m L H o) w) := by
  have hU := up_pos hL hH ho
  have hR : ∀ i, i < m → 0 < (raisedL m L H o i).u := fun i hi => by unfold raisedL updF; split; (· exact hU); exact hL i hi
  exact q_minus hU (low_pos hR hw)
theorem Rev.loss {m w o : Nat} {L H L' H' : Nat → Frac} (h : Rev m L L') (g : Rev m H H') (hw : w < m) (ho : o < m) : q (lossF m L' H' w o) = q (lossF m L H (m - 1 - w) (m - 1 - o)) := by
  rw [q_loss h.p' g.p' hw ho, q_loss h.p g.p (by omega) (by omega), h.up g ho, (h.raised g ho).low hw]
theorem reg_char {m w : Nat} {L H : Nat → Frac} {Z : Rat} (hL : ∀ i, i < m → 0 < (L i).u) (hH : ∀ i, i < m → 0 < (H i).u) (hw : w < m) : q (regF m L H w) ≤ Z ↔ 0 ≤ Z ∧ ∀ o, o < m → q (lossF m L H w o) ≤ Z := by
  have hp : ∀ x ∈ (List.range m).map (lossF m L H w), 0 < x.u := fun x hx => by
    obtain ⟨o, ho, rfl⟩ := List.mem_map.1 hx
    exact Nar.loss_pos hL hH hw (by simpa using ho)
  obtain ⟨m1, m2, m3⟩ := fore_max _ ⟨0, 1⟩ (show (0 : Int) < 1 by decide) hp
  have q0 : q ⟨0, 1⟩ = 0 := by unfold q; simp; grind
  have m2' : 0 ≤ q (regF m L H w) := by
    have := (q_le (x := ⟨0, 1⟩) (show (0 : Int) < 1 by decide) m1).1 m2
    rwa [q0] at this
  constructor
  · intro h
    refine ⟨Rat.le_trans m2' h, fun o ho => Rat.le_trans ?_ h⟩
    exact (q_le (Nar.loss_pos hL hH hw ho) m1).1 (m3 _ (List.mem_map_of_mem (by simpa using ho)))
  · rintro ⟨h1, h2⟩
    rcases foreF_mem (bf := aboveB) ⟨0, 1⟩ ((List.range m).map (lossF m L H w)) with e | e
    · have e' : regF m L H w = ⟨0, 1⟩ := e
      rw [e', q0]; exact h1
    · obtain ⟨o, ho, e2⟩ := List.mem_map.1 e
      have e' : regF m L H w = lossF m L H w o := e2.symm
      rw [e']; exact h2 o (by simpa using ho)
theorem Rev.reg_le {m w : Nat} {L H L' H' : Nat → Frac} (h : Rev m L L') (g : Rev m H H') (hw : w < m) : q (regF m L' H' w) ≤ q (regF m L H (m - 1 - w)) := by
  obtain ⟨k1, k2⟩ := (reg_char h.p g.p (show m - 1 - w < m by omega)).1 Rat.le_refl
  refine (reg_char h.p' g.p' hw).2 ⟨k1, fun o ho => ?_⟩
  rw [h.loss g hw ho]
  exact k2 _ (by omega)
theorem Rev.reg {m w : Nat} {L H L' H' : Nat → Frac} (h : Rev m L L') (g : Rev m H H') (hw : w < m) : q (regF m L' H' w) = q (regF m L H (m - 1 - w)) := by
  refine Rat.le_antisymm (h.reg_le g hw) ?_
  have := h.symm.reg_le g.symm (show m - 1 - w < m by omega)
  rwa [show m - 1 - (m - 1 - w) = w by omega] at this
end Go.Proofs.Ytnhokodcmeekhaa
namespace Go.Proofs.Ytnhokodcmeekhaa
open Go Kern
/-! Numbers multiplied and raised -/
/-- One plan is the other, multiplied and raised. -/
structure Aff (m : Nat) (t d : Rat) (L L' : Nat → Frac) : Prop where
  tp : 0 < t
  p : ∀ i, i < m → 0 < (L i).u
  p' : ∀ i, i < m → 0 < (L' i).u
  e : ∀ i, i < m → q (L' i) = t * q (L i) + d
theorem mul_inv_one {t : Rat} (h : 0 < t) : t * (1 / t) = 1 := by grind
theorem inv_pos' {t : Rat} (h : 0 < t) : 0 < 1 / t := by
  rw [Rat.lt_div_iff h]; grind
theorem Aff.symm {m : Nat} {t d : Rat} {L L' : Nat → Frac} (h : Aff m t d L L') : Aff m (1 / t) (-(1 / t * d)) L' L := by
  have h1 := mul_inv_one h.tp
  refine ⟨inv_pos' h.tp, h.p', h.p, fun i hi => ?_⟩
  rw [h.e i hi]
  generalize 1 / t = r at *
  grind
theorem back_aff {t r X d : Rat} (h : t * r = 1) : t * (r * X + -(r * d)) = X - d := by grind
theorem back_mul {t r X : Rat} (h : t * r = 1) : t * (r * X) = X := by grind
theorem back_mul' {t r X : Rat} (h : t * r = 1) : r * (t * X) = X := by grind
theorem aff_le {t x z : Rat} (ht : 0 < t) (h : x ≤ z) : t * x ≤ t * z := by
  have := Rat.mul_le_mul_of_nonneg_right h (Rat.le_of_lt ht)
  grind
theorem Aff.low_le {m w : Nat} {t d : Rat} {L L' : Nat → Frac} (h : Aff m t d L L') (hw : w < m) : q (lowF m L' w) ≤ t * q (lowF m L w) + d := by
  obtain ⟨k1, k2⟩ := (low_char h.p hw).1 Rat.le_refl
  refine (low_char h.p' hw).2 ⟨?_, fun i k h1 h2 h3 => ?_⟩
  · rw [h.e w hw]
    have := aff_le h.tp k1
    grind
  · have g := aff_le h.tp (k2 i k h1 h2 h3)
    have c := c_one (a := i) (b := k) (w := w) (by omega)
    rw [h.e i (by omega), h.e k h3]
    generalize cA i k w = A at *
    have : cB i k w = 1 - A := by grind
    rw [this] at g ⊢
    grind
theorem Aff.low {m w : Nat} {t d : Rat} {L L' : Nat → Frac} (h : Aff m t d L L') (hw : w < m) : q (lowF m L' w) = t * q (lowF m L w) + d := by
  refine Rat.le_antisymm (h.low_le hw) ?_
  have g := aff_le h.tp (h.symm.low_le hw)
  rw [back_aff (mul_inv_one h.tp)] at g
  grind
theorem Aff.up_le {m w : Nat} {t d d' : Rat} {L H L' H' : Nat → Frac} (h : Aff m t d L L') (g : Aff m t d H H') (hw : w < m) : t * q (upF m L H w) + d ≤ q (upF m L' H' w) := by
  obtain ⟨k1, k2⟩ := (up_char h.p g.p hw).1 Rat.le_refl
  refine (up_char h.p' g.p' hw).2 ⟨?_, fun a b h1 h2 => ?_⟩
  · rw [g.e w hw]
    have := aff_le h.tp k1
    grind
  · have g1 := aff_le h.tp (k2 a b h1 h2)
    have c := c_one (a := a) (b := b) (w := w) (by omega)
    rw [h.e a h1, g.e b (by omega)]
    generalize cA a b w = A at *
    have : cB a b w = 1 - A := by grind
    rw [this] at g1 ⊢
    grind
theorem Aff.up {m w : Nat} {t d : Rat} {L H L' H' : Nat → Frac} (h : Aff m t d L L') (g : Aff m t d H H') (hw : w < m) : q (upF m L' H' w) = t * q (upF m L H w) + d := by
  refine Rat.le_antisymm ?_ (h.up_le (d' := d) g hw)
  have g1 := aff_le h.tp (h.symm.up_le (d' := d) g.symm hw)
  rw [back_aff (mul_inv_one h.tp)] at g1
  grind
theorem Aff.raised {m o : Nat} {t d : Rat} {L H L' H' : Nat → Frac} (h : Aff m t d L L') (g : Aff m t d H H') (ho : o < m) : Aff m t d (raisedL m L H o) (raisedL m L' H' o) := by
  refine ⟨h.tp, fun i hi => ?_, fun i hi => ?_, fun i hi => ?_⟩
  · unfold raisedL updF; split
    · exact up_pos h.p g.p ho
    · exact h.p i hi
  · unfold raisedL updF; split
    · exact up_pos h.p' g.p' ho
    · exact h.p' i hi
  · unfold raisedL updF
    split
    · exact h.up g ho
    · exact h.e i hi
theorem Aff.loss {m w o : Nat} {t d : Rat} {L H L' H' : Nat → Frac} (h : Aff m t d L L') (g : Aff m t d H H') (hw : w < m) (ho : o < m) : q (lossF m L' H' w o) = t * q (lossF m L H w o) := by
  rw [q_loss h.p' g.p' hw ho, q_loss h.p g.p hw ho, h.up g ho, (h.raised g ho).low hw]
  grind
theorem Aff.reg_le {m w : Nat} {t d : Rat} {L H L' H' : Nat → Frac} (h : Aff m t d L L') (g : Aff m t d H H') (hw : w < m) : q (regF m L' H' w) ≤ t * q (regF m L H w) := by
  obtain ⟨k1, k2⟩ := (reg_char h.p g.p hw).1 Rat.le_refl
  refine (reg_char h.p' g.p' hw).2 ⟨?_, fun o ho => ?_⟩
  · have := aff_le h.tp k1
    grind
  · rw [h.loss g hw ho]
    exact aff_le h.tp (k2 o ho)
theorem Aff.reg {m w : Nat} {t d : Rat} {L H L' H' : Nat → Frac} (h : Aff m t d L L') (g : Aff m t d H H') (hw : w < m) : q (regF m L' H' w) = t * q (regF m L H w) := by
  refine Rat.le_antisymm (h.reg_le g hw) ?_
  have g1 := aff_le h.tp (h.symm.reg_le g.symm hw)
  rw [back_mul (mul_inv_one h.tp)] at g1
  exact g1
theorem reg_pos {m w : Nat} {L H : Nat → Frac} (hL : ∀ i, i < m → 0 < (L i).u) (hH : ∀ i, i < m → 0 < (H i).u) (hw : w < m) : 0 < (regF m L H w).u := by
  have hp : ∀ x ∈ (List.range m).map (lossF m L H w), 0 < x.u := fun x hx => by
    obtain ⟨o, ho, rfl⟩ := List.mem_map.1 hx
    exact Nar.loss_pos hL hH hw (by simpa using ho)
  exact (fore_max _ ⟨0, 1⟩ (show (0 : Int) < 1 by decide) hp).1
theorem above_q {x y : Frac} (hx : 0 < x.u) (hy : 0 < y.u) : aboveB x y = true ↔ q y < q x := by
  rw [← Rat.not_le, ← q_le hx hy, above_iff]
  unfold LeF
  omega
theorem above_aff {x y x' y' : Frac} {t : Rat} (ht : 0 < t) (hx : 0 < x.u) (hy : 0 < y.u) (hx' : 0 < x'.u) (hy' : 0 < y'.u) (e1 : q x' = t * q x) (e2 : q y' = t * q y) : aboveB x' y' = aboveB x y := by
  rw [Bool.eq_iff_iff, above_q hx' hy', above_q hx hy, e1, e2, ← Rat.not_le, ← Rat.not_le]
  refine not_congr ⟨fun h => ?_, fun h => aff_le ht h⟩
  have g := aff_le (inv_pos' ht) h
  rw [back_mul' (mul_inv_one ht), back_mul' (mul_inv_one ht)] at g
  exact g
theorem Aff.best {m : Nat} {t d : Rat} {L H L' H' : Nat → Frac} (h : Aff m t d L L') (g : Aff m t d H H') : ∀ k, k < m → bestI (regF m L' H') k = bestI (regF m L H) k
  | 0, _ => rfl
  | k + 1, hk => by
    have ih := Aff.best h g k (by omega)
    have hb := bestI_le (regF m L H) k
    unfold bestI
    rw [ih, above_aff h.tp (reg_pos h.p g.p (by omega)) (reg_pos h.p g.p hk) (reg_pos h.p' g.p' (by omega)) (reg_pos h.p' g.p' hk) (h.reg g (by omega)) (h.reg g hk)]
theorem fl_q {x : Frac} {n : Int} (hx : 0 < x.u) : n ≤ flF x ↔ (n : Rat) ≤ q x := by
  have e : (n : Rat) = q ⟨n, 1⟩ := by unfold q; simp; grind
  rw [e, ← q_le (show (0 : Int) < 1 by decide) hx]
  unfold flF LeF
  rw [Int.le_ediv_iff_mul_le hx]
  simp only [Int.mul_one]
theorem ce_q {x : Frac} {n : Int} (hx : 0 < x.u) : ceF x ≤ n ↔ q x ≤ (n : Rat) := by
  have e : (n : Rat) = q ⟨n, 1⟩ := by unfold q; simp; grind
  rw [e, ← q_le hx (show (0 : Int) < 1 by decide)]
  unfold ceF LeF
  simp only [Int.mul_one]
  rw [show -(-x.o / x.u) ≤ n ↔ -n ≤ -x.o / x.u by omega, Int.le_ediv_iff_mul_le hx, Int.neg_mul]
  omega
theorem fl_same {x y : Frac} (hx : 0 < x.u) (hy : 0 < y.u) (h : q x = q y) : flF x = flF y := by
  refine Int.le_antisymm ((fl_q hy).2 ?_) ((fl_q hx).2 ?_)
  · rw [← h]; exact (fl_q hx).1 (Int.le_refl _)
  · rw [h]; exact (fl_q hy).1 (Int.le_refl _)
theorem ce_same {x y : Frac} (hx : 0 < x.u) (hy : 0 < y.u) (h : q x = q y) : ceF x = ceF y := by
  refine Int.le_antisymm ((ce_q hx).2 ?_) ((ce_q hy).2 ?_)
  · rw [h]; exact (ce_q hy).1 (Int.le_refl _)
  · rw [← h]; exact (ce_q hx).1 (Int.le_refl _)
theorem fl_aff {x y : Frac} {t d : Int} (hx : 0 < x.u) (hy : 0 < y.u) (ht : 0 < t) (h : q y = t * q x + d) : t * flF x + d ≤ flF y := by
  rw [fl_q hy, h]
  have g := aff_le (ratpos ht) ((fl_q hx).1 (Int.le_refl _))
  rw [Rat.intCast_add, Rat.intCast_mul]
  grind
theorem ce_aff {x y : Frac} {t d : Int} (hx : 0 < x.u) (hy : 0 < y.u) (ht : 0 < t) (h : q y = t * q x + d) : ceF y ≤ t * ceF x + d := by
  rw [ce_q hy, h]
  have g := aff_le (ratpos ht) ((ce_q hx).1 (Int.le_refl _))
  rw [Rat.intCast_add, Rat.intCast_mul]
  grind
theorem ce_gt {x y : Frac} {t : Int} (hx : 0 < x.u) (hy : 0 < y.u) (ht : 0 < t) (h : q y = t * q x) : t * (ceF x - 1) < ceF y := by
  refine Int.not_le.1 fun hle => ?_
  rw [ce_q hy, h, Rat.intCast_mul] at hle
  have g := aff_le (inv_pos' (ratpos ht)) hle
  rw [back_mul' (mul_inv_one (ratpos ht)), back_mul' (mul_inv_one (ratpos ht))] at g
  have g2 : ¬ (ceF x ≤ ceF x - 1) := by omega
  rw [ce_q hx] at g2
  exact g2 g
end Go.Proofs.Ytnhokodcmeekhaa
namespace Go.Proofs.Ytnhokodcmeekhaa
open Go Kern
/-! A crop turned round and stretched -/
theorem field_truth {n : Nat} {lo hi : Int} {ss : List SampD} {x : Nat → Int} (h1 : fieldErr n lo hi ss = 0) (hr : ∀ w, w < n → lo ≤ x w ∧ x w ≤ hi) (hs : ∀ s ∈ ss, Right x s)
    (hc : ∀ i j k, i < j → j < k → k < n → x i * ((k : Int) - j) + x k * ((j : Int) - i) ≤ x j * ((k : Int) - i)) : Truth n (LF n lo hi ss) (HF n lo hi ss) x := by
  have key : ∀ w, w < n → (LF n lo hi ss w).o ≤ x w ∧ x w ≤ (HF n lo hi ss w).o := fun w hw => by
    rw [LF_ref h1 hw, HF_ref h1 hw]
    exact end_truth w ss (lo, hi) (hr w hw) hs
  exact ⟨fun w hw => by rw [LF_ref h1 hw, HF_ref h1 hw]; exact ⟨rfl, rfl⟩, fun w hw => (key w hw).1, fun w hw => (key w hw).2, hc⟩
theorem field_valid {n : Nat} {lo hi : Int} {ss : List SampD} (hn : 1 ≤ n ∧ n ≤ 30) (h0 : (0 ≤ lo ∧ lo ≤ hi) ∧ hi ≤ 30000) (hl : ss.length ≤ 100) (hss : ∀ x ∈ ss, (0 ≤ x.week ∧ x.week < n) ∧ (0 ≤ x.val ∧ x.val ≤ 30000) ∧ 0 ≤ x.off ∧ x.off ≤ 30000) : fieldErr n lo hi ss = 0 := by
  obtain ⟨⟨h1, h2⟩, h3⟩ := h0
  have hf : ∀ x ∈ ss, sampErr n x = 0 := fun x hx => by
    obtain ⟨⟨a1, a2⟩, ⟨b1, b2⟩, c1, c2⟩ := hss x hx
    unfold sampErr weekB sweetB
    simp [a1, a2, b1, b2, c1, c2]
  unfold fieldErr
  rw [if_neg (by omega), if_neg (by simp [sweetB]; omega), if_neg (by omega)]
  exact firstS_zero fun j x hj => hf x (List.mem_of_getElem? hj)
def rvS (n : Nat) (s : SampD) : SampD := ⟨(n : Int) - 1 - s.week, s.val, s.off⟩
def afS (t d : Int) (s : SampD) : SampD := ⟨s.week, t * s.val + d, t * s.off⟩
theorem fold_rv {n i : Nat} (hi : i < n) : ∀ (ss : List SampD) (p : Int × Int), (∀ s ∈ ss, 0 ≤ s.week ∧ s.week < n) → (ss.map (rvS n)).foldl (endS i) p = ss.foldl (endS (n - 1 - i)) p
  | [], _, _ => rfl
  | s :: r, p, h => by
    have h0 := h s (.head _)
    have e : endS i p (rvS n s) = endS (n - 1 - i) p s := by
      unfold endS rvS
      simp only []
      by_cases hw : s.week = ((n - 1 - i : Nat) : Int)
      · rw [if_pos hw, if_pos (by omega)]
      · rw [if_neg hw, if_neg (by omega)]
    show (r.map (rvS n)).foldl (endS i) (endS i p (rvS n s)) = r.foldl (endS (n - 1 - i)) (endS (n - 1 - i) p s)
    rw [e]
    exact fold_rv hi r _ fun y hy => h y (.tail _ hy)
theorem fold_af {t d : Int} (ht : t = 1 ∨ t = 2) (i : Nat) : ∀ (ss : List SampD) (p : Int × Int), (ss.map (afS t d)).foldl (endS i) (t * p.1 + d, t * p.2 + d) = (t * (ss.foldl (endS i) p).1 + d, t * (ss.foldl (endS i) p).2 + d)
  | [], _ => rfl
  | s :: r, p => by
    have e : endS i (t * p.1 + d, t * p.2 + d) (afS t d s) = (t * (endS i p s).1 + d, t * (endS i p s).2 + d) := by
      unfold endS afS
      simp only []
      split
      · refine Prod.ext ?_ ?_
        · rcases ht with rfl | rfl
          · simp only []; omega
          · simp only []; omega
        · rcases ht with rfl | rfl
          · simp only []; omega
          · simp only []; omega
      · rfl
    show (r.map (afS t d)).foldl (endS i) (endS i _ (afS t d s)) = _
    rw [e]
    exact fold_af ht i r _
theorem wF_q (x : Int) : q ⟨x, 1⟩ = (x : Rat) := by unfold q; simp; grind
theorem top_char {m : Nat} {L : Nat → Frac} {Z : Rat} (hL : ∀ i, i < m → 0 < (L i).u) (hm : 0 < m) : 0 < (topF m L).u ∧ (q (topF m L) ≤ Z ↔ ∀ i, i < m → q (L i) ≤ Z) := by
  have hp : ∀ x ∈ (List.range (m - 1)).map (fun j => L (j + 1)), 0 < x.u := fun x hx => by
    obtain ⟨o, ho, rfl⟩ := List.mem_map.1 hx
    have h0 : o < m - 1 := by simpa using ho
    exact hL _ (by omega)
  obtain ⟨m1, m2, m3⟩ := fore_max _ (L 0) (hL 0 hm) hp
  refine ⟨m1, fun h i hi => Rat.le_trans ?_ h, fun h => ?_⟩
  · by_cases e : i = 0
    · subst e; exact (q_le (hL 0 hm) m1).1 m2
    · have := m3 (L (i - 1 + 1)) (List.mem_map_of_mem (f := fun j => L (j + 1)) (by simp; omega))
      rw [show i - 1 + 1 = i by omega] at this
      exact (q_le (hL i hi) m1).1 this
  · rcases foreF_mem (bf := aboveB) (L 0) ((List.range (m - 1)).map fun j => L (j + 1)) with e | e
    · have e' : topF m L = L 0 := e
      rw [e']; exact h 0 hm
    · obtain ⟨j, hj, e2⟩ := List.mem_map.1 e
      have e' : topF m L = L (j + 1) := e2.symm
      have h0 : j < m - 1 := by simpa using hj
      rw [e']; exact h _ (by omega)
theorem Rev.top {m : Nat} {L L' : Nat → Frac} (h : Rev m L L') (hm : 0 < m) : q (topF m L') = q (topF m L) := by
  have key : ∀ {L L' : Nat → Frac}, Rev m L L' → q (topF m L') ≤ q (topF m L) := fun h => by
    have k := (top_char h.p hm).2.1 Rat.le_refl
    refine (top_char h.p' hm).2.2 fun i hi => ?_
    rw [h.e i hi]; exact k _ (by omega)
  exact Rat.le_antisymm (key h) (key h.symm)
theorem Aff.top {m : Nat} {t d : Rat} {L L' : Nat → Frac} (h : Aff m t d L L') (hm : 0 < m) : q (topF m L') = t * q (topF m L) + d := by
  have key : ∀ {t d : Rat} {L L' : Nat → Frac}, Aff m t d L L' → q (topF m L') ≤ t * q (topF m L) + d := fun {t d L L'} h => by
    have k := (top_char h.p hm).2.1 Rat.le_refl
    refine (top_char h.p' hm).2.2 fun i hi => ?_
    rw [h.e i hi]
    have := aff_le h.tp (k i hi)
    grind
  refine Rat.le_antisymm (key h) ?_
  have g := aff_le h.tp (key h.symm)
  rw [back_aff (mul_inv_one h.tp)] at g
  grind
theorem above_aff2 {x y x' y' : Frac} {t d : Rat} (ht : 0 < t) (hx : 0 < x.u) (hy : 0 < y.u) (hx' : 0 < x'.u) (hy' : 0 < y'.u) (e1 : q x' = t * q x + d) (e2 : q y' = t * q y + d) : aboveB x' y' = aboveB x y := by
  rw [Bool.eq_iff_iff, above_q hx' hy', above_q hx hy, e1, e2, ← Rat.not_le, ← Rat.not_le]
  refine not_congr ⟨fun h => ?_, fun h => by have := aff_le ht h; grind⟩
  have g := aff_le (inv_pos' ht) (show t * q x ≤ t * q y by grind)
  rw [back_mul' (mul_inv_one ht), back_mul' (mul_inv_one ht)] at g
  exact g
theorem rev_range (n : Nat) : (List.range n).reverse = (List.range n).map (fun w => n - 1 - w) := by
  apply List.ext_getElem <;> simp
theorem wkL_rev {m : Nat} {p p' : Nat → Bool} (h : ∀ w, w < m → p' w = p (m - 1 - w)) : (wkL m p').length = (wkL m p).length ∧ ∀ (i : Nat) (x : Int), (wkL m p)[i]? = some x → (wkL m p')[(wkL m p).length - 1 - i]? = some ((m : Int) - 1 - x) := by
  have e1 : ((List.range m).filter p).reverse = ((List.range m).filter p').map fun w => m - 1 - w := by
    rw [← List.filter_reverse, rev_range, List.filter_map]
    congr 1
    exact List.filter_congr fun x hx => by
      have hx' : x < m := by simpa using hx
      rw [h x hx']; rfl
  have e2 : ((List.range m).filter p').length = ((List.range m).filter p).length := by
    have := congrArg List.length e1
    simpa using this.symm
  have e3 : (wkL m p').length = (wkL m p).length := by unfold wkL; simpa using e2
  refine ⟨e3, fun i x hx => ?_⟩
  have hl := (List.getElem?_eq_some_iff.1 hx).1
  unfold wkL at hx hl ⊢
  rw [List.getElem?_map] at hx
  obtain ⟨w, hw, rfl⟩ := Option.map_eq_some_iff.1 hx
  rw [List.length_map] at hl
  have hwm : w < m := by
    have := List.mem_of_getElem? hw
    simpa using (List.mem_filter.1 this).1
  have g : ((List.range m).filter p).reverse[((List.range m).filter p).length - 1 - i]? = some w := by
    rw [List.getElem?_reverse (by omega), show ((List.range m).filter p).length - 1 - (((List.range m).filter p).length - 1 - i) = i by omega]; exact hw
  rw [e1, List.getElem?_map] at g
  obtain ⟨v, hv, hvw⟩ := Option.map_eq_some_iff.1 g
  have hvm : v < m := by
    have := List.mem_of_getElem? hv
    simpa using (List.mem_filter.1 this).1
  rw [List.length_map, List.getElem?_map, hv]
  show some ((v : Int)) = some ((m : Int) - 1 - w)
  congr 1
  omega
end Go.Proofs.Ytnhokodcmeekhaa
namespace Go.Proofs.Ytnhokodcmeekhaa
open Go Kern
/-! What the law of turned crops compares -/
structure Turn (c : CropD) (t d : Int) (bs fs : List SampD) : Prop where
  ob : fieldErr c.n c.lo c.hi bs = 0
  nb : ¬ HasClash c.n c.lo c.hi bs
  of : fieldErr c.n (t * c.lo + d) (t * c.hi + d) fs = 0
  nf : ¬ HasClash c.n (t * c.lo + d) (t * c.hi + d) fs
  kb : ∀ w, w < c.n → flF (lowF c.n (bndN c.n c.lo c.hi bs).1 (c.n - 1 - w)) = flF (lowF c.n (bndN c.n c.lo c.hi c.ss).1 w) ∧ ceF (upF c.n (bndN c.n c.lo c.hi bs).1 (bndN c.n c.lo c.hi bs).2 (c.n - 1 - w)) = ceF (upF c.n (bndN c.n c.lo c.hi c.ss).1 (bndN c.n c.lo c.hi c.ss).2 w)
  kf : ∀ w, w < c.n → t * flF (lowF c.n (bndN c.n c.lo c.hi c.ss).1 w) + d ≤ flF (lowF c.n (bndN c.n (t * c.lo + d) (t * c.hi + d) fs).1 w) ∧ ceF (upF c.n (bndN c.n (t * c.lo + d) (t * c.hi + d) fs).1 (bndN c.n (t * c.lo + d) (t * c.hi + d) fs).2 w) ≤ t * ceF (upF c.n (bndN c.n c.lo c.hi c.ss).1 (bndN c.n c.lo c.hi c.ss).2 w) + d
  k1 : t = 1 → ∀ w, w < c.n → flF (lowF c.n (bndN c.n (t * c.lo + d) (t * c.hi + d) fs).1 w) = flF (lowF c.n (bndN c.n c.lo c.hi c.ss).1 w) + d ∧ ceF (upF c.n (bndN c.n (t * c.lo + d) (t * c.hi + d) fs).1 (bndN c.n (t * c.lo + d) (t * c.hi + d) fs).2 w) = ceF (upF c.n (bndN c.n c.lo c.hi c.ss).1 (bndN c.n c.lo c.hi c.ss).2 w) + d
  pb : (wkL c.n (fromB (UF c.n c.lo c.hi bs) (topF c.n (LF c.n c.lo c.hi bs)))).length = (wkL c.n (fromB (UF c.n c.lo c.hi c.ss) (topF c.n (LF c.n c.lo c.hi c.ss)))).length
  pr : ∀ (i : Nat) (x : Int), (wkL c.n (fromB (UF c.n c.lo c.hi c.ss) (topF c.n (LF c.n c.lo c.hi c.ss))))[i]? = some x → (wkL c.n (fromB (UF c.n c.lo c.hi bs) (topF c.n (LF c.n c.lo c.hi bs))))[(wkL c.n (fromB (UF c.n c.lo c.hi c.ss) (topF c.n (LF c.n c.lo c.hi c.ss)))).length - 1 - i]? = some ((c.n : Int) - 1 - x)
  pf : wkL c.n (fromB (UF c.n (t * c.lo + d) (t * c.hi + d) fs) (topF c.n (LF c.n (t * c.lo + d) (t * c.hi + d) fs))) = wkL c.n (fromB (UF c.n c.lo c.hi c.ss) (topF c.n (LF c.n c.lo c.hi c.ss)))
  cb : ceF (RF c.n c.lo c.hi bs (bestI (RF c.n c.lo c.hi bs) (c.n - 1))) = ceF (RF c.n c.lo c.hi c.ss (bestI (RF c.n c.lo c.hi c.ss) (c.n - 1)))
  cf : bestI (RF c.n (t * c.lo + d) (t * c.hi + d) fs) (c.n - 1) = bestI (RF c.n c.lo c.hi c.ss) (c.n - 1)
  ce : ceF (RF c.n (t * c.lo + d) (t * c.hi + d) fs (bestI (RF c.n c.lo c.hi c.ss) (c.n - 1))) ≤ t * ceF (RF c.n c.lo c.hi c.ss (bestI (RF c.n c.lo c.hi c.ss) (c.n - 1)))
  cg : t * (ceF (RF c.n c.lo c.hi c.ss (bestI (RF c.n c.lo c.hi c.ss) (c.n - 1))) - 1) < ceF (RF c.n (t * c.lo + d) (t * c.hi + d) fs (bestI (RF c.n c.lo c.hi c.ss) (c.n - 1)))
theorem fl_add {x y : Frac} {d : Int} (hx : 0 < x.u) (hy : 0 < y.u) (h : q y = q x + d) : flF y = flF x + d := by
  have a := fl_aff (t := 1) (d := d) hx hy (by decide) (by rw [h]; simp)
  have b := fl_aff (t := 1) (d := -d) hy hx (by decide) (by rw [h, Rat.intCast_neg]; simp; grind)
  omega
theorem ce_add {x y : Frac} {d : Int} (hx : 0 < x.u) (hy : 0 < y.u) (h : q y = q x + d) : ceF y = ceF x + d := by
  have a := ce_aff (t := 1) (d := d) hx hy (by decide) (by rw [h]; simp)
  have b := ce_aff (t := 1) (d := -d) hy hx (by decide) (by rw [h, Rat.intCast_neg]; simp; grind)
  omega
theorem best_q {R : Nat → Frac} {m : Nat} (hR : ∀ w, w < m → 0 < (R w).u) (hm : 0 < m) {w : Nat} (hw : w < m) : q (R (bestI R (m - 1))) ≤ q (R w) := by
  have hb := bestI_le R (m - 1)
  exact (q_le (hR _ (by omega)) (hR w hw)).1 (best_least hR (m - 1) (by omega) w (by omega))
theorem crop_turn {c : CropD} (hc : c.Ok) {t d : Int} (ht : t = 1 ∨ t = 2) (hd : 0 ≤ d ∧ d ≤ 255) (hhi : t * c.hi + d ≤ 30000) (hv : ∀ s ∈ c.ss, t * s.val + d ≤ 30000) : Turn c t d (c.ss.map (rvS c.n)) (c.ss.map (afS t d)) := by
  have hn := n_bd c
  obtain ⟨h1, hR⟩ := crop_ss hc
  have hhib := hi_bd hc
  have hlen : c.ss.length ≤ 15 := by unfold CropD.ss; simp; omega
  have hsm : ∀ s ∈ c.ss, (0 ≤ s.week ∧ s.week < c.n) ∧ (0 ≤ s.val ∧ s.val ≤ 20000) ∧ (0 ≤ s.off ∧ s.off ≤ 255) := fun s hs => by
    obtain ⟨z, hz, rfl⟩ := List.mem_map.1 hs
    obtain ⟨b1, b2, b3, b4⟩ := samp_ok hc (hc.samples z (List.mem_of_mem_take hz))
    exact ⟨b1, b2, b3⟩
  have h2 : fieldErr c.n c.lo c.hi (c.ss.map (rvS c.n)) = 0 := field_valid (by omega) hhib (by simp; omega) fun x hx => by
    obtain ⟨s, hs, rfl⟩ := List.mem_map.1 hx
    have := hsm s hs
    unfold rvS; simp only []; omega
  have h3 : fieldErr c.n (t * c.lo + d) (t * c.hi + d) (c.ss.map (afS t d)) = 0 := field_valid (by omega) (by rcases ht with rfl | rfl <;> omega) (by simp; omega) fun x hx => by
    obtain ⟨s, hs, rfl⟩ := List.mem_map.1 hx
    have := hsm s hs
    have := hv s hs
    unfold afS; simp only []
    rcases ht with rfl | rfl <;> omega
  have T2 : Truth c.n (LF c.n c.lo c.hi (c.ss.map (rvS c.n))) (HF c.n c.lo c.hi (c.ss.map (rvS c.n))) fun w => c.sweet (c.n - 1 - w) := field_truth h2 (fun w hw => sweet_range hc (by omega)) (fun x hx => by
    obtain ⟨s, hs, rfl⟩ := List.mem_map.1 hx
    have h4 := hR s hs
    have h5 := hsm s hs
    unfold Right rvS at *
    simp only []
    rw [show c.n - 1 - ((c.n : Int) - 1 - s.week).toNat = s.week.toNat by omega]
    exact h4) fun i j k hij hjk hk => by
      have := sweet_con hc (show c.n - 1 - k < c.n - 1 - j by omega) (show c.n - 1 - j < c.n - 1 - i by omega)
      have e : ∀ x, x < c.n → ((c.n - 1 - x : Nat) : Int) = (c.n : Int) - 1 - x := fun x hx => by omega
      rw [e i (by omega), e j (by omega), e k hk] at this
      have e1 : (c.n : Int) - 1 - i - (c.n - 1 - j) = (j : Int) - i := by omega
      have e2 : (c.n : Int) - 1 - j - (c.n - 1 - k) = (k : Int) - j := by omega
      have e3 : (c.n : Int) - 1 - i - (c.n - 1 - k) = (k : Int) - i := by omega
      rw [e1, e2, e3] at this
      show c.sweet (c.n - 1 - i) * _ + c.sweet (c.n - 1 - k) * _ ≤ c.sweet (c.n - 1 - j) * _
      omega
  have T3 : Truth c.n (LF c.n (t * c.lo + d) (t * c.hi + d) (c.ss.map (afS t d))) (HF c.n (t * c.lo + d) (t * c.hi + d) (c.ss.map (afS t d))) fun w => t * c.sweet w + d := field_truth h3 (fun w hw => by
    have := sweet_range hc hw
    rcases ht with rfl | rfl <;> omega) (fun x hx => by
    obtain ⟨s, hs, rfl⟩ := List.mem_map.1 hx
    have h4 := hR s hs
    unfold Right afS at *
    simp only []
    rcases ht with rfl | rfl <;> omega) fun i j k hij hjk hk => by
      have h4 := sweet_con hc hij hjk
      have h5 : t * (c.sweet i * ((k : Int) - j) + c.sweet k * ((j : Int) - i)) ≤ t * (c.sweet j * ((k : Int) - i)) := Int.mul_le_mul_of_nonneg_left h4 (by omega)
      have e1 : (t * c.sweet i + d) * ((k : Int) - j) + (t * c.sweet k + d) * ((j : Int) - i) = t * (c.sweet i * ((k : Int) - j) + c.sweet k * ((j : Int) - i)) + d * ((k : Int) - i) := by grind
      have e2 : (t * c.sweet j + d) * ((k : Int) - i) = t * (c.sweet j * ((k : Int) - i)) + d * ((k : Int) - i) := by grind
      show (t * c.sweet i + d) * ((k : Int) - j) + (t * c.sweet k + d) * ((j : Int) - i) ≤ (t * c.sweet j + d) * ((k : Int) - i)
      rw [e1, e2]; omega
  have RL : Rev c.n (LF c.n c.lo c.hi c.ss) (LF c.n c.lo c.hi (c.ss.map (rvS c.n))) := ⟨fun i hi => by rw [LF_ref h1 hi]; exact Int.one_pos, fun i hi => by rw [LF_ref h2 hi]; exact Int.one_pos, fun i hi => by
    rw [LF_ref h1 (by omega), LF_ref h2 hi]
    congr 1
    show (⟨((c.ss.map (rvS c.n)).foldl (endS i) (c.lo, c.hi)).1, 1⟩ : Frac) = ⟨(c.ss.foldl (endS (c.n - 1 - i)) (c.lo, c.hi)).1, 1⟩
    rw [fold_rv hi c.ss _ fun s hs => (hsm s hs).1]⟩
  have RH : Rev c.n (HF c.n c.lo c.hi c.ss) (HF c.n c.lo c.hi (c.ss.map (rvS c.n))) := ⟨fun i hi => by rw [HF_ref h1 hi]; exact Int.one_pos, fun i hi => by rw [HF_ref h2 hi]; exact Int.one_pos, fun i hi => by
    rw [HF_ref h1 (by omega), HF_ref h2 hi]
    congr 1
    show (⟨((c.ss.map (rvS c.n)).foldl (endS i) (c.lo, c.hi)).2, 1⟩ : Frac) = ⟨(c.ss.foldl (endS (c.n - 1 - i)) (c.lo, c.hi)).2, 1⟩
    rw [fold_rv hi c.ss _ fun s hs => (hsm s hs).1]⟩
  have htp : 0 < t := by omega
  have AL : Aff c.n t d (LF c.n c.lo c.hi c.ss) (LF c.n (t * c.lo + d) (t * c.hi + d) (c.ss.map (afS t d))) := ⟨ratpos htp, RL.p, fun i hi => by rw [LF_ref h3 hi]; exact Int.one_pos, fun i hi => by
    rw [LF_ref h1 hi, LF_ref h3 hi]
    show q ⟨((c.ss.map (afS t d)).foldl (endS i) (t * c.lo + d, t * c.hi + d)).1, 1⟩ = t * q ⟨(c.ss.foldl (endS i) (c.lo, c.hi)).1, 1⟩ + d
    rw [fold_af ht i c.ss (c.lo, c.hi), wF_q, wF_q, Rat.intCast_add, Rat.intCast_mul]⟩
  have AH : Aff c.n t d (HF c.n c.lo c.hi c.ss) (HF c.n (t * c.lo + d) (t * c.hi + d) (c.ss.map (afS t d))) := ⟨ratpos htp, RH.p, fun i hi => by rw [HF_ref h3 hi]; exact Int.one_pos, fun i hi => by
    rw [HF_ref h1 hi, HF_ref h3 hi]
    show q ⟨((c.ss.map (afS t d)).foldl (endS i) (t * c.lo + d, t * c.hi + d)).2, 1⟩ = t * q ⟨(c.ss.foldl (endS i) (c.lo, c.hi)).2, 1⟩ + d
    rw [fold_af ht i c.ss (c.lo, c.hi), wF_q, wF_q, Rat.intCast_add, Rat.intCast_mul]⟩
  have rp1 : ∀ w, w < c.n → 0 < (RF c.n c.lo c.hi c.ss w).u := fun w hw => reg_pos RL.p RH.p hw
  have rp2 : ∀ w, w < c.n → 0 < (RF c.n c.lo c.hi (c.ss.map (rvS c.n)) w).u := fun w hw => reg_pos RL.p' RH.p' hw
  have rp3 : ∀ w, w < c.n → 0 < (RF c.n (t * c.lo + d) (t * c.hi + d) (c.ss.map (afS t d)) w).u := fun w hw => reg_pos AL.p' AH.p' hw
  have hb1 := bestI_le (RF c.n c.lo c.hi c.ss) (c.n - 1)
  have hb2 := bestI_le (RF c.n c.lo c.hi (c.ss.map (rvS c.n))) (c.n - 1)
  have hpr := wkL_rev (m := c.n) (p := fromB (UF c.n c.lo c.hi c.ss) (topF c.n (LF c.n c.lo c.hi c.ss))) (p' := fromB (UF c.n c.lo c.hi (c.ss.map (rvS c.n))) (topF c.n (LF c.n c.lo c.hi (c.ss.map (rvS c.n))))) fun w hw => by
    unfold fromB
    congr 1
    have e1 : q (UF c.n c.lo c.hi (c.ss.map (rvS c.n)) w) = q (UF c.n c.lo c.hi c.ss (c.n - 1 - w)) := RL.up RH hw
    exact above_aff (t := 1) (by decide) (top_char (Z := 0) RL.p (by omega)).1 (up_pos RL.p RH.p (by omega)) (top_char (Z := 0) RL.p' (by omega)).1 (up_pos RL.p' RH.p' hw) (by rw [RL.top (by omega)]; grind) (by rw [e1]; grind)
  refine ⟨h2, T2.noHas h2, h3, T3.noHas h3, fun w hw => ⟨?_, ?_⟩, fun w hw => ⟨?_, ?_⟩, fun h w hw => ⟨?_, ?_⟩, hpr.1, hpr.2, ?_, ?_, ?_, ?_, ?_⟩
  · refine fl_same (low_pos RL.p' (by omega)) (low_pos RL.p hw) ?_
    have := RL.low (show c.n - 1 - w < c.n by omega)
    rwa [show c.n - 1 - (c.n - 1 - w) = w by omega] at this
  · refine ce_same (up_pos RL.p' RH.p' (by omega)) (up_pos RL.p RH.p hw) ?_
    have := RL.up RH (show c.n - 1 - w < c.n by omega)
    rwa [show c.n - 1 - (c.n - 1 - w) = w by omega] at this
  · exact fl_aff (low_pos AL.p hw) (low_pos AL.p' hw) htp (AL.low hw)
  · exact ce_aff (up_pos AL.p AH.p hw) (up_pos AL.p' AH.p' hw) htp (AL.up AH hw)
  · refine fl_add (low_pos AL.p hw) (low_pos AL.p' hw) ?_
    have := AL.low hw
    rw [h] at this ⊢
    refine this.trans ?_
    simp; rfl
  · refine ce_add (up_pos AL.p AH.p hw) (up_pos AL.p' AH.p' hw) ?_
    have := AL.up AH hw
    rw [h] at this ⊢
    refine this.trans ?_
    simp; rfl
  · refine wkL_congr fun w hw => ?_
    unfold fromB
    congr 1
    exact above_aff2 AL.tp (top_char (Z := 0) AL.p (by omega)).1 (up_pos AL.p AH.p hw) (top_char (Z := 0) AL.p' (by omega)).1 (up_pos AL.p' AH.p' hw) (AL.top (by omega)) (AL.up AH hw)
  · refine ce_same (rp2 _ (by omega)) (rp1 _ (by omega)) (Rat.le_antisymm ?_ ?_)
    · have g := best_q rp2 (by omega) (show c.n - 1 - bestI (RF c.n c.lo c.hi c.ss) (c.n - 1) < c.n by omega)
      have e : q (RF c.n c.lo c.hi (c.ss.map (rvS c.n)) (c.n - 1 - bestI (RF c.n c.lo c.hi c.ss) (c.n - 1))) = q (RF c.n c.lo c.hi c.ss (c.n - 1 - (c.n - 1 - bestI (RF c.n c.lo c.hi c.ss) (c.n - 1)))) := RL.reg RH (by omega)
      rw [e, show c.n - 1 - (c.n - 1 - bestI (RF c.n c.lo c.hi c.ss) (c.n - 1)) = bestI (RF c.n c.lo c.hi c.ss) (c.n - 1) by omega] at g
      exact g
    · have e : q (RF c.n c.lo c.hi (c.ss.map (rvS c.n)) (bestI (RF c.n c.lo c.hi (c.ss.map (rvS c.n))) (c.n - 1))) = q (RF c.n c.lo c.hi c.ss (c.n - 1 - bestI (RF c.n c.lo c.hi (c.ss.map (rvS c.n))) (c.n - 1))) := RL.reg RH (by omega)
      rw [e]
      exact best_q rp1 (by omega) (by omega)
  · exact AL.best AH (c.n - 1) (by omega)
  · have e := AL.reg AH (show bestI (RF c.n c.lo c.hi c.ss) (c.n - 1) < c.n by omega)
    have hbn : bestI (RF c.n c.lo c.hi c.ss) (c.n - 1) < c.n := by omega
    have := ce_aff (t := t) (d := 0) (rp1 _ hbn) (rp3 _ hbn) htp (e.trans (by rw [show ((0 : Int) : Rat) = 0 from rfl, Rat.add_zero]; rfl))
    rw [Int.add_zero] at this
    exact this
  · exact ce_gt (rp1 _ (by omega)) (rp3 _ (by omega)) htp (AL.reg AH (show bestI (RF c.n c.lo c.hi c.ss) (c.n - 1) < c.n by omega))
end Go.Proofs.Ytnhokodcmeekhaa
namespace Go.Proofs.Ytnhokodcmeekhaa
open Go Kern
/-! The law of turned crops -/
theorem ce_mid {A B : Int} {x : Frac} (h : Mid A B x) : -A ≤ ceF x ∧ ceF x ≤ A := by
  obtain ⟨⟨h1, h2⟩, h3, h4⟩ := h
  have h5 : A ≤ A * x.u := by
    have := Int.mul_le_mul_of_nonneg_left (show 1 ≤ x.u by omega) (show 0 ≤ A by omega)
    omega
  unfold ceF
  constructor
  · have : -x.o / x.u ≤ A := Int.ediv_le_of_le_mul h3 (by omega)
    omega
  · have : -A ≤ -x.o / x.u := by rw [Int.le_ediv_iff_mul_le h3, Int.neg_mul]; omega
    omega
theorem reg_bound {n : Nat} {lo hi : Int} {ss : List SampD} (h1 : fieldErr n lo hi ss = 0) {w : Nat} (hw : w < n) : -291600000000 ≤ ceF (RF n lo hi ss w) ∧ ceF (RF n lo hi ss w) ≤ 291600000000 := by
  obtain ⟨hm, hb⟩ := base_ok h1
  exact ce_mid (reg_mid (by omega) hw (fun i hi => (hb i hi).1.mid) (fun i hi => (hb i hi).2.1.mid)).1
theorem bestI_lt (R : Nat → Frac) {n : Nat} (hn : 1 ≤ n) : bestI R (n - 1) < n := by
  have := bestI_le R (n - 1)
  omega
theorem known_b {c : CropD} (hc : c.Ok) {w : Nat} (hw : w < c.n) : (0 ≤ flF (lowF c.n (bndN c.n c.lo c.hi c.ss).1 w) ∧ flF (lowF c.n (bndN c.n c.lo c.hi c.ss).1 w) ≤ 18710) ∧ (1000 ≤ ceF (upF c.n (bndN c.n c.lo c.hi c.ss).1 (bndN c.n c.lo c.hi c.ss).2 w) ∧ ceF (upF c.n (bndN c.n c.lo c.hi c.ss).1 (bndN c.n c.lo c.hi c.ss).2 w) ≤ 60000) := by
  have hn := n_bd c
  obtain ⟨h1, hR⟩ := crop_ss hc
  obtain ⟨hm, hb⟩ := base_ok h1
  have hb : ∀ i, i < c.n → Whole ((bndN c.n c.lo c.hi c.ss).1 i) ∧ Whole ((bndN c.n c.lo c.hi c.ss).2 i) ∧ 0 ≤ ((bndN c.n c.lo c.hi c.ss).1 i).o := hb
  have hTF := t_facts hc (least := 7000) (by omega) hw
  have hs := sweet_nn hc (k := w) (by omega)
  have hlo := hTF.lo
  have hhi := hTF.hi
  have pL : ∀ i, i < c.n → 0 < ((bndN c.n c.lo c.hi c.ss).1 i).u := fun i hi => (hb i hi).1.mid.2.1
  have pH : ∀ i, i < c.n → 0 < ((bndN c.n c.lo c.hi c.ss).2 i).u := fun i hi => (hb i hi).2.1.mid.2.1
  have g1 := fl_mono (pL w hw) (low_pos pL hw) (low_ge pL hw)
  have g2 : 0 ≤ flF ((bndN c.n c.lo c.hi c.ss).1 w) := Int.ediv_nonneg (hb w hw).2.2 (Int.le_of_lt (pL w hw))
  have g3 := ce_mono (up_pos pL pH hw) (pH w hw) (fore_min _ _ (pH w hw) (up_lines_pos pL pH hw)).2.1
  have g4 := (ce_mid (hb w hw).2.1.mid).2
  omega
@[simp] theorem newObj_a26 {f : Fr} : Kern.newObj TT (.alloc 26) f = some (.cells [.int .i64 0, .int .i64 0, .int .i64 0, .slice none 0 0] none) := newObj_alloc 26 zero_26
set_option maxRecDepth 100000 in
set_option maxHeartbeats 4000000 in
theorem lawN_ev (c : CropD) (hc : c.Ok) (fv sv : Value) (ti d : Int) (s : St) (hf : SlAt 1 s fv (c.falls.map u8C)) (hs : SlAt 3 s sv (c.samples.map u8T)) (hti : 0 ≤ ti ∧ ti ≤ 255) (hd : 0 ≤ d ∧ d ≤ 255) :
    Ev TT 11 [cropV c fv sv, .int .u8 ti, .int .u8 d] s fun r _ => r = .bool true := by
  have hmd := fun s' (k : Keep s s') => made_ev c hc fv sv s' (hf.keep k) (hs.keep k)
  obtain ⟨af, cf, rfl⟩ := hf.shape
  obtain ⟨az, cz, rfl⟩ := hs.shape
  have hn := n_bd c
  unfold cropV at hmd ⊢
  simp only [List.length_map] at hmd ⊢
  have hhib := hi_bd hc
  obtain ⟨hSS, hRight⟩ := crop_ss hc
  have hnc := (crop_truth hc hSS hRight).noHas hSS
  have hssl : c.ss.length ≤ 15 := by unfold CropD.ss; simp; omega
  have hwk : ∀ s ∈ c.ss, (0 ≤ s.week ∧ s.week < c.n) ∧ (0 ≤ s.val ∧ s.val ≤ 20000) ∧ (0 ≤ s.off ∧ s.off ≤ 255) := fun s hs => by
    obtain ⟨z, hz, rfl⟩ := List.mem_map.1 hs
    obtain ⟨b1, b2, b3, b4⟩ := samp_ok hc (hc.samples z (List.mem_of_mem_take hz))
    exact ⟨b1, b2, b3⟩
  have hrem := intOp_rem .i64 ti 2 hti.1 (by omega)
  obtain ⟨t, hte⟩ : ∃ t, 1 + ti % 2 = t := ⟨_, rfl⟩
  have ht : t = 1 ∨ t = 2 := by omega
  refine Ev.intro (fn := Try.f11) rfl (by kernel_rfl) rfl rfl ?_
  apply zz
  refine Cd.ra (h := ?_)
  apply Run.by_eq
  · intro self
    conv => lhs; simp -implicitDefEqProofs (maxSteps := 300000) (disch := omega) [-getElem?_pos, -getElem?_neg]
  try (with_reducible refine Run.ret ?_)
  apply zz
  refine Cd.ra (h := ?_)
  apply Run.by_eq
  · intro self
    conv => lhs; simp -implicitDefEqProofs (maxSteps := 300000) (disch := omega) [-getElem?_pos, -getElem?_neg]
  try (with_reducible refine Run.ret ?_)
  apply zz
  refine Run.call ((hmd _ ⟨by (try simp only [pushed_next', upded_next']); omega, fun i hi => by simp -implicitDefEqProofs (disch := omega) []⟩).mono fun v w1 hv => ?_)
  obtain ⟨k1, q, sw, rfl, hq, hsw⟩ := hv
  have k1a := k1.1
  have k1b := k1.2
  try simp only [pushed_next', upded_next'] at k1a k1b hq
  have hQ : SmAt w1 q c.ss := hq.sl (samp_len _)
  have hsw1 := SlAt.one hsw
  unfold fieldV
  obtain ⟨aq, cq, rfl⟩ := hQ.shape
  rw [List.length_map] at hQ
  rw [List.length_map]
  have vq : veq 4 (Value.slice aq c.ss.length cq) (Value.slice aq c.ss.length cq) = true := slAt_veq hQ 3
  have hq2 : oneV (Value.slice aq c.ss.length cq) = true := rfl
  have hmlo : 0 ≤ t * c.lo ∧ t * c.lo ≤ 60000 := by rcases ht with h | h <;> rw [h] <;> omega
  have hmhi : 0 ≤ t * c.hi ∧ t * c.hi ≤ 60000 := by rcases ht with h | h <;> rw [h] <;> omega
  have hmle : t * c.lo ≤ t * c.hi := by rcases ht with h | h <;> rw [h] <;> omega
  clear hmd
  apply Run.by_eq
  · intro self
    conv => lhs; simp -implicitDefEqProofs (maxSteps := 300000) (disch := omega) [-getElem?_pos, -getElem?_neg]
  try (with_reducible refine Run.ret ?_)
  apply zz
  refine Cd.ra (h := ?_)
  apply Run.by_eq
  · intro self
    conv => lhs; simp -implicitDefEqProofs (maxSteps := 300000) (disch := omega) [-getElem?_pos, -getElem?_neg, hrem, hte]
  try (with_reducible refine Run.ret ?_)
  apply zz
  refine Cd.mono (Q := fun x f2 s2 => x = Ex.normal ∧ f2.marks = [] ∧ f2.get 2 = .int .u8 d ∧ f2.get 7 = .pointer (some ⟨w1.next, 0, none⟩) ∧ f2.get 9 = .int .i64 t ∧ f2.get 55 = .bool (decide (30000 < t * c.hi + d)) ∧ Keep w1 s2 ∧ w1.next < s2.next ∧ s2.heap.get w1.next = some (.cells [.int .i64 c.n, .int .i64 c.lo, .int .i64 c.hi, .slice aq c.ss.length cq] none)) ?_ ?_
  · apply zz
    refine Cd.ra (h := ?_)
    apply Run.by_eq
    · intro self
      conv => lhs; simp -implicitDefEqProofs (maxSteps := 300000) (disch := omega) [-getElem?_pos, -getElem?_neg]
    try (with_reducible refine Run.ret ?_)
    apply zz
    exact ⟨rfl, by simp, by simp, by simp, by simp, by simp, ⟨by (try simp only [pushed_next', upded_next']); omega, fun i hi => by simp -implicitDefEqProofs (disch := omega) []⟩, by simp, by simp -implicitDefEqProofs (disch := omega)⟩
  rintro x f s2 ⟨rfl, hm, g2, g7, g9, g55, kp2, hnx, hP⟩
  apply zz
  have hQ2 := hQ.keep kp2
  clear hf hs hrem hte
  by_cases hov : 30000 < t * c.hi + d
  · apply zz
    apply Cd.ite rfl
    · conv => lhs; simp -implicitDefEqProofs (maxSteps := 300000) (disch := omega) [-getElem?_pos, -getElem?_neg, g55, hov]
    all_goals intro c0
    all_goals try (cases c0; done)
    all_goals try simp only [Bool.not_eq_true', Bool.not_eq_false', decide_eq_true_eq, decide_eq_false_iff_not] at c0
    all_goals apply zz
    apply zz
    refine Cd.ra (h := ?_)
    apply Run.by_eq
    · intro self
      conv => lhs; simp -implicitDefEqProofs (maxSteps := 300000) (disch := omega) [-getElem?_pos, -getElem?_neg]
    try (with_reducible refine Run.ret ?_)
    apply zz
    refine Run.call ((works_ev _).mono fun v wk hv => ?_)
    obtain ⟨rfl, hwk⟩ := hv
    apply Run.by_eq
    · intro self
      conv => lhs; simp -implicitDefEqProofs (maxSteps := 300000) (disch := omega) [-getElem?_pos, -getElem?_neg]
    try (with_reducible refine Run.ret ?_)
    apply zz
    apply Leave.mk (by first | exact .inl rfl | exact .inr rfl) (by simp only [Fr.marks_put, fr0_marks, hm])
    · conv => lhs; simp -implicitDefEqProofs (disch := omega) [Try.results11, hm]
    rfl
  apply zz
  apply Cd.ite rfl
  · conv => lhs; simp -implicitDefEqProofs (maxSteps := 300000) (disch := omega) [-getElem?_pos, -getElem?_neg, g55, hov]
  all_goals intro c0
  all_goals try (cases c0; done)
  all_goals try simp only [Bool.not_eq_true', Bool.not_eq_false', decide_eq_true_eq, decide_eq_false_iff_not] at c0
  all_goals apply zz
  -- the other two fields
  refine Cd.mono (Q := fun x f3 s3 => x = Ex.normal ∧ f3.marks = [] ∧ f3.get 2 = .int .u8 d ∧ f3.get 7 = .pointer (some ⟨w1.next, 0, none⟩) ∧ f3.get 9 = .int .i64 t ∧ f3.get 10 = .pointer (some ⟨s2.next, 0, none⟩) ∧ f3.get 11 = .pointer (some ⟨s2.next + 1, 0, none⟩) ∧ Keep s2 s3 ∧ s3.next = s2.next + 2 ∧ s3.heap.get s2.next = some (.cells [.int .i64 c.n, .int .i64 c.lo, .int .i64 c.hi, .slice aq c.ss.length cq] none) ∧ s3.heap.get (s2.next + 1) = some (.cells [.int .i64 c.n, .int .i64 c.lo, .int .i64 c.hi, .slice aq c.ss.length cq] none)) ?_ ?_
  · apply zz
    refine Cd.drawn (pl := [(0, 0, false, false), (1, 0, false, false), (2, 0, false, true), (3, 0, false, true), (4, 13, true, false), (5, 31, true, false)]) (by kernel_rfl) (by conv => lhs; simp only [List.append_eq, List.cons_append, List.nil_append, List.map_cons, List.map_nil]) (by conv => lhs; simp [strip, ordered]) ?_
    apply Run.by_eq
    · intro self
      conv => lhs; simp -implicitDefEqProofs (maxSteps := 300000) (disch := omega) [filter_bt, (show Nat.testBit 13 0 = true from rfl), (show Nat.testBit 13 1 = false from rfl), (show Nat.testBit 13 2 = true from rfl), (show Nat.testBit 13 3 = true from rfl), (show ∀ i, Nat.testBit 31 i = decide (i < 5) from fun i => Nat.testBit_two_pow_sub_one 5 i), -getElem?_pos, -getElem?_neg, g7, hP, vq]
    try (with_reducible refine Run.ret ?_)
    apply zz
    exact ⟨rfl, by simp [hm], by simp [g2], by simp [g7], by simp [g9], by simp, by simp, ⟨by (try simp only [pushed_next', upded_next']); omega, fun i hi => by simp -implicitDefEqProofs (disch := omega) []⟩, by simp, by simp -implicitDefEqProofs (disch := omega), by simp -implicitDefEqProofs (disch := omega)⟩
  clear hm g2 g7 g9 g55
  rintro x f s3 ⟨rfl, hm, g2, g7, g9, g10, g11, k3, hn3, hb3, hf3⟩
  apply zz
  refine Cd.mono (Q := fun x f3 s4 => x = Ex.normal ∧ f3.marks = [] ∧ f3.get 2 = .int .u8 d ∧ f3.get 7 = .pointer (some ⟨w1.next, 0, none⟩) ∧ f3.get 9 = .int .i64 t ∧ f3.get 10 = .pointer (some ⟨s2.next, 0, none⟩) ∧ f3.get 11 = .pointer (some ⟨s2.next + 1, 0, none⟩) ∧ Keep s2 s4 ∧ s4.next = s2.next + 2 ∧ s4.heap.get s2.next = some (.cells [.int .i64 c.n, .int .i64 c.lo, .int .i64 c.hi, .slice none 0 0] none) ∧ s4.heap.get (s2.next + 1) = some (.cells [.int .i64 c.n, .int .i64 c.lo, .int .i64 c.hi, .slice none 0 0] none)) ?_ ?_
  · apply zz
    refine Cd.ra (h := ?_)
    apply Run.by_eq
    · intro self
      conv => lhs; simp -implicitDefEqProofs (maxSteps := 300000) (disch := omega) [-getElem?_pos, -getElem?_neg, g10, g11, hb3, hf3]
    try (with_reducible refine Run.ret ?_)
    apply zz
    refine ⟨rfl, by simp [hm], by simp [g2], by simp [g7], by simp [g9], by simp [g10], by simp [g11], ⟨by (try simp only [upded_next']); omega, fun i hi => ?_⟩, by (try simp only [upded_next']); omega, ?_, get_upded_same _ _ _⟩
    · rw [get_upded_other _ _ _ _ (by omega), get_upded_other _ _ _ _ (by omega)]; exact k3.2 i hi
    · rw [get_upded_other _ _ _ _ (by omega)]; exact get_upded_same _ _ _
  clear hm g2 g7 g9 g10 g11 k3 hn3 hb3 hf3
  rintro x f s4 ⟨rfl, hm, g2, g7, g9, g10, g11, k4, hn4, hb4, hf4⟩
  apply zz
  have hP4 := (k4.2 _ hnx).trans hP
  refine Cd.mono (Q := fun x f3 s5 => x = Ex.normal ∧ f3.marks = [] ∧ f3.get 2 = .int .u8 d ∧ f3.get 7 = .pointer (some ⟨w1.next, 0, none⟩) ∧ f3.get 9 = .int .i64 t ∧ f3.get 10 = .pointer (some ⟨s2.next, 0, none⟩) ∧ f3.get 11 = .pointer (some ⟨s2.next + 1, 0, none⟩) ∧ Keep s2 s5 ∧ s2.next + 2 ≤ s5.next ∧ s5.heap.get s2.next = some (.cells [.int .i64 c.n, .int .i64 c.lo, .int .i64 c.hi, .slice none 0 0] none) ∧ s5.heap.get (s2.next + 1) = some (.cells [.int .i64 c.n, .int .i64 (t * c.lo + d), .int .i64 (t * c.hi + d), .slice none 0 0] none)) ?_ ?_
  · apply zz
    refine Cd.ra (h := ?_)
    apply Run.by_eq
    · intro self
      conv => lhs; simp -implicitDefEqProofs (maxSteps := 300000) (disch := omega) [-getElem?_pos, -getElem?_neg, g2, g7, g9, g11, hP4]
    try (with_reducible refine Run.ret ?_)
    apply zz
    refine Run.call ((span_ev (t * c.lo + d) (t * c.hi + d) _).mono fun v w5 hv => ?_)
    obtain ⟨rfl, k5⟩ := hv
    have hf5 := (k5.2 _ (by omega)).trans hf4
    have hb5 := (k5.2 _ (by omega)).trans hb4
    have k5a := k5.1
    apply Run.by_eq
    · intro self
      conv => lhs; simp -implicitDefEqProofs (maxSteps := 300000) (disch := omega) [-getElem?_pos, -getElem?_neg, g11, hf5]
    try (with_reducible refine Run.ret ?_)
    apply zz
    refine ⟨rfl, by simp [hm], by simp [g2], by simp [g7], by simp [g9], by simp [g10], by simp [g11], ⟨by (try simp only [upded_next']); have := k4.1; omega, fun i hi => ?_⟩, by (try simp only [upded_next']); omega, ?_, get_upded_same _ _ _⟩
    · rw [get_upded_other _ _ _ _ (by omega), k5.2 i (by omega)]; exact k4.2 i hi
    · rw [get_upded_other _ _ _ _ (by omega)]; exact hb5
  clear hm g2 g7 g9 g10 g11 k4 hn4 hb4 hf4 hP4
  rintro x f s5 ⟨rfl, hm, g2, g7, g9, g10, g11, k5, hn5, hb5, hf5⟩
  apply zz
  have hQ5 := hQ2.keep k5
  have hP5 := (k5.2 _ hnx).trans hP
  apply zz
  refine Cd.ra (h := ?_)
  apply Run.by_eq
  · intro self
    conv => lhs; simp -implicitDefEqProofs (maxSteps := 300000) (disch := omega) [-getElem?_pos, -getElem?_neg, g7, hP5]
  try (with_reducible refine Run.ret ?_)
  apply zz
  refine Cd.inv (fun z f s6 => ∃ (k : Nat) (wb wf : Value) (bb bf : Option Nat), k ≤ c.ss.length ∧ z = c.ss.length - k ∧ f.marks = [] ∧ f.get 2 = .int .u8 d ∧ f.get 7 = .pointer (some ⟨w1.next, 0, none⟩) ∧ f.get 9 = .int .i64 t ∧ f.get 10 = .pointer (some ⟨s2.next, 0, none⟩) ∧ f.get 11 = .pointer (some ⟨s2.next + 1, 0, none⟩) ∧ f.get 80 = .slice aq c.ss.length cq ∧ f.get 81 = .int .i64 c.ss.length ∧ f.get 82 = .int .i64 k ∧ Keep s2 s6 ∧ s2.next + 2 ≤ s6.next ∧ s6.heap.get s2.next = some (.cells [.int .i64 c.n, .int .i64 c.lo, .int .i64 c.hi, wb] none) ∧ s6.heap.get (s2.next + 1) = some (.cells [.int .i64 c.n, .int .i64 (t * c.lo + d), .int .i64 (t * c.hi + d), wf] none) ∧ OwnB 3 (s2.next + 2) s6 wb (((c.ss.take k).map (rvS c.n)).map SampD.cs) bb ∧ OwnB 3 (s2.next + 2) s6 wf (((c.ss.take k).map (afS t d)).map SampD.cs) bf ∧ (∀ i, bb = some i → bf ≠ some i) ∧ ∀ x ∈ c.ss.take k, t * x.val + d ≤ 30000) c.ss.length ?_ ?_
  · exact ⟨0, _, _, none, none, by omega, rfl, by simp [hm], by simp [g2], by simp [g7], by simp [g9], by simp [g10], by simp [g11], by simp, by simp, by simp, k5, hn5, hb5, hf5, .inl ⟨rfl, by simp, rfl⟩, .inl ⟨rfl, by simp, rfl⟩, (fun i h => by cases h), fun x hx => by simp at hx⟩
  clear hm g2 g7 g9 g10 g11 k5 hn5 hb5 hf5 hQ5 hP5
  rintro z f s6 ⟨k, wb, wf, bb, bf, hk, rfl, hm, g2, g7, g9, g10, g11, g80, g81, g82, k6, hn6, hb6, hf6, hOb, hOf, hbf, hval⟩
  by_cases hlt : k < c.ss.length
  · have hlt' : (k : Int) < c.ss.length := by omega
    obtain ⟨x, hx⟩ : ∃ x, c.ss[k]? = some x := ⟨c.ss[k], by simp [hlt]⟩
    obtain ⟨⟨u1, u2⟩, u3, u4⟩ := hwk x (List.mem_of_getElem? hx)
    obtain ⟨b, off, o, cs, gg, rfl, hb, ho, hcs, htk⟩ := SmAt.at (hQ2.keep k6) hx
    have hmv : 0 ≤ t * x.val ∧ t * x.val ≤ 40000 := by rcases ht with h | h <;> rw [h] <;> omega
    have hmo : 0 ≤ t * x.off ∧ t * x.off ≤ 510 := by rcases ht with h | h <;> rw [h] <;> omega
    apply zz
    refine Cd.ra (h := ?_)
    apply Run.by_eq
    · intro self
      conv => lhs; simp -implicitDefEqProofs (maxSteps := 300000) (disch := omega) [-getElem?_pos, -getElem?_neg, g81, g82, hlt']
    try (with_reducible refine Run.ret ?_)
    apply zz
    apply Cd.ite rfl
    · conv => lhs; simp -implicitDefEqProofs (maxSteps := 300000) (disch := omega) [-getElem?_pos, -getElem?_neg]
    all_goals intro c1
    all_goals try (cases c1; done)
    all_goals try simp only [Bool.not_eq_true', Bool.not_eq_false', decide_eq_true_eq, decide_eq_false_iff_not] at c1
    all_goals apply zz
    refine Cd.mono (Q := fun y f s7 => y = Ex.normal ∧ f.marks = [] ∧ f.get 2 = .int .u8 d ∧ f.get 7 = .pointer (some ⟨w1.next, 0, none⟩) ∧ f.get 9 = .int .i64 t ∧ f.get 10 = .pointer (some ⟨s2.next, 0, none⟩) ∧ f.get 11 = .pointer (some ⟨s2.next + 1, 0, none⟩) ∧ f.get 80 = .slice (some ⟨b, off, none⟩) c.ss.length cq ∧ f.get 81 = .int .i64 c.ss.length ∧ f.get 82 = .int .i64 k ∧ f.get 13 = .pointer (some ⟨s6.next, 0, none⟩) ∧ Keep s6 s7 ∧ s7.next = s6.next + 1 ∧ s7.heap.get s6.next = some (.cells [.int .i64 x.week, .int .i64 x.val, .int .i64 x.off] none)) ?_ ?_
    · apply zz
      refine Cd.ra (h := ?_)
      apply Run.by_eq
      · intro self
        conv => lhs; simp -implicitDefEqProofs (maxSteps := 300000) (disch := omega) [-getElem?_pos, -getElem?_neg, g80, g82, hlt, ho, hcs, htk]
      try (with_reducible refine Run.ret ?_)
      apply zz
      exact ⟨rfl, by simp [hm], by simp [g2], by simp [g7], by simp [g9], by simp [g10], by simp [g11], by simp [g80], by simp [g81], by simp [g82], by simp, ⟨by (try simp only [pushed_next', upded_next']); omega, fun i hi => by simp -implicitDefEqProofs (disch := omega) []⟩, by simp, by simp -implicitDefEqProofs (disch := omega)⟩
    clear hm g2 g7 g9 g10 g11 g80 g81 g82
    rintro y f s7 ⟨rfl, hm, g2, g7, g9, g10, g11, g80, g81, g82, g13, k7, hn7, hX7⟩
    apply zz
    have hb7 := (k7.2 _ (by omega)).trans hb6
    have hf7 := (k7.2 _ (by omega)).trans hf6
    have hOb7 := hOb.keepK k7
    have hOf7 := hOf.keepK k7
    have k27 := k6.trans k7
    have hfb6 : ∀ i, bf = some i → i < s6.next := fun i e => (hOf.lt e).2
    have hbb6 : ∀ i, bb = some i → i < s6.next := fun i e => (hOb.lt e).2
    clear hOb hOf hb6 hf6
    by_cases hov2 : 30000 < t * x.val + d
    · apply zz
      refine Cd.ra (h := ?_)
      apply Run.by_eq
      · intro self
        conv => lhs; simp -implicitDefEqProofs (maxSteps := 300000) (disch := omega) [-getElem?_pos, -getElem?_neg, g2, g9, g13, hX7, hov2]
      try (with_reducible refine Run.ret ?_)
      apply zz
      apply Cd.ite rfl
      · conv => lhs; simp -implicitDefEqProofs (maxSteps := 300000) (disch := omega) [-getElem?_pos, -getElem?_neg]
      all_goals intro c2
      all_goals try (cases c2; done)
      all_goals try simp only [Bool.not_eq_true', Bool.not_eq_false', decide_eq_true_eq, decide_eq_false_iff_not] at c2
      all_goals apply zz
      apply zz
      refine Cd.ra (h := ?_)
      apply Run.by_eq
      · intro self
        conv => lhs; simp -implicitDefEqProofs (maxSteps := 300000) (disch := omega) [-getElem?_pos, -getElem?_neg]
      try (with_reducible refine Run.ret ?_)
      apply zz
      refine Run.call ((works_ev _).mono fun v wk hv => ?_)
      obtain ⟨rfl, hwk⟩ := hv
      apply Run.by_eq
      · intro self
        conv => lhs; simp -implicitDefEqProofs (maxSteps := 300000) (disch := omega) [-getElem?_pos, -getElem?_neg]
      try (with_reducible refine Run.ret ?_)
      apply zz
      apply Leave.mk (by first | exact .inl rfl | exact .inr rfl) (by simp only [Fr.marks_put, fr0_marks, hm])
      · conv => lhs; simp -implicitDefEqProofs (disch := omega) [Try.results11, hm]
      rfl
    apply zz
    refine Cd.ra (h := ?_)
    apply Run.by_eq
    · intro self
      conv => lhs; simp -implicitDefEqProofs (maxSteps := 300000) (disch := omega) [-getElem?_pos, -getElem?_neg, g2, g9, g13, hX7, hov2]
    try (with_reducible refine Run.ret ?_)
    apply zz
    apply Cd.ite rfl
    · conv => lhs; simp -implicitDefEqProofs (maxSteps := 300000) (disch := omega) [-getElem?_pos, -getElem?_neg]
    all_goals intro c2
    all_goals try (cases c2; done)
    all_goals try simp only [Bool.not_eq_true', Bool.not_eq_false', decide_eq_true_eq, decide_eq_false_iff_not] at c2
    all_goals apply zz
    have hlb : (((c.ss.take k).map (rvS c.n)).map SampD.cs).length = k := by simp; omega
    have hlf : (((c.ss.take k).map (afS t d)).map SampD.cs).length = k := by simp; omega
    have hrnb : ((c.ss.take (k + 1)).map (rvS c.n)).map SampD.cs = ((c.ss.take k).map (rvS c.n)).map SampD.cs ++ [[.int .i64 ((c.n : Int) - 1 - x.week), .int .i64 x.val, .int .i64 x.off]] := by
      rw [List.take_add_one, hx]; simp [rvS, SampD.cs]
    have hrnf : ((c.ss.take (k + 1)).map (afS t d)).map SampD.cs = ((c.ss.take k).map (afS t d)).map SampD.cs ++ [[.int .i64 x.week, .int .i64 (t * x.val + d), .int .i64 (t * x.off)]] := by
      rw [List.take_add_one, hx]; simp [afS, SampD.cs]
    have hval' : ∀ y ∈ c.ss.take (k + 1), t * y.val + d ≤ 30000 := fun y hy => by
      rw [List.take_add_one, hx] at hy
      rcases List.mem_append.1 hy with h | h
      · exact hval y h
      · have : y = x := by simpa using h
        subst this; omega
    -- far
    have kx7 : Keep s7 (s7.pushed (.cells [.int .i64 x.week, .int .i64 (t * x.val + d), .int .i64 (t * x.off)] none)) := (Keep.refl _).pushed _
    obtain ⟨s8, happ, hn8, hk8, hO8⟩ := app_b (n := 3) (b2 := s7.next) (x := [.int .i64 x.week, .int .i64 (t * x.val + d), .int .i64 (t * x.off)]) (g := none) (hOf7.keepK kx7) (samp_len _) rfl rfl (get_pushed_new _ _) (by simp only [pushed_next']; omega) (by omega)
    simp only [pushed_next', hlf] at happ hn8 hO8 hk8
    have hwf1 : oneV wf = true := SlAt.one (hOf7.g.sl (samp_len _))
    have hwfv : veq 5 wf wf = true := veq_sl (k := 4) (hOf7.g.sl (samp_len _))
    have hfN : ∀ i, i < s2.next + 2 → bf ≠ some i := fun i hi e => by have := hOf7.lt e; omega
    have z11 : s8.heap.get (s2.next + 1) = _ := (hk8 _ (by omega) (hfN _ (by omega))).trans ((kx7.2 _ (by omega)).trans hf7)
    have hk8' : ∀ i, i < s7.next → bf ≠ some i → s8.heap.get i = s7.heap.get i := fun i hi h => (hk8 i (by omega) h).trans (kx7.2 i hi)
    refine Cd.mono (Q := fun y f s9 => y = Ex.normal ∧ f.marks = [] ∧ f.get 2 = .int .u8 d ∧ f.get 7 = .pointer (some ⟨w1.next, 0, none⟩) ∧ f.get 9 = .int .i64 t ∧ f.get 10 = .pointer (some ⟨s2.next, 0, none⟩) ∧ f.get 11 = .pointer (some ⟨s2.next + 1, 0, none⟩) ∧ f.get 80 = .slice (some ⟨b, off, none⟩) c.ss.length cq ∧ f.get 81 = .int .i64 c.ss.length ∧ f.get 82 = .int .i64 k ∧ f.get 13 = .pointer (some ⟨s6.next, 0, none⟩) ∧ Keep s2 s9 ∧ s9.next = s7.next + 2 ∧ s9.heap.get s2.next = some (.cells [.int .i64 c.n, .int .i64 c.lo, .int .i64 c.hi, wb] none) ∧ s9.heap.get (s2.next + 1) = some (.cells [.int .i64 c.n, .int .i64 (t * c.lo + d), .int .i64 (t * c.hi + d), .slice (some ⟨s7.next + 1, 0, none⟩) (k + 1) (k + 1)] none) ∧ s9.heap.get s6.next = some (.cells [.int .i64 x.week, .int .i64 x.val, .int .i64 x.off] none) ∧ OwnB 3 (s2.next + 2) s9 wb (((c.ss.take k).map (rvS c.n)).map SampD.cs) bb ∧ OwnB 3 (s2.next + 2) s9 (.slice (some ⟨s7.next + 1, 0, none⟩) (k + 1) (k + 1)) (((c.ss.take (k + 1)).map (afS t d)).map SampD.cs) (some (s7.next + 1))) ?_ ?_
    · apply zz
      refine Cd.ra (h := ?_)
      apply Run.by_eq
      · intro self
        conv => lhs; simp -implicitDefEqProofs (maxSteps := 300000) (disch := omega) [-getElem?_pos, -getElem?_neg, g2, g9, g11, g13, hX7, hf7, happ, z11, hwf1, hwfv]
      try (with_reducible refine Run.ret ?_)
      apply zz
      refine ⟨rfl, by simp [hm], by simp [g2], by simp [g7], by simp [g9], by simp [g10], by simp [g11], by simp [g80], by simp [g81], by simp [g82], by simp [g13], ⟨by (try simp only [upded_next']); have := k6.1; omega, fun i hi => ?_⟩, by (try simp only [upded_next']); omega, ?_, get_upded_same _ _ _, ?_, ?_, ?_⟩
      · rw [get_upded_other _ _ _ _ (by omega), hk8' i (by have := k6.1; omega) (hfN i (by omega))]; exact k27.2 i hi
      · rw [get_upded_other _ _ _ _ (by omega), hk8' _ (by omega) (hfN _ (by omega))]; exact hb7
      · rw [get_upded_other _ _ _ _ (by omega), hk8' _ (by omega) (fun e => by have := hfb6 _ e; omega)]; exact hX7
      · refine hOb7.keep (by (try simp only [upded_next']); omega) fun i hi e => ?_
        have h1 := hOb7.lt e
        rw [get_upded_other _ _ _ _ (by omega)]; exact hk8' i hi (hbf i e)
      · rw [hrnf]
        refine hO8.keep (Nat.le_refl _) fun i hi e => ?_
        have := Option.some.inj e
        exact get_upded_other _ _ _ _ (by omega)
    clear hm g2 g7 g9 g10 g11 g80 g81 g82 g13 happ hO8 hk8 hk8' z11 hOb7 hOf7 hb7 hf7 hX7 kx7
    rintro y f s9 ⟨rfl, hm, g2, g7, g9, g10, g11, g80, g81, g82, g13, k9, hn9, hb9, hf9, hX9, hOb9, hOf9⟩
    apply zz
    have hP9 := (k9.2 _ hnx).trans hP
    have hbb9 : ∀ i, bb = some i → i ≠ s7.next + 1 := fun i e => by have := hbb6 i e; omega
    have kx9 : Keep s9 (s9.pushed (.cells [.int .i64 ((c.n : Int) - 1 - x.week), .int .i64 x.val, .int .i64 x.off] none)) := (Keep.refl _).pushed _
    obtain ⟨s10, happ, hn10, hk10, hO10⟩ := app_b (n := 3) (b2 := s9.next) (x := [.int .i64 ((c.n : Int) - 1 - x.week), .int .i64 x.val, .int .i64 x.off]) (g := none) (hOb9.keepK kx9) (samp_len _) rfl rfl (get_pushed_new _ _) (by simp only [pushed_next']; omega) (by omega)
    simp only [pushed_next', hlb] at happ hn10 hO10 hk10
    have hwb1 : oneV wb = true := SlAt.one (hOb9.g.sl (samp_len _))
    have hwbv : veq 5 wb wb = true := veq_sl (k := 4) (hOb9.g.sl (samp_len _))
    have hbN : ∀ i, i < s2.next + 2 → bb ≠ some i := fun i hi e => by have := hOb9.lt e; omega
    have z10 : s10.heap.get s2.next = _ := (hk10 _ (by omega) (hbN _ (by omega))).trans ((kx9.2 _ (by omega)).trans hb9)
    have hk10' : ∀ i, i < s9.next → bb ≠ some i → s10.heap.get i = s9.heap.get i := fun i hi h => (hk10 i (by omega) h).trans (kx9.2 i hi)
    apply zz
    refine Cd.ra (h := ?_)
    apply Run.by_eq
    · intro self
      conv => lhs; simp -implicitDefEqProofs (maxSteps := 300000) (disch := omega) [-getElem?_pos, -getElem?_neg, g7, g10, g13, hX9, hb9, hP9, happ, z10, hwb1, hwbv]
    try (with_reducible refine Run.ret ?_)
    apply zz
    refine Cd.ra (h := ?_)
    apply Run.by_eq
    · intro self
      conv => lhs; simp -implicitDefEqProofs (maxSteps := 300000) (disch := omega) [-getElem?_pos, -getElem?_neg, g82]
    try (with_reducible refine Run.ret ?_)
    apply zz
    refine LoopK.nm (c.ss.length - (k + 1)) (by omega) ⟨k + 1, .slice (some ⟨s9.next + 1, 0, none⟩) (k + 1) (k + 1), .slice (some ⟨s7.next + 1, 0, none⟩) (k + 1) (k + 1), some (s9.next + 1), some (s7.next + 1), by omega, rfl, by simp [hm], by simp [g2], by simp [g7], by simp [g9], by simp [g10], by simp [g11], by simp [g80], by simp [g81], by simp, ⟨by (try simp only [upded_next']); have := k9.1; omega, fun i hi => ?_⟩, by (try simp only [upded_next']); omega, get_upded_same _ _ _, ?_, ?_, ?_, fun i e1 e2 => ?_, hval'⟩
    · rw [get_upded_other _ _ _ _ (by omega), hk10' i (by have := k9.1; omega) (hbN i (by omega))]; exact k9.2 i hi
    · rw [get_upded_other _ _ _ _ (by omega), hk10' _ (by omega) (hbN _ (by omega))]; exact hf9
    · rw [hrnb]
      refine hO10.keep (Nat.le_refl _) fun i hi e => ?_
      have := Option.some.inj e
      exact get_upded_other _ _ _ _ (by omega)
    · refine hOf9.keep (by (try simp only [upded_next']); omega) fun i hi e => ?_
      have := Option.some.inj e
      rw [get_upded_other _ _ _ _ (by omega)]
      exact hk10' i hi fun e2 => hbb9 i e2 (by omega)
    · have h1 := Option.some.inj e1
      have h2 := Option.some.inj e2
      omega
  obtain rfl : k = c.ss.length := by omega
  clear hwk
  rw [List.take_length] at hOb hOf hval
  obtain ⟨hT1, hT2, hT3, hT4, hT5, hT6, hT7, hT8, hT9, hT10, hT11, hT12, hT13, hT14⟩ := crop_turn hc ht hd (by omega) hval
  have hQb : SmAt s6 wb (c.ss.map (rvS c.n)) := hOb.g.sl (samp_len _)
  have hQf : SmAt s6 wf (c.ss.map (afS t d)) := hOf.g.sl (samp_len _)
  clear hOb hOf hbf
  have hlb : (c.ss.map (rvS c.n)).length = c.ss.length := by simp
  have hlf : (c.ss.map (afS t d)).length = c.ss.length := by simp
  generalize c.ss.map (rvS c.n) = BS at *
  generalize c.ss.map (afS t d) = FS at *
  generalize hlo' : t * c.lo + d = LO' at *
  generalize hhi' : t * c.hi + d = HI' at *
  have hP6 := (k6.2 _ hnx).trans hP
  have hnx6 : w1.next < s6.next := by have := k6.1; omega
  have hQ6 := hQ2.keep k6
  apply zz
  refine Cd.ra (h := ?_)
  apply Run.by_eq
  · intro self
    conv => lhs; simp -implicitDefEqProofs (maxSteps := 300000) (disch := omega) [-getElem?_pos, -getElem?_neg, g81, g82]
  try (with_reducible refine Run.ret ?_)
  apply zz
  apply Cd.ite rfl
  · conv => lhs; simp -implicitDefEqProofs (maxSteps := 300000) (disch := omega) [-getElem?_pos, -getElem?_neg]
  all_goals intro c1
  all_goals try (cases c1; done)
  all_goals try simp only [Bool.not_eq_true', Bool.not_eq_false', decide_eq_true_eq, decide_eq_false_iff_not] at c1
  all_goals apply zz
  obtain ⟨ab, cb, rfl⟩ := hQb.shape
  obtain ⟨ar, cr, rfl⟩ := hQf.shape
  rw [List.length_map] at hQb hQf hb6 hf6
  have hnb6 : s2.next < s6.next := by omega
  have hnf6 : s2.next + 1 < s6.next := by omega
  have vqb : veq 4 (Value.slice ab BS.length cb) (Value.slice ab BS.length cb) = true := slAt_veq hQb 3
  have vqr : veq 4 (Value.slice ar FS.length cr) (Value.slice ar FS.length cr) = true := slAt_veq hQf 3
  have hknf := fun s' h => known_ev c.n (c.lo) (c.hi) (.slice aq c.ss.length cq) c.ss s' h (by omega)
  have hpkf := fun s' h => peaks_ev c.n (c.lo) (c.hi) (.slice aq c.ss.length cq) c.ss s' h (by omega)
  have hctf := fun s' h => cut_ev c.n (c.lo) (c.hi) (.slice aq c.ss.length cq) c.ss s' h (by omega)
  have hknb := fun s' h => known_ev c.n (c.lo) (c.hi) (.slice ab BS.length cb) BS s' h (by omega)
  have hpkb := fun s' h => peaks_ev c.n (c.lo) (c.hi) (.slice ab BS.length cb) BS s' h (by omega)
  have hctb := fun s' h => cut_ev c.n (c.lo) (c.hi) (.slice ab BS.length cb) BS s' h (by omega)
  have hknr := fun s' h => known_ev c.n (LO') (HI') (.slice ar FS.length cr) FS s' h (by omega)
  have hpkr := fun s' h => peaks_ev c.n (LO') (HI') (.slice ar FS.length cr) FS s' h (by omega)
  have hctr := fun s' h => cut_ev c.n (LO') (HI') (.slice ar FS.length cr) FS s' h (by omega)
  unfold fieldV at hknf hpkf hctf hknb hpkb hctb hknr hpkr hctr
  clear g80 g81 g82
  have hp1 := ((Keep.refl s6).2 _ hnx6).trans hP6
  refine Cd.mono (Q := fun x f s => x = Ex.normal ∧ f.marks = [] ∧ f.get 2 = .int .u8 d ∧ f.get 7 = .pointer (some ⟨w1.next, 0, none⟩) ∧ f.get 9 = .int .i64 t ∧ f.get 10 = .pointer (some ⟨s2.next, 0, none⟩) ∧ f.get 11 = .pointer (some ⟨s2.next + 1, 0, none⟩) ∧ Keep s6 s ∧ f.get 15 = .int .i64 0 ∧ ∃ kvf, f.get 14 = kvf ∧ SpAt s kvf (knownL c.n (c.lo) (c.hi) c.ss)) ?_ ?_
  · apply zz
    refine Cd.ra (h := ?_)
    apply Run.by_eq
    · intro self
      conv => lhs; simp -implicitDefEqProofs (maxSteps := 300000) (disch := omega) [-getElem?_pos, -getElem?_neg, g7, hp1, vq]
    try (with_reducible refine Run.ret ?_)
    apply zz
    refine Run.call ((hknf _ (hQ6.keep (Keep.refl s6))).mono fun v wx hv => ?_)
    obtain ⟨kx, kvf, e, rfl, hK⟩ := hv
    have hK2 : e = 0 ∧ SpAt wx kvf (knownL c.n (c.lo) (c.hi) c.ss) := by
      rcases hK with ⟨h, _⟩ | ⟨_, _, _, h⟩ | ⟨_, h, g, _⟩
      · exact absurd hSS h
      · exact absurd h hnc
      · refine ⟨h, ?_⟩
        simp only [Int.toNat_natCast] at g
        rw [knownL_rows] at g; exact g
    obtain ⟨rfl, hX⟩ := hK2
    have ho := SlAt.one hX
    apply Run.by_eq
    · intro self
      conv => lhs; simp -implicitDefEqProofs (maxSteps := 300000) (disch := omega) [-getElem?_pos, -getElem?_neg]
    try (with_reducible refine Run.ret ?_)
    apply zz
    exact ⟨rfl, by simp [hm], by simp [g2], by simp [g7], by simp [g9], by simp [g10], by simp [g11], (Keep.refl s6).trans kx, by simp, kvf, by simp, hX⟩
  clear hm g2 g7 g9 g10 g11 hp1
  rintro x f t1 ⟨rfl, hm, g2, g7, g9, g10, g11, kt1, g15, kvf, g14, hkvf⟩
  apply zz
  have hp2 := (kt1.2 _ hnb6).trans hb6
  refine Cd.mono (Q := fun x f s => x = Ex.normal ∧ f.marks = [] ∧ f.get 2 = .int .u8 d ∧ f.get 7 = .pointer (some ⟨w1.next, 0, none⟩) ∧ f.get 9 = .int .i64 t ∧ f.get 10 = .pointer (some ⟨s2.next, 0, none⟩) ∧ f.get 11 = .pointer (some ⟨s2.next + 1, 0, none⟩) ∧ f.get 15 = .int .i64 0 ∧ f.get 14 = kvf ∧ Keep s6 s ∧ SpAt s kvf (knownL c.n (c.lo) (c.hi) c.ss) ∧ f.get 17 = .int .i64 0 ∧ ∃ kvb, f.get 16 = kvb ∧ SpAt s kvb (knownL c.n (c.lo) (c.hi) BS)) ?_ ?_
  · apply zz
    refine Cd.ra (h := ?_)
    apply Run.by_eq
    · intro self
      conv => lhs; simp -implicitDefEqProofs (maxSteps := 300000) (disch := omega) [-getElem?_pos, -getElem?_neg, g10, hp2, vqb]
    try (with_reducible refine Run.ret ?_)
    apply zz
    refine Run.call ((hknb _ (hQb.keep kt1)).mono fun v wx hv => ?_)
    obtain ⟨kx, kvb, e, rfl, hK⟩ := hv
    have hK2 : e = 0 ∧ SpAt wx kvb (knownL c.n (c.lo) (c.hi) BS) := by
      rcases hK with ⟨h, _⟩ | ⟨_, _, _, h⟩ | ⟨_, h, g, _⟩
      · exact absurd hT1 h
      · exact absurd h hT2
      · refine ⟨h, ?_⟩
        simp only [Int.toNat_natCast] at g
        rw [knownL_rows] at g; exact g
    obtain ⟨rfl, hX⟩ := hK2
    have ho := SlAt.one hX
    apply Run.by_eq
    · intro self
      conv => lhs; simp -implicitDefEqProofs (maxSteps := 300000) (disch := omega) [-getElem?_pos, -getElem?_neg]
    try (with_reducible refine Run.ret ?_)
    apply zz
    exact ⟨rfl, by simp [hm], by simp [g2], by simp [g7], by simp [g9], by simp [g10], by simp [g11], by simp [g15], by simp [g14], kt1.trans kx, hkvf.keep kx, by simp, kvb, by simp, hX⟩
  clear hm g2 g7 g9 g10 g11 g15 g14 hkvf hp2 kt1
  rintro x f t2 ⟨rfl, hm, g2, g7, g9, g10, g11, g15, g14, kt2, hkvf, g17, kvb, g16, hkvb⟩
  apply zz
  have hp3 := (kt2.2 _ hnf6).trans hf6
  refine Cd.mono (Q := fun x f s => x = Ex.normal ∧ f.marks = [] ∧ f.get 2 = .int .u8 d ∧ f.get 7 = .pointer (some ⟨w1.next, 0, none⟩) ∧ f.get 9 = .int .i64 t ∧ f.get 10 = .pointer (some ⟨s2.next, 0, none⟩) ∧ f.get 11 = .pointer (some ⟨s2.next + 1, 0, none⟩) ∧ f.get 15 = .int .i64 0 ∧ f.get 14 = kvf ∧ f.get 17 = .int .i64 0 ∧ f.get 16 = kvb ∧ Keep s6 s ∧ SpAt s kvf (knownL c.n (c.lo) (c.hi) c.ss) ∧ SpAt s kvb (knownL c.n (c.lo) (c.hi) BS) ∧ f.get 19 = .int .i64 0 ∧ ∃ kvr, f.get 18 = kvr ∧ SpAt s kvr (knownL c.n (LO') (HI') FS)) ?_ ?_
  · apply zz
    refine Cd.ra (h := ?_)
    apply Run.by_eq
    · intro self
      conv => lhs; simp -implicitDefEqProofs (maxSteps := 300000) (disch := omega) [-getElem?_pos, -getElem?_neg, g11, hp3, vqr]
    try (with_reducible refine Run.ret ?_)
    apply zz
    refine Run.call ((hknr _ (hQf.keep kt2)).mono fun v wx hv => ?_)
    obtain ⟨kx, kvr, e, rfl, hK⟩ := hv
    have hK2 : e = 0 ∧ SpAt wx kvr (knownL c.n (LO') (HI') FS) := by
      rcases hK with ⟨h, _⟩ | ⟨_, _, _, h⟩ | ⟨_, h, g, _⟩
      · exact absurd hT3 h
      · exact absurd h hT4
      · refine ⟨h, ?_⟩
        simp only [Int.toNat_natCast] at g
        rw [knownL_rows] at g; exact g
    obtain ⟨rfl, hX⟩ := hK2
    have ho := SlAt.one hX
    apply Run.by_eq
    · intro self
      conv => lhs; simp -implicitDefEqProofs (maxSteps := 300000) (disch := omega) [-getElem?_pos, -getElem?_neg]
    try (with_reducible refine Run.ret ?_)
    apply zz
    exact ⟨rfl, by simp [hm], by simp [g2], by simp [g7], by simp [g9], by simp [g10], by simp [g11], by simp [g15], by simp [g14], by simp [g17], by simp [g16], kt2.trans kx, hkvf.keep kx, hkvb.keep kx, by simp, kvr, by simp, hX⟩
  clear hm g2 g7 g9 g10 g11 g15 g14 g17 g16 hkvf hkvb hp3 kt2
  rintro x f t3 ⟨rfl, hm, g2, g7, g9, g10, g11, g15, g14, g17, g16, kt3, hkvf, hkvb, g19, kvr, g18, hkvr⟩
  apply zz
  have hp4 := (kt3.2 _ hnx6).trans hP6
  refine Cd.mono (Q := fun x f s => x = Ex.normal ∧ f.marks = [] ∧ f.get 2 = .int .u8 d ∧ f.get 7 = .pointer (some ⟨w1.next, 0, none⟩) ∧ f.get 9 = .int .i64 t ∧ f.get 10 = .pointer (some ⟨s2.next, 0, none⟩) ∧ f.get 11 = .pointer (some ⟨s2.next + 1, 0, none⟩) ∧ f.get 15 = .int .i64 0 ∧ f.get 14 = kvf ∧ f.get 17 = .int .i64 0 ∧ f.get 16 = kvb ∧ f.get 19 = .int .i64 0 ∧ f.get 18 = kvr ∧ Keep s6 s ∧ SpAt s kvf (knownL c.n (c.lo) (c.hi) c.ss) ∧ SpAt s kvb (knownL c.n (c.lo) (c.hi) BS) ∧ SpAt s kvr (knownL c.n (LO') (HI') FS) ∧ f.get 21 = .int .i64 0 ∧ ∃ pvf, f.get 20 = pvf ∧ IntsAt s pvf (wkL c.n (fromB (UF c.n (c.lo) (c.hi) c.ss) (topF c.n (LF c.n (c.lo) (c.hi) c.ss))))) ?_ ?_
  · apply zz
    refine Cd.ra (h := ?_)
    apply Run.by_eq
    · intro self
      conv => lhs; simp -implicitDefEqProofs (maxSteps := 300000) (disch := omega) [-getElem?_pos, -getElem?_neg, g7, hp4, vq]
    try (with_reducible refine Run.ret ?_)
    apply zz
    refine Run.call ((hpkf _ (hQ6.keep kt3)).mono fun v wx hv => ?_)
    obtain ⟨kx, pvf, e, rfl, hK⟩ := hv
    obtain ⟨rfl, hX⟩ := (hK.mode hSS).2 hnc
    have ho := SlAt.one hX
    apply Run.by_eq
    · intro self
      conv => lhs; simp -implicitDefEqProofs (maxSteps := 300000) (disch := omega) [-getElem?_pos, -getElem?_neg]
    try (with_reducible refine Run.ret ?_)
    apply zz
    exact ⟨rfl, by simp [hm], by simp [g2], by simp [g7], by simp [g9], by simp [g10], by simp [g11], by simp [g15], by simp [g14], by simp [g17], by simp [g16], by simp [g19], by simp [g18], kt3.trans kx, hkvf.keep kx, hkvb.keep kx, hkvr.keep kx, by simp, pvf, by simp, hX⟩
  clear hm g2 g7 g9 g10 g11 g15 g14 g17 g16 g19 g18 hkvf hkvb hkvr hp4 kt3
  rintro x f t4 ⟨rfl, hm, g2, g7, g9, g10, g11, g15, g14, g17, g16, g19, g18, kt4, hkvf, hkvb, hkvr, g21, pvf, g20, hpvf⟩
  apply zz
  have hp5 := (kt4.2 _ hnb6).trans hb6
  refine Cd.mono (Q := fun x f s => x = Ex.normal ∧ f.marks = [] ∧ f.get 2 = .int .u8 d ∧ f.get 7 = .pointer (some ⟨w1.next, 0, none⟩) ∧ f.get 9 = .int .i64 t ∧ f.get 10 = .pointer (some ⟨s2.next, 0, none⟩) ∧ f.get 11 = .pointer (some ⟨s2.next + 1, 0, none⟩) ∧ f.get 15 = .int .i64 0 ∧ f.get 14 = kvf ∧ f.get 17 = .int .i64 0 ∧ f.get 16 = kvb ∧ f.get 19 = .int .i64 0 ∧ f.get 18 = kvr ∧ f.get 21 = .int .i64 0 ∧ f.get 20 = pvf ∧ Keep s6 s ∧ SpAt s kvf (knownL c.n (c.lo) (c.hi) c.ss) ∧ SpAt s kvb (knownL c.n (c.lo) (c.hi) BS) ∧ SpAt s kvr (knownL c.n (LO') (HI') FS) ∧ IntsAt s pvf (wkL c.n (fromB (UF c.n (c.lo) (c.hi) c.ss) (topF c.n (LF c.n (c.lo) (c.hi) c.ss)))) ∧ f.get 23 = .int .i64 0 ∧ ∃ pvb, f.get 22 = pvb ∧ IntsAt s pvb (wkL c.n (fromB (UF c.n (c.lo) (c.hi) BS) (topF c.n (LF c.n (c.lo) (c.hi) BS))))) ?_ ?_
  · apply zz
    refine Cd.ra (h := ?_)
    apply Run.by_eq
    · intro self
      conv => lhs; simp -implicitDefEqProofs (maxSteps := 300000) (disch := omega) [-getElem?_pos, -getElem?_neg, g10, hp5, vqb]
    try (with_reducible refine Run.ret ?_)
    apply zz
    refine Run.call ((hpkb _ (hQb.keep kt4)).mono fun v wx hv => ?_)
    obtain ⟨kx, pvb, e, rfl, hK⟩ := hv
    obtain ⟨rfl, hX⟩ := (hK.mode hT1).2 hT2
    have ho := SlAt.one hX
    apply Run.by_eq
    · intro self
      conv => lhs; simp -implicitDefEqProofs (maxSteps := 300000) (disch := omega) [-getElem?_pos, -getElem?_neg]
    try (with_reducible refine Run.ret ?_)
    apply zz
    exact ⟨rfl, by simp [hm], by simp [g2], by simp [g7], by simp [g9], by simp [g10], by simp [g11], by simp [g15], by simp [g14], by simp [g17], by simp [g16], by simp [g19], by simp [g18], by simp [g21], by simp [g20], kt4.trans kx, hkvf.keep kx, hkvb.keep kx, hkvr.keep kx, hpvf.keep kx, by simp, pvb, by simp, hX⟩
  clear hm g2 g7 g9 g10 g11 g15 g14 g17 g16 g19 g18 g21 g20 hkvf hkvb hkvr hpvf hp5 kt4
  rintro x f t5 ⟨rfl, hm, g2, g7, g9, g10, g11, g15, g14, g17, g16, g19, g18, g21, g20, kt5, hkvf, hkvb, hkvr, hpvf, g23, pvb, g22, hpvb⟩
  apply zz
  have hp6 := (kt5.2 _ hnf6).trans hf6
  refine Cd.mono (Q := fun x f s => x = Ex.normal ∧ f.marks = [] ∧ f.get 2 = .int .u8 d ∧ f.get 7 = .pointer (some ⟨w1.next, 0, none⟩) ∧ f.get 9 = .int .i64 t ∧ f.get 10 = .pointer (some ⟨s2.next, 0, none⟩) ∧ f.get 11 = .pointer (some ⟨s2.next + 1, 0, none⟩) ∧ f.get 15 = .int .i64 0 ∧ f.get 14 = kvf ∧ f.get 17 = .int .i64 0 ∧ f.get 16 = kvb ∧ f.get 19 = .int .i64 0 ∧ f.get 18 = kvr ∧ f.get 21 = .int .i64 0 ∧ f.get 20 = pvf ∧ f.get 23 = .int .i64 0 ∧ f.get 22 = pvb ∧ Keep s6 s ∧ SpAt s kvf (knownL c.n (c.lo) (c.hi) c.ss) ∧ SpAt s kvb (knownL c.n (c.lo) (c.hi) BS) ∧ SpAt s kvr (knownL c.n (LO') (HI') FS) ∧ IntsAt s pvf (wkL c.n (fromB (UF c.n (c.lo) (c.hi) c.ss) (topF c.n (LF c.n (c.lo) (c.hi) c.ss)))) ∧ IntsAt s pvb (wkL c.n (fromB (UF c.n (c.lo) (c.hi) BS) (topF c.n (LF c.n (c.lo) (c.hi) BS)))) ∧ f.get 25 = .int .i64 0 ∧ ∃ pvr, f.get 24 = pvr ∧ IntsAt s pvr (wkL c.n (fromB (UF c.n (LO') (HI') FS) (topF c.n (LF c.n (LO') (HI') FS))))) ?_ ?_
  · apply zz
    refine Cd.ra (h := ?_)
    apply Run.by_eq
    · intro self
      conv => lhs; simp -implicitDefEqProofs (maxSteps := 300000) (disch := omega) [-getElem?_pos, -getElem?_neg, g11, hp6, vqr]
    try (with_reducible refine Run.ret ?_)
    apply zz
    refine Run.call ((hpkr _ (hQf.keep kt5)).mono fun v wx hv => ?_)
    obtain ⟨kx, pvr, e, rfl, hK⟩ := hv
    obtain ⟨rfl, hX⟩ := (hK.mode hT3).2 hT4
    have ho := SlAt.one hX
    apply Run.by_eq
    · intro self
      conv => lhs; simp -implicitDefEqProofs (maxSteps := 300000) (disch := omega) [-getElem?_pos, -getElem?_neg]
    try (with_reducible refine Run.ret ?_)
    apply zz
    exact ⟨rfl, by simp [hm], by simp [g2], by simp [g7], by simp [g9], by simp [g10], by simp [g11], by simp [g15], by simp [g14], by simp [g17], by simp [g16], by simp [g19], by simp [g18], by simp [g21], by simp [g20], by simp [g23], by simp [g22], kt5.trans kx, hkvf.keep kx, hkvb.keep kx, hkvr.keep kx, hpvf.keep kx, hpvb.keep kx, by simp, pvr, by simp, hX⟩
  clear hm g2 g7 g9 g10 g11 g15 g14 g17 g16 g19 g18 g21 g20 g23 g22 hkvf hkvb hkvr hpvf hpvb hp6 kt5
  rintro x f t6 ⟨rfl, hm, g2, g7, g9, g10, g11, g15, g14, g17, g16, g19, g18, g21, g20, g23, g22, kt6, hkvf, hkvb, hkvr, hpvf, hpvb, g25, pvr, g24, hpvr⟩
  apply zz
  refine Cd.ra (h := ?_)
  apply Run.by_eq
  · intro self
    conv => lhs; simp -implicitDefEqProofs (maxSteps := 300000) (disch := omega) [-getElem?_pos, -getElem?_neg, g15, g17, g19]
  try (with_reducible refine Run.ret ?_)
  apply zz
  apply Cd.ite rfl
  · conv => lhs; simp -implicitDefEqProofs (maxSteps := 300000) (disch := omega) [-getElem?_pos, -getElem?_neg]
  all_goals intro c0
  all_goals try (cases c0; done)
  all_goals try simp only [Bool.not_eq_true', Bool.not_eq_false', decide_eq_true_eq, decide_eq_false_iff_not] at c0
  all_goals apply zz
  have hp7 := (kt6.2 _ hnx6).trans hP6
  refine Cd.mono (Q := fun x f s => x = Ex.normal ∧ f.marks = [] ∧ f.get 2 = .int .u8 d ∧ f.get 7 = .pointer (some ⟨w1.next, 0, none⟩) ∧ f.get 9 = .int .i64 t ∧ f.get 10 = .pointer (some ⟨s2.next, 0, none⟩) ∧ f.get 11 = .pointer (some ⟨s2.next + 1, 0, none⟩) ∧ f.get 14 = kvf ∧ f.get 16 = kvb ∧ f.get 18 = kvr ∧ f.get 20 = pvf ∧ f.get 22 = pvb ∧ f.get 24 = pvr ∧ f.get 26 = .int .i64 (bestI (RF c.n (c.lo) (c.hi) c.ss) (c.n - 1) : Nat) ∧ f.get 27 = .int .i64 (ceF ((RF c.n (c.lo) (c.hi) c.ss) (bestI (RF c.n (c.lo) (c.hi) c.ss) (c.n - 1)))) ∧ f.get 28 = .int .i64 0 ∧ Keep s6 s ∧ SpAt s kvf (knownL c.n (c.lo) (c.hi) c.ss) ∧ SpAt s kvb (knownL c.n (c.lo) (c.hi) BS) ∧ SpAt s kvr (knownL c.n (LO') (HI') FS) ∧ IntsAt s pvf (wkL c.n (fromB (UF c.n (c.lo) (c.hi) c.ss) (topF c.n (LF c.n (c.lo) (c.hi) c.ss)))) ∧ IntsAt s pvb (wkL c.n (fromB (UF c.n (c.lo) (c.hi) BS) (topF c.n (LF c.n (c.lo) (c.hi) BS)))) ∧ IntsAt s pvr (wkL c.n (fromB (UF c.n (LO') (HI') FS) (topF c.n (LF c.n (LO') (HI') FS))))) ?_ ?_
  · apply zz
    refine Cd.ra (h := ?_)
    apply Run.by_eq
    · intro self
      conv => lhs; simp -implicitDefEqProofs (maxSteps := 300000) (disch := omega) [-getElem?_pos, -getElem?_neg, g7, hp7, vq]
    try (with_reducible refine Run.ret ?_)
    apply zz
    refine Run.call ((hctf _ (hQ6.keep kt6)).mono fun v wx hv => ?_)
    obtain ⟨kx, y3, x3, e, rfl, hK⟩ := hv
    obtain ⟨rfl, hy3, hx3⟩ := (hK.mode hSS).2 hnc
    simp only [Int.toNat_natCast] at hy3 hx3
    subst hy3 hx3
    apply Run.by_eq
    · intro self
      conv => lhs; simp -implicitDefEqProofs (maxSteps := 300000) (disch := omega) [-getElem?_pos, -getElem?_neg]
    try (with_reducible refine Run.ret ?_)
    apply zz
    exact ⟨rfl, by simp [hm], by simp [g2], by simp [g7], by simp [g9], by simp [g10], by simp [g11], by simp [g14], by simp [g16], by simp [g18], by simp [g20], by simp [g22], by simp [g24], by simp, by simp, by simp, kt6.trans kx, hkvf.keep kx, hkvb.keep kx, hkvr.keep kx, hpvf.keep kx, hpvb.keep kx, hpvr.keep kx⟩
  clear hm g2 g7 g9 g10 g11 g14 g16 g18 g20 g22 g24 hkvf hkvb hkvr hpvf hpvb hpvr hp7 kt6
  rintro x f t7 ⟨rfl, hm, g2, g7, g9, g10, g11, g14, g16, g18, g20, g22, g24, g26, g27, g28, kt7, hkvf, hkvb, hkvr, hpvf, hpvb, hpvr⟩
  apply zz
  have hp8 := (kt7.2 _ hnb6).trans hb6
  refine Cd.mono (Q := fun x f s => x = Ex.normal ∧ f.marks = [] ∧ f.get 2 = .int .u8 d ∧ f.get 7 = .pointer (some ⟨w1.next, 0, none⟩) ∧ f.get 9 = .int .i64 t ∧ f.get 10 = .pointer (some ⟨s2.next, 0, none⟩) ∧ f.get 11 = .pointer (some ⟨s2.next + 1, 0, none⟩) ∧ f.get 14 = kvf ∧ f.get 16 = kvb ∧ f.get 18 = kvr ∧ f.get 20 = pvf ∧ f.get 22 = pvb ∧ f.get 24 = pvr ∧ f.get 26 = .int .i64 (bestI (RF c.n (c.lo) (c.hi) c.ss) (c.n - 1) : Nat) ∧ f.get 27 = .int .i64 (ceF ((RF c.n (c.lo) (c.hi) c.ss) (bestI (RF c.n (c.lo) (c.hi) c.ss) (c.n - 1)))) ∧ f.get 28 = .int .i64 0 ∧ f.get 29 = .int .i64 (bestI (RF c.n (c.lo) (c.hi) BS) (c.n - 1) : Nat) ∧ f.get 30 = .int .i64 (ceF ((RF c.n (c.lo) (c.hi) BS) (bestI (RF c.n (c.lo) (c.hi) BS) (c.n - 1)))) ∧ f.get 31 = .int .i64 0 ∧ Keep s6 s ∧ SpAt s kvf (knownL c.n (c.lo) (c.hi) c.ss) ∧ SpAt s kvb (knownL c.n (c.lo) (c.hi) BS) ∧ SpAt s kvr (knownL c.n (LO') (HI') FS) ∧ IntsAt s pvf (wkL c.n (fromB (UF c.n (c.lo) (c.hi) c.ss) (topF c.n (LF c.n (c.lo) (c.hi) c.ss)))) ∧ IntsAt s pvb (wkL c.n (fromB (UF c.n (c.lo) (c.hi) BS) (topF c.n (LF c.n (c.lo) (c.hi) BS)))) ∧ IntsAt s pvr (wkL c.n (fromB (UF c.n (LO') (HI') FS) (topF c.n (LF c.n (LO') (HI') FS))))) ?_ ?_
  · apply zz
    refine Cd.ra (h := ?_)
    apply Run.by_eq
    · intro self
      conv => lhs; simp -implicitDefEqProofs (maxSteps := 300000) (disch := omega) [-getElem?_pos, -getElem?_neg, g10, hp8, vqb]
    try (with_reducible refine Run.ret ?_)
    apply zz
    refine Run.call ((hctb _ (hQb.keep kt7)).mono fun v wx hv => ?_)
    obtain ⟨kx, y3, x3, e, rfl, hK⟩ := hv
    obtain ⟨rfl, hy3, hx3⟩ := (hK.mode hT1).2 hT2
    simp only [Int.toNat_natCast] at hy3 hx3
    subst hy3 hx3
    apply Run.by_eq
    · intro self
      conv => lhs; simp -implicitDefEqProofs (maxSteps := 300000) (disch := omega) [-getElem?_pos, -getElem?_neg]
    try (with_reducible refine Run.ret ?_)
    apply zz
    exact ⟨rfl, by simp [hm], by simp [g2], by simp [g7], by simp [g9], by simp [g10], by simp [g11], by simp [g14], by simp [g16], by simp [g18], by simp [g20], by simp [g22], by simp [g24], by simp [g26], by simp [g27], by simp [g28], by simp, by simp, by simp, kt7.trans kx, hkvf.keep kx, hkvb.keep kx, hkvr.keep kx, hpvf.keep kx, hpvb.keep kx, hpvr.keep kx⟩
  clear hm g2 g7 g9 g10 g11 g14 g16 g18 g20 g22 g24 g26 g27 g28 hkvf hkvb hkvr hpvf hpvb hpvr hp8 kt7
  rintro x f t8 ⟨rfl, hm, g2, g7, g9, g10, g11, g14, g16, g18, g20, g22, g24, g26, g27, g28, g29, g30, g31, kt8, hkvf, hkvb, hkvr, hpvf, hpvb, hpvr⟩
  apply zz
  have hp9 := (kt8.2 _ hnf6).trans hf6
  refine Cd.mono (Q := fun x f s => x = Ex.normal ∧ f.marks = [] ∧ f.get 2 = .int .u8 d ∧ f.get 7 = .pointer (some ⟨w1.next, 0, none⟩) ∧ f.get 9 = .int .i64 t ∧ f.get 10 = .pointer (some ⟨s2.next, 0, none⟩) ∧ f.get 11 = .pointer (some ⟨s2.next + 1, 0, none⟩) ∧ f.get 14 = kvf ∧ f.get 16 = kvb ∧ f.get 18 = kvr ∧ f.get 20 = pvf ∧ f.get 22 = pvb ∧ f.get 24 = pvr ∧ f.get 26 = .int .i64 (bestI (RF c.n (c.lo) (c.hi) c.ss) (c.n - 1) : Nat) ∧ f.get 27 = .int .i64 (ceF ((RF c.n (c.lo) (c.hi) c.ss) (bestI (RF c.n (c.lo) (c.hi) c.ss) (c.n - 1)))) ∧ f.get 28 = .int .i64 0 ∧ f.get 29 = .int .i64 (bestI (RF c.n (c.lo) (c.hi) BS) (c.n - 1) : Nat) ∧ f.get 30 = .int .i64 (ceF ((RF c.n (c.lo) (c.hi) BS) (bestI (RF c.n (c.lo) (c.hi) BS) (c.n - 1)))) ∧ f.get 31 = .int .i64 0 ∧ f.get 32 = .int .i64 (bestI (RF c.n (LO') (HI') FS) (c.n - 1) : Nat) ∧ f.get 33 = .int .i64 (ceF ((RF c.n (LO') (HI') FS) (bestI (RF c.n (LO') (HI') FS) (c.n - 1)))) ∧ f.get 34 = .int .i64 0 ∧ Keep s6 s ∧ SpAt s kvf (knownL c.n (c.lo) (c.hi) c.ss) ∧ SpAt s kvb (knownL c.n (c.lo) (c.hi) BS) ∧ SpAt s kvr (knownL c.n (LO') (HI') FS) ∧ IntsAt s pvf (wkL c.n (fromB (UF c.n (c.lo) (c.hi) c.ss) (topF c.n (LF c.n (c.lo) (c.hi) c.ss)))) ∧ IntsAt s pvb (wkL c.n (fromB (UF c.n (c.lo) (c.hi) BS) (topF c.n (LF c.n (c.lo) (c.hi) BS)))) ∧ IntsAt s pvr (wkL c.n (fromB (UF c.n (LO') (HI') FS) (topF c.n (LF c.n (LO') (HI') FS))))) ?_ ?_
  · apply zz
    refine Cd.ra (h := ?_)
    apply Run.by_eq
    · intro self
      conv => lhs; simp -implicitDefEqProofs (maxSteps := 300000) (disch := omega) [-getElem?_pos, -getElem?_neg, g11, hp9, vqr]
    try (with_reducible refine Run.ret ?_)
    apply zz
    refine Run.call ((hctr _ (hQf.keep kt8)).mono fun v wx hv => ?_)
    obtain ⟨kx, y3, x3, e, rfl, hK⟩ := hv
    obtain ⟨rfl, hy3, hx3⟩ := (hK.mode hT3).2 hT4
    simp only [Int.toNat_natCast] at hy3 hx3
    subst hy3 hx3
    apply Run.by_eq
    · intro self
      conv => lhs; simp -implicitDefEqProofs (maxSteps := 300000) (disch := omega) [-getElem?_pos, -getElem?_neg]
    try (with_reducible refine Run.ret ?_)
    apply zz
    exact ⟨rfl, by simp [hm], by simp [g2], by simp [g7], by simp [g9], by simp [g10], by simp [g11], by simp [g14], by simp [g16], by simp [g18], by simp [g20], by simp [g22], by simp [g24], by simp [g26], by simp [g27], by simp [g28], by simp [g29], by simp [g30], by simp [g31], by simp, by simp, by simp, kt8.trans kx, hkvf.keep kx, hkvb.keep kx, hkvr.keep kx, hpvf.keep kx, hpvb.keep kx, hpvr.keep kx⟩
  clear hm g2 g7 g9 g10 g11 g14 g16 g18 g20 g22 g24 g26 g27 g28 g29 g30 g31 hkvf hkvb hkvr hpvf hpvb hpvr hp9 kt8
  rintro x f t9 ⟨rfl, hm, g2, g7, g9, g10, g11, g14, g16, g18, g20, g22, g24, g26, g27, g28, g29, g30, g31, g32, g33, g34, kt9, hkvf, hkvb, hkvr, hpvf, hpvb, hpvr⟩
  apply zz
  have hl1 := wkL_len c.n (fromB (UF c.n (c.lo) (c.hi) c.ss) (topF c.n (LF c.n (c.lo) (c.hi) c.ss)))
  have hl2 := wkL_len c.n (fromB (UF c.n LO' HI' FS) (topF c.n (LF c.n LO' HI' FS)))
  have hKf : (knownL c.n c.lo c.hi c.ss).length = c.n := by simp [knownL]
  have hKb : (knownL c.n c.lo c.hi BS).length = c.n := by simp [knownL]
  have hKr : (knownL c.n LO' HI' FS).length = c.n := by simp [knownL]
  have hX := reg_bound hSS (bestI_lt (RF c.n c.lo c.hi c.ss) hn.1)
  obtain ⟨akf, ckf, rfl⟩ := hkvf.shape
  rw [List.length_map, hKf] at hkvf g14
  obtain ⟨akb, ckb, rfl⟩ := hkvb.shape
  rw [List.length_map, hKb] at hkvb g16
  obtain ⟨akr, ckr, rfl⟩ := hkvr.shape
  rw [List.length_map, hKr] at hkvr g18
  obtain ⟨apf, cpf, rfl⟩ := hpvf.shape
  rw [List.length_map] at hpvf g20
  obtain ⟨apb, cpb, rfl⟩ := hpvb.shape
  rw [List.length_map, hT8] at hpvb g22
  rw [hT10] at hpvr hl2
  rw [hT11] at g30
  rw [hT12] at g32 g33
  generalize hXe : ceF (RF c.n c.lo c.hi c.ss (bestI (RF c.n c.lo c.hi c.ss) (c.n - 1))) = X at *
  have htX : -583200000000 ≤ t * X ∧ t * X ≤ 583200000000 := by rcases ht with h | h <;> rw [h] <;> omega
  have htX1 : -583200000002 ≤ t * (X - 1) ∧ t * (X - 1) ≤ 583200000000 := by rcases ht with h | h <;> rw [h] <;> omega
  generalize hZe : ceF (RF c.n LO' HI' FS (bestI (RF c.n c.lo c.hi c.ss) (c.n - 1))) = Z at *
  generalize hPKe : wkL c.n (fromB (UF c.n c.lo c.hi c.ss) (topF c.n (LF c.n c.lo c.hi c.ss))) = PK at *
  generalize hBIe : bestI (RF c.n c.lo c.hi c.ss) (c.n - 1) = BI at *
  have hPt := (kt9.2 _ hnx6).trans hP6
  obtain ⟨apr, cpr, rfl⟩ := hpvr.shape
  rw [List.length_map] at hpvr g24
  have vp1 : veq 5 (Value.slice apf PK.length cpf) (Value.slice apf PK.length cpf) = true := slAt_veq hpvf 4
  have vp2 : veq 5 (Value.slice apr PK.length cpr) (Value.slice apr PK.length cpr) = true := slAt_veq hpvr 4
  have vp3 : veq 5 (Value.slice apb PK.length cpb) (Value.slice apb PK.length cpb) = true := slAt_veq hpvb 4
  have vk1 : veq 5 (Value.slice akf c.n ckf) (Value.slice akf c.n ckf) = true := slAt_veq hkvf 4
  have vk2 : veq 5 (Value.slice akb c.n ckb) (Value.slice akb c.n ckb) = true := slAt_veq hkvb 4
  have vk3 : veq 5 (Value.slice akr c.n ckr) (Value.slice akr c.n ckr) = true := slAt_veq hkvr 4
  have n1 : ¬ t * X < Z := by omega
  have n2 : ¬ Z ≤ t * (X - 1) := by omega
  refine Cd.mono (Q := fun x f s => x = Ex.normal ∧ f.marks = [] ∧ f.get 2 = .int .u8 d ∧ f.get 7 = .pointer (some ⟨w1.next, 0, none⟩) ∧ f.get 9 = .int .i64 t ∧ f.get 14 = .slice akf c.n ckf ∧ f.get 16 = .slice akb c.n ckb ∧ f.get 18 = .slice akr c.n ckr ∧ f.get 20 = .slice apf PK.length cpf ∧ f.get 22 = .slice apb PK.length cpb ∧ f.get 274 = .bool false ∧ Keep t9 s) ?_ ?_
  · apply zz
    refine Cd.ra (hd := by conv => lhs; simp only [List.append_eq, List.cons_append, List.nil_append, List.map_cons, List.map_nil]) (hl := by conv => lhs; simp only [List.append_eq, List.cons_append, List.nil_append, List.map_cons, List.map_nil, strip]) (h := ?_)
    apply Run.by_eq
    · intro self
      conv => lhs; simp -implicitDefEqProofs (maxSteps := 300000) (disch := omega) [-getElem?_pos, -getElem?_neg, g7, g9, g14, g16, g18, g20, g22, g24, g26, g27, g28, g30, g31, g32, g33, g34, hPt, vp1, vp2, vp3, vk1, vk2, vk3, n1, n2]
    try (with_reducible refine Run.ret ?_)
    apply zz
    refine Run.call ((numbers_ev _ _ PK PK _ hpvf hpvr (by omega) (by omega)).mono fun v wx hv => ?_)
    obtain ⟨rfl, kx⟩ := hv
    apply Run.by_eq
    · intro self
      conv => lhs; simp -implicitDefEqProofs (maxSteps := 300000) (disch := omega) [-getElem?_pos, -getElem?_neg, g9, g26, g27, g30, g32, g33, n1, n2]
    try (with_reducible refine Run.ret ?_)
    apply zz
    exact ⟨rfl, by simp [hm], by simp [g2], by simp [g7], by simp [g9], by simp [g14], by simp [g16], by simp [g18], by simp [g20], by simp [g22], by simp, kx⟩
  clear hm g2 g7 g9 g10 g11 g14 g16 g18 g20 g22 g24 g26 g27 g28 g29 g30 g31 g32 g33 g34 n1 n2
  rintro x f u0 ⟨rfl, hm, g2, g7, g9, g14, g16, g18, g20, g22, g274, ku0⟩
  apply zz
  apply Cd.ite rfl
  · conv => lhs; simp -implicitDefEqProofs (maxSteps := 300000) (disch := omega) [-getElem?_pos, -getElem?_neg, g274]
  all_goals intro c0
  all_goals try (cases c0; done)
  all_goals try simp only [Bool.not_eq_true', Bool.not_eq_false', decide_eq_true_eq, decide_eq_false_iff_not] at c0
  all_goals apply zz
  apply zz
  refine Cd.ra (h := ?_)
  apply Run.by_eq
  · intro self
    conv => lhs; simp -implicitDefEqProofs (maxSteps := 300000) (disch := omega) [-getElem?_pos, -getElem?_neg, g14]
  try (with_reducible refine Run.ret ?_)
  apply zz
  refine Cd.mono (Q := fun x f s => x = Ex.exit 2 ∧ f.marks = [] ∧ f.get 7 = .pointer (some ⟨w1.next, 0, none⟩) ∧ f.get 20 = .slice apf PK.length cpf ∧ f.get 22 = .slice apb PK.length cpb ∧ Keep u0 s) ?_ ?_
  · have tK := fun w (hw : w < c.n) => known_b hc hw
    have hKl : ∀ (lo hi : Int) (tt : List SampD) (w : Nat), w < c.n → (knownL c.n lo hi tt)[w]? = some (flF (lowF c.n (bndN c.n lo hi tt).1 w), ceF (upF c.n (bndN c.n lo hi tt).1 (bndN c.n lo hi tt).2 w)) := fun lo hi tt w hw => by
      unfold knownL; rw [List.getElem?_map, List.getElem?_range hw]; rfl
    have qf := hKl c.lo c.hi c.ss
    have qb := hKl c.lo c.hi BS
    have qr := hKl LO' HI' FS
    have kf0 := hkvf.keep ku0
    have kb0 := hkvb.keep ku0
    have kr0 := hkvr.keep ku0
    have hPu := ((kt9.trans ku0).2 _ hnx6).trans hP6
    have hnu : w1.next < u0.next := by have := kt9.1; have := ku0.1; omega
    generalize knownL c.n c.lo c.hi c.ss = K1 at *
    generalize knownL c.n c.lo c.hi BS = K2 at *
    generalize knownL c.n LO' HI' FS = K3 at *
    refine Cd.inv (fun z f s => ∃ w : Nat, w ≤ c.n ∧ z = c.n - w ∧ f.marks = [] ∧ f.get 2 = .int .u8 d ∧ f.get 7 = .pointer (some ⟨w1.next, 0, none⟩) ∧ f.get 9 = .int .i64 t ∧ f.get 14 = .slice akf c.n ckf ∧ f.get 16 = .slice akb c.n ckb ∧ f.get 18 = .slice akr c.n ckr ∧ f.get 20 = .slice apf PK.length cpf ∧ f.get 22 = .slice apb PK.length cpb ∧ f.get 276 = .int .i64 c.n ∧ f.get 277 = .int .i64 w ∧ Keep u0 s) c.n ?_ ?_
    · exact ⟨0, by omega, rfl, by simp [hm], by simp [g2], by simp [g7], by simp [g9], by simp [g14], by simp [g16], by simp [g18], by simp [g20], by simp [g22], by simp, by simp, Keep.refl _⟩
    clear hm g2 g7 g9 g14 g16 g18 g20 g22 g274
    rintro z f s ⟨w, hw, rfl, hm, g2, g7, g9, g14, g16, g18, g20, g22, g276, g277, ks⟩
    by_cases hlt : w < c.n
    · have hlt' : (w : Int) < c.n := by omega
      have hPs := (ks.2 _ hnu).trans hPu
      have f1 := qf w hlt
      have f2 := qb (c.n - 1 - w) (by omega)
      have f3 := qr w hlt
      have e5 := hT5 w hlt
      have e6 := hT6 w hlt
      have e7 := fun h => hT7 h w hlt
      have eb := tK w hlt
      rw [e5.1, e5.2] at f2
      obtain ⟨j, hj⟩ : ∃ j, c.n - 1 - w = j := ⟨_, rfl⟩
      rw [hj] at f2
      have hjl : j < c.n := by omega
      have hji : ((c.n : Nat) : Int) - 1 - w = (j : Nat) := by omega
      obtain ⟨b1, o1, ob1, cs1, gg1, rfl, hb1, ho1, hc1, ht1⟩ := SpAt.at (kf0.keep ks) f1
      obtain ⟨b2, o2, ob2, cs2, gg2, rfl, hb2, ho2, hc2, ht2⟩ := SpAt.at (kb0.keep ks) f2
      obtain ⟨b3, o3, ob3, cs3, gg3, rfl, hb3, ho3, hc3, ht3⟩ := SpAt.at (kr0.keep ks) f3
      simp only [] at ht1 ht2 ht3
      clear e5 f1 f2 f3 qf qb qr hT5 hT6 hT7 tK hKl
      generalize flF (lowF c.n (bndN c.n c.lo c.hi c.ss).1 w) = LO at *
      generalize ceF (upF c.n (bndN c.n c.lo c.hi c.ss).1 (bndN c.n c.lo c.hi c.ss).2 w) = HI at *
      generalize flF (lowF c.n (bndN c.n LO' HI' FS).1 w) = LR at *
      generalize ceF (upF c.n (bndN c.n LO' HI' FS).1 (bndN c.n LO' HI' FS).2 w) = HR at *
      have p10 := (takeL_part ht1).1
      have p11 := (takeL_part (takeL_part ht1).2).1
      have p30 := (takeL_part ht3).1
      have p31 := (takeL_part (takeL_part ht3).2).1
      have hEq := aggEq23 (a := LO) (b := HI) (c := LO) (d := HI) (by unfold In62; omega) (by unfold In62; omega) (by unfold In62; omega) (by unfold In62; omega)
      rw [show decide (LO = LO ∧ HI = HI) = true by simp] at hEq
      have m1 : 0 ≤ t * LO ∧ t * LO ≤ 60000 := by rcases ht with h | h <;> rw [h] <;> omega
      have m2 : 0 ≤ t * HI ∧ t * HI ≤ 120000 := by rcases ht with h | h <;> rw [h] <;> omega
      have c1 : ¬ LR < t * LO + d := by omega
      have c2 : ¬ t * HI + d < HR := by omega
      apply zz
      refine Cd.ra (h := ?_)
      apply Run.by_eq
      · intro self
        conv => lhs; simp -implicitDefEqProofs (maxSteps := 300000) (disch := omega) [-getElem?_pos, -getElem?_neg, g276, g277, hlt']
      try (with_reducible refine Run.ret ?_)
      apply zz
      apply Cd.ite rfl
      · conv => lhs; simp -implicitDefEqProofs (maxSteps := 300000) (disch := omega) [-getElem?_pos, -getElem?_neg]
      all_goals intro c0
      all_goals try (cases c0; done)
      all_goals try simp only [Bool.not_eq_true', Bool.not_eq_false', decide_eq_true_eq, decide_eq_false_iff_not] at c0
      all_goals apply zz
      apply zz
      refine Cd.ra (h := ?_)
      apply Run.by_eq
      · intro self
        conv => lhs; simp -implicitDefEqProofs (maxSteps := 300000) (disch := omega) [-getElem?_pos, -getElem?_neg, g277]
      try (with_reducible refine Run.ret ?_)
      apply zz
      by_cases h1 : t = 1
      · obtain ⟨rfl, rfl⟩ := e7 h1
        have hEq2 := aggEq23 (a := LO + d) (b := HI + d) (c := LO + d) (d := HI + d) (by unfold In62; omega) (by unfold In62; omega) (by unfold In62; omega) (by unfold In62; omega)
        rw [show decide (LO + d = LO + d ∧ HI + d = HI + d) = true by simp] at hEq2
        apply zz
        refine Cd.drawn (pl := [(0, 0, false, false), (1, 0, false, false), (2, 3, false, false), (3, 7, false, false), (4, 0, false, false), (5, 0, false, false), (6, 32, false, false), (7, 96, false, false), (8, 0, false, false), (9, 480, false, false), (10, 1008, false, false), (11, 2032, false, false), (12, 4095, false, false), (13, 8191, false, false), (14, 16383, false, false), (15, 16383, false, false), (16, 65535, false, false), (17, 131071, false, false), (18, 262143, false, false), (19, 16383, false, false), (20, 16383, false, false), (21, 16383, false, false), (22, 3162111, false, false), (23, 7356415, false, false), (24, 15745023, false, false), (25, 33046527, false, false), (26, 16383, false, false), (27, 67125247, false, false), (28, 267927551, false, false), (29, 536870911, false, false), (30, 1073741823, false, false), (31, 2147483647, false, false), (32, 4294967295, false, false), (33, 4294967295, false, false), (34, 17179869183, false, false), (35, 34359738367, false, false), (36, 68719476735, false, false), (37, 4294967295, false, false), (38, 4294967295, false, false), (39, 4294967295, false, false), (40, 828928688127, false, false), (41, 1928440315903, false, false), (42, 4127463571455, false, false), (43, 8662949036031, false, false), (44, 4294967295, false, false), (45, 17596481011711, false, false), (46, 70235600191487, false, false), (47, 140737488355327, false, false), (48, 281474976710655, false, false), (49, 562949953421311, false, false), (50, 1125899906842623, false, false), (51, 2251799813685247, false, false), (52, 4503599627370495, false, false), (53, 9007199254740991, false, false), (54, 9007199254740991, false, false), (55, 36028797018963967, false, false), (56, 72057594037927935, false, false), (57, 9007199254740991, false, false), (58, 9007199254740991, false, false), (59, 441352763482308607, false, false), (60, 1017813515785732095, false, false), (61, 2170735020392579071, false, false), (62, 9007199254740991, false, false), (63, 4620693217682128895, false, false), (64, 18311636084888436735, false, false), (65, 9007199254740991, false, false), (66, 9007199254740991, false, false), (67, 110689471641512050687, false, false), (68, 258263424231188463615, false, false), (69, 553411329410541289471, false, false), (70, 9007199254740991, false, false), (71, 1180600627916666044415, false, false), (72, 4685482001921480851455, false, false), (73, 9444597857750469312511, true, false), (74, 18889465931478580854783, false, false), (75, 37778931862957161709567, false, false), (76, 75557863725914323419135, false, false)]) (by kernel_rfl) (by conv => lhs; simp only [List.append_eq, List.cons_append, List.nil_append, List.map_cons, List.map_nil]) (by conv => lhs; simp [strip, ordered]) ?_
        apply Run.by_eq
        · intro self
          conv => lhs; simp -implicitDefEqProofs (maxSteps := 300000) (disch := omega) [filter_bt, (show Nat.testBit 9444597857750469312511 0 = true from rfl), (show Nat.testBit 9444597857750469312511 1 = true from rfl), (show Nat.testBit 9444597857750469312511 2 = true from rfl), (show Nat.testBit 9444597857750469312511 3 = true from rfl), (show Nat.testBit 9444597857750469312511 4 = true from rfl), (show Nat.testBit 9444597857750469312511 5 = true from rfl), (show Nat.testBit 9444597857750469312511 6 = true from rfl), (show Nat.testBit 9444597857750469312511 7 = true from rfl), (show Nat.testBit 9444597857750469312511 8 = true from rfl), (show Nat.testBit 9444597857750469312511 9 = true from rfl), (show Nat.testBit 9444597857750469312511 10 = true from rfl), (show Nat.testBit 9444597857750469312511 11 = true from rfl), (show Nat.testBit 9444597857750469312511 12 = true from rfl), (show Nat.testBit 9444597857750469312511 13 = true from rfl), (show Nat.testBit 9444597857750469312511 14 = true from rfl), (show Nat.testBit 9444597857750469312511 15 = true from rfl), (show Nat.testBit 9444597857750469312511 16 = true from rfl), (show Nat.testBit 9444597857750469312511 17 = true from rfl), (show Nat.testBit 9444597857750469312511 18 = true from rfl), (show Nat.testBit 9444597857750469312511 19 = true from rfl), (show Nat.testBit 9444597857750469312511 20 = true from rfl), (show Nat.testBit 9444597857750469312511 21 = true from rfl), (show Nat.testBit 9444597857750469312511 22 = true from rfl), (show Nat.testBit 9444597857750469312511 23 = true from rfl), (show Nat.testBit 9444597857750469312511 24 = true from rfl), (show Nat.testBit 9444597857750469312511 25 = true from rfl), (show Nat.testBit 9444597857750469312511 26 = true from rfl), (show Nat.testBit 9444597857750469312511 27 = true from rfl), (show Nat.testBit 9444597857750469312511 28 = true from rfl), (show Nat.testBit 9444597857750469312511 29 = true from rfl), (show Nat.testBit 9444597857750469312511 30 = true from rfl), (show Nat.testBit 9444597857750469312511 31 = true from rfl), (show Nat.testBit 9444597857750469312511 32 = true from rfl), (show Nat.testBit 9444597857750469312511 33 = true from rfl), (show Nat.testBit 9444597857750469312511 34 = true from rfl), (show Nat.testBit 9444597857750469312511 35 = true from rfl), (show Nat.testBit 9444597857750469312511 36 = true from rfl), (show Nat.testBit 9444597857750469312511 37 = true from rfl), (show Nat.testBit 9444597857750469312511 38 = true from rfl), (show Nat.testBit 9444597857750469312511 39 = true from rfl), (show Nat.testBit 9444597857750469312511 40 = true from rfl), (show Nat.testBit 9444597857750469312511 41 = true from rfl), (show Nat.testBit 9444597857750469312511 42 = true from rfl), (show Nat.testBit 9444597857750469312511 43 = true from rfl), (show Nat.testBit 9444597857750469312511 44 = true from rfl), (show Nat.testBit 9444597857750469312511 45 = true from rfl), (show Nat.testBit 9444597857750469312511 46 = true from rfl), (show Nat.testBit 9444597857750469312511 47 = true from rfl), (show Nat.testBit 9444597857750469312511 48 = true from rfl), (show Nat.testBit 9444597857750469312511 49 = true from rfl), (show Nat.testBit 9444597857750469312511 50 = true from rfl), (show Nat.testBit 9444597857750469312511 51 = true from rfl), (show Nat.testBit 9444597857750469312511 52 = true from rfl), (show Nat.testBit 9444597857750469312511 53 = false from rfl), (show Nat.testBit 9444597857750469312511 54 = false from rfl), (show Nat.testBit 9444597857750469312511 55 = false from rfl), (show Nat.testBit 9444597857750469312511 56 = false from rfl), (show Nat.testBit 9444597857750469312511 57 = true from rfl), (show Nat.testBit 9444597857750469312511 58 = true from rfl), (show Nat.testBit 9444597857750469312511 59 = true from rfl), (show Nat.testBit 9444597857750469312511 60 = true from rfl), (show Nat.testBit 9444597857750469312511 61 = true from rfl), (show Nat.testBit 9444597857750469312511 62 = true from rfl), (show Nat.testBit 9444597857750469312511 63 = true from rfl), (show Nat.testBit 9444597857750469312511 64 = true from rfl), (show Nat.testBit 9444597857750469312511 65 = true from rfl), (show Nat.testBit 9444597857750469312511 66 = true from rfl), (show Nat.testBit 9444597857750469312511 67 = true from rfl), (show Nat.testBit 9444597857750469312511 68 = true from rfl), (show Nat.testBit 9444597857750469312511 69 = true from rfl), (show Nat.testBit 9444597857750469312511 70 = true from rfl), (show Nat.testBit 9444597857750469312511 71 = true from rfl), (show Nat.testBit 9444597857750469312511 72 = true from rfl), -getElem?_pos, -getElem?_neg, g2, g7, g9, g14, g16, g18, g277, hPs, hlt, hjl, hji, ho1, hc1, ht1, p10, p11, ho2, hc2, ht2, ho3, hc3, ht3, p30, p31, hEq, hEq2, c1, c2, h1, vk1, vk2, vk3]
        try (with_reducible refine Run.ret ?_)
        apply zz
        refine Run.call ((span_ev (LO + d) (HI + d) _).mono fun v wx hv => ?_)
        obtain ⟨rfl, kx⟩ := hv
        have ho1x := (kx.2 _ hb1).trans ho1
        have ho2x := (kx.2 _ hb2).trans ho2
        have ho3x := (kx.2 _ hb3).trans ho3
        have hPx := (kx.2 _ (by have := ks.1; omega)).trans hPs
        apply Run.by_eq
        · intro self
          conv => lhs; simp -implicitDefEqProofs (maxSteps := 300000) (disch := omega) [-getElem?_pos, -getElem?_neg, hEq, hEq2, ho1x, ho2x, ho3x, hPx, g2, g7, g9, g14, g16, g18, g277, hlt, hjl, hji, hc1, ht1, p10, p11, hc2, ht2, hc3, ht3, p30, p31, c1, c2, h1, vk1, vk2, vk3]
        try (with_reducible refine Run.ret ?_)
        apply zz
        apply Cd.ite rfl
        · conv => lhs; simp -implicitDefEqProofs (maxSteps := 300000) (disch := omega) [-getElem?_pos, -getElem?_neg]
        all_goals intro c3
        all_goals try (cases c3; done)
        all_goals try simp only [Bool.not_eq_true', Bool.not_eq_false', decide_eq_true_eq, decide_eq_false_iff_not] at c3
        all_goals apply zz
        apply zz
        refine Cd.ra (h := ?_)
        apply Run.by_eq
        · intro self
          conv => lhs; simp -implicitDefEqProofs (maxSteps := 300000) (disch := omega) [-getElem?_pos, -getElem?_neg, g277]
        try (with_reducible refine Run.ret ?_)
        apply zz
        exact LoopK.nm (c.n - (w + 1)) (by omega) ⟨w + 1, by omega, rfl, by simp [hm], by simp [g2], by simp [g7], by simp [g9], by simp [g14], by simp [g16], by simp [g18], by simp [g20], by simp [g22], by simp [g276], by simp, ks.trans kx⟩
      · apply zz
        refine Cd.drawn (pl := [(0, 0, false, false), (1, 0, false, false), (2, 3, false, false), (3, 7, false, false), (4, 0, false, false), (5, 0, false, false), (6, 32, false, false), (7, 96, false, false), (8, 0, false, false), (9, 480, false, false), (10, 1008, false, false), (11, 2032, false, false), (12, 4095, false, false), (13, 8191, false, false), (14, 16383, false, false), (15, 16383, false, false), (16, 65535, false, false), (17, 131071, false, false), (18, 262143, false, false), (19, 16383, false, false), (20, 16383, false, false), (21, 16383, false, false), (22, 3162111, false, false), (23, 7356415, false, false), (24, 15745023, false, false), (25, 33046527, false, false), (26, 16383, false, false), (27, 67125247, false, false), (28, 267927551, false, false), (29, 536870911, false, false), (30, 1073741823, false, false), (31, 2147483647, false, false), (32, 4294967295, false, false), (33, 4294967295, false, false), (34, 17179869183, false, false), (35, 34359738367, false, false), (36, 68719476735, false, false), (37, 4294967295, false, false), (38, 4294967295, false, false), (39, 4294967295, false, false), (40, 828928688127, false, false), (41, 1928440315903, false, false), (42, 4127463571455, false, false), (43, 8662949036031, false, false), (44, 4294967295, false, false), (45, 17596481011711, false, false), (46, 70235600191487, false, false), (47, 140737488355327, false, false), (48, 281474976710655, false, false), (49, 562949953421311, false, false), (50, 1125899906842623, false, false), (51, 2251799813685247, false, false), (52, 4503599627370495, false, false), (53, 9007199254740991, false, false), (54, 9007199254740991, false, false), (55, 36028797018963967, false, false), (56, 72057594037927935, false, false), (57, 9007199254740991, false, false), (58, 9007199254740991, false, false), (59, 441352763482308607, false, false), (60, 1017813515785732095, false, false), (61, 2170735020392579071, false, false), (62, 9007199254740991, false, false), (63, 4620693217682128895, false, false), (64, 18311636084888436735, false, false), (65, 9007199254740991, false, false), (66, 9007199254740991, false, false), (67, 110689471641512050687, false, false), (68, 258263424231188463615, false, false), (69, 553411329410541289471, false, false), (70, 9007199254740991, false, false), (71, 1180600627916666044415, false, false), (72, 4685482001921480851455, false, false), (73, 9444597857750469312511, true, false), (74, 18889465931478580854783, false, false), (75, 37778931862957161709567, false, false), (76, 75557863725914323419135, false, false)]) (by kernel_rfl) (by conv => lhs; simp only [List.append_eq, List.cons_append, List.nil_append, List.map_cons, List.map_nil]) (by conv => lhs; simp [strip, ordered]) ?_
        apply Run.by_eq
        · intro self
          conv => lhs; simp -implicitDefEqProofs (maxSteps := 300000) (disch := omega) [filter_bt, (show Nat.testBit 9444597857750469312511 0 = true from rfl), (show Nat.testBit 9444597857750469312511 1 = true from rfl), (show Nat.testBit 9444597857750469312511 2 = true from rfl), (show Nat.testBit 9444597857750469312511 3 = true from rfl), (show Nat.testBit 9444597857750469312511 4 = true from rfl), (show Nat.testBit 9444597857750469312511 5 = true from rfl), (show Nat.testBit 9444597857750469312511 6 = true from rfl), (show Nat.testBit 9444597857750469312511 7 = true from rfl), (show Nat.testBit 9444597857750469312511 8 = true from rfl), (show Nat.testBit 9444597857750469312511 9 = true from rfl), (show Nat.testBit 9444597857750469312511 10 = true from rfl), (show Nat.testBit 9444597857750469312511 11 = true from rfl), (show Nat.testBit 9444597857750469312511 12 = true from rfl), (show Nat.testBit 9444597857750469312511 13 = true from rfl), (show Nat.testBit 9444597857750469312511 14 = true from rfl), (show Nat.testBit 9444597857750469312511 15 = true from rfl), (show Nat.testBit 9444597857750469312511 16 = true from rfl), (show Nat.testBit 9444597857750469312511 17 = true from rfl), (show Nat.testBit 9444597857750469312511 18 = true from rfl), (show Nat.testBit 9444597857750469312511 19 = true from rfl), (show Nat.testBit 9444597857750469312511 20 = true from rfl), (show Nat.testBit 9444597857750469312511 21 = true from rfl), (show Nat.testBit 9444597857750469312511 22 = true from rfl), (show Nat.testBit 9444597857750469312511 23 = true from rfl), (show Nat.testBit 9444597857750469312511 24 = true from rfl), (show Nat.testBit 9444597857750469312511 25 = true from rfl), (show Nat.testBit 9444597857750469312511 26 = true from rfl), (show Nat.testBit 9444597857750469312511 27 = true from rfl), (show Nat.testBit 9444597857750469312511 28 = true from rfl), (show Nat.testBit 9444597857750469312511 29 = true from rfl), (show Nat.testBit 9444597857750469312511 30 = true from rfl), (show Nat.testBit 9444597857750469312511 31 = true from rfl), (show Nat.testBit 9444597857750469312511 32 = true from rfl), (show Nat.testBit 9444597857750469312511 33 = true from rfl), (show Nat.testBit 9444597857750469312511 34 = true from rfl), (show Nat.testBit 9444597857750469312511 35 = true from rfl), (show Nat.testBit 9444597857750469312511 36 = true from rfl), (show Nat.testBit 9444597857750469312511 37 = true from rfl), (show Nat.testBit 9444597857750469312511 38 = true from rfl), (show Nat.testBit 9444597857750469312511 39 = true from rfl), (show Nat.testBit 9444597857750469312511 40 = true from rfl), (show Nat.testBit 9444597857750469312511 41 = true from rfl), (show Nat.testBit 9444597857750469312511 42 = true from rfl), (show Nat.testBit 9444597857750469312511 43 = true from rfl), (show Nat.testBit 9444597857750469312511 44 = true from rfl), (show Nat.testBit 9444597857750469312511 45 = true from rfl), (show Nat.testBit 9444597857750469312511 46 = true from rfl), (show Nat.testBit 9444597857750469312511 47 = true from rfl), (show Nat.testBit 9444597857750469312511 48 = true from rfl), (show Nat.testBit 9444597857750469312511 49 = true from rfl), (show Nat.testBit 9444597857750469312511 50 = true from rfl), (show Nat.testBit 9444597857750469312511 51 = true from rfl), (show Nat.testBit 9444597857750469312511 52 = true from rfl), (show Nat.testBit 9444597857750469312511 53 = false from rfl), (show Nat.testBit 9444597857750469312511 54 = false from rfl), (show Nat.testBit 9444597857750469312511 55 = false from rfl), (show Nat.testBit 9444597857750469312511 56 = false from rfl), (show Nat.testBit 9444597857750469312511 57 = true from rfl), (show Nat.testBit 9444597857750469312511 58 = true from rfl), (show Nat.testBit 9444597857750469312511 59 = true from rfl), (show Nat.testBit 9444597857750469312511 60 = true from rfl), (show Nat.testBit 9444597857750469312511 61 = true from rfl), (show Nat.testBit 9444597857750469312511 62 = true from rfl), (show Nat.testBit 9444597857750469312511 63 = true from rfl), (show Nat.testBit 9444597857750469312511 64 = true from rfl), (show Nat.testBit 9444597857750469312511 65 = true from rfl), (show Nat.testBit 9444597857750469312511 66 = true from rfl), (show Nat.testBit 9444597857750469312511 67 = true from rfl), (show Nat.testBit 9444597857750469312511 68 = true from rfl), (show Nat.testBit 9444597857750469312511 69 = true from rfl), (show Nat.testBit 9444597857750469312511 70 = true from rfl), (show Nat.testBit 9444597857750469312511 71 = true from rfl), (show Nat.testBit 9444597857750469312511 72 = true from rfl), -getElem?_pos, -getElem?_neg, g2, g7, g9, g14, g16, g18, g277, hPs, hlt, hjl, hji, ho1, hc1, ht1, p10, p11, ho2, hc2, ht2, ho3, hc3, ht3, p30, p31, hEq, c1, c2, h1, vk1, vk2, vk3]
        try (with_reducible refine Run.ret ?_)
        apply zz
        apply Cd.ite rfl
        · conv => lhs; simp -implicitDefEqProofs (maxSteps := 300000) (disch := omega) [-getElem?_pos, -getElem?_neg]
        all_goals intro c3
        all_goals try (cases c3; done)
        all_goals try simp only [Bool.not_eq_true', Bool.not_eq_false', decide_eq_true_eq, decide_eq_false_iff_not] at c3
        all_goals apply zz
        apply zz
        refine Cd.ra (h := ?_)
        apply Run.by_eq
        · intro self
          conv => lhs; simp -implicitDefEqProofs (maxSteps := 300000) (disch := omega) [-getElem?_pos, -getElem?_neg, g277]
        try (with_reducible refine Run.ret ?_)
        apply zz
        exact LoopK.nm (c.n - (w + 1)) (by omega) ⟨w + 1, by omega, rfl, by simp [hm], by simp [g2], by simp [g7], by simp [g9], by simp [g14], by simp [g16], by simp [g18], by simp [g20], by simp [g22], by simp [g276], by simp, ks⟩
    · obtain rfl : w = c.n := by omega
      apply zz
      refine Cd.ra (h := ?_)
      apply Run.by_eq
      · intro self
        conv => lhs; simp -implicitDefEqProofs (maxSteps := 300000) (disch := omega) [-getElem?_pos, -getElem?_neg, g276, g277]
      try (with_reducible refine Run.ret ?_)
      apply zz
      apply Cd.ite rfl
      · conv => lhs; simp -implicitDefEqProofs (maxSteps := 300000) (disch := omega) [-getElem?_pos, -getElem?_neg]
      all_goals intro c0
      all_goals try (cases c0; done)
      all_goals try simp only [Bool.not_eq_true', Bool.not_eq_false', decide_eq_true_eq, decide_eq_false_iff_not] at c0
      all_goals apply zz
      exact ⟨rfl, by simp [hm], by simp [g7], by simp [g20], by simp [g22], ks⟩
  clear hm g2 g7 g9 g14 g16 g18 g20 g22 g274
  rintro x f u1 ⟨rfl, hm, g7, g20, g22, ku1⟩
  apply zz
  have hpf1 := hpvf.keep (ku0.trans ku1)
  have hpb1 := hpvb.keep (ku0.trans ku1)
  have hPu := ((kt9.trans (ku0.trans ku1)).2 _ hnx6).trans hP6
  apply zz
  refine Cd.ra (h := ?_)
  apply Run.by_eq
  · intro self
    conv => lhs; simp -implicitDefEqProofs (maxSteps := 300000) (disch := omega) [-getElem?_pos, -getElem?_neg, g20]
  try (with_reducible refine Run.ret ?_)
  apply zz
  refine Cd.mono (Q := fun x f s => x = Ex.exit 4 ∧ f.marks = []) (Cd.inv (fun z f s => ∃ k : Nat, k ≤ PK.length ∧ z = PK.length - k ∧ f.marks = [] ∧ f.get 7 = .pointer (some ⟨w1.next, 0, none⟩) ∧ f.get 22 = .slice apb PK.length cpb ∧ f.get 358 = .slice apf PK.length cpf ∧ f.get 359 = .int .i64 PK.length ∧ f.get 360 = .int .i64 k ∧ s = u1) PK.length ?_ ?_) ?_
  · exact ⟨0, by omega, rfl, by simp [hm], by simp [g7], by simp [g22], by simp, by simp, by simp, rfl⟩
  · clear hm g7 g20 g22
    rintro z f u2 ⟨k, hk, rfl, hm, g7, g22, g358, g359, g360, rfl⟩
    by_cases hlt : k < PK.length
    · have hlt' : (k : Int) < PK.length := by omega
      obtain ⟨x, hx⟩ : ∃ x, PK[k]? = some x := ⟨PK[k], by simp [hlt]⟩
      have hxb := wkL_elem (hPKe ▸ List.mem_of_getElem? hx)
      have hy := hT9 k x hx
      obtain ⟨j, hj⟩ : ∃ j, PK.length - 1 - k = j := ⟨_, rfl⟩
      rw [hj] at hy
      have hjl : j < PK.length := by omega
      have hji : ((PK.length : Nat) : Int) - 1 - k = (j : Nat) := by omega
      obtain ⟨b, off, o, cs, gg, rfl, hb, ho, hcs, htx⟩ := IntsAt.at hpf1 hx
      obtain ⟨b', off', o', cs', gg', rfl, hb', ho', hcs', hty⟩ := IntsAt.at hpb1 hy
      apply zz
      refine Cd.ra (h := ?_)
      apply Run.by_eq
      · intro self
        conv => lhs; simp -implicitDefEqProofs (maxSteps := 300000) (disch := omega) [-getElem?_pos, -getElem?_neg, g359, g360, hlt']
      try (with_reducible refine Run.ret ?_)
      apply zz
      apply Cd.ite rfl
      · conv => lhs; simp -implicitDefEqProofs (maxSteps := 300000) (disch := omega) [-getElem?_pos, -getElem?_neg]
      all_goals intro c1
      all_goals try (cases c1; done)
      all_goals try simp only [Bool.not_eq_true', Bool.not_eq_false', decide_eq_true_eq, decide_eq_false_iff_not] at c1
      all_goals apply zz
      apply zz
      refine Cd.ra (h := ?_)
      apply Run.by_eq
      · intro self
        conv => lhs; simp -implicitDefEqProofs (maxSteps := 300000) (disch := omega) [-getElem?_pos, -getElem?_neg, g358, g360, hlt, ho, hcs, htx]
      try (with_reducible refine Run.ret ?_)
      apply zz
      refine Cd.drawnH (pl := [(0, 0, false, false), (1, 0, false, false), (2, 2, false, false), (3, 6, false, false), (4, 0, false, false), (5, 30, false, false), (6, 63, false, false), (7, 127, false, false), (8, 0, false, false), (9, 256, false, false), (10, 768, false, false), (11, 0, false, false), (12, 3840, false, false), (13, 8191, false, false)]) [false, false, false, false, false, false, false, false, false, false, false, false, false, false] (by kernel_rfl) (by decide) (by decide) (by conv => lhs; simp only [List.append_eq, List.cons_append, List.nil_append, List.map_cons, List.map_nil]) (by conv => lhs; simp [strip, orderedG, flagH]) ?_
      apply Run.by_eq
      · intro self
        conv => lhs; simp -implicitDefEqProofs (maxSteps := 300000) (disch := omega) [-getElem?_pos, -getElem?_neg, g7, g22, hPu, hji, hjl, ho', hcs', hty]
      try (with_reducible refine Run.ret ?_)
      apply zz
      apply Cd.ite rfl
      · conv => lhs; simp -implicitDefEqProofs (maxSteps := 300000) (disch := omega) [-getElem?_pos, -getElem?_neg]
      all_goals intro c2
      all_goals try (cases c2; done)
      all_goals try simp only [Bool.not_eq_true', Bool.not_eq_false', decide_eq_true_eq, decide_eq_false_iff_not] at c2
      all_goals apply zz
      apply zz
      refine Cd.ra (h := ?_)
      apply Run.by_eq
      · intro self
        conv => lhs; simp -implicitDefEqProofs (maxSteps := 300000) (disch := omega) [-getElem?_pos, -getElem?_neg, g360]
      try (with_reducible refine Run.ret ?_)
      apply zz
      exact LoopK.nm (PK.length - (k + 1)) (by omega) ⟨k + 1, by omega, rfl, by simp [hm], by simp [g7], by simp [g22], by simp [g358], by simp [g359], by simp, rfl⟩
    · obtain rfl : k = PK.length := by omega
      apply zz
      refine Cd.ra (h := ?_)
      apply Run.by_eq
      · intro self
        conv => lhs; simp -implicitDefEqProofs (maxSteps := 300000) (disch := omega) [-getElem?_pos, -getElem?_neg, g359, g360]
      try (with_reducible refine Run.ret ?_)
      apply zz
      apply Cd.ite rfl
      · conv => lhs; simp -implicitDefEqProofs (maxSteps := 300000) (disch := omega) [-getElem?_pos, -getElem?_neg]
      all_goals intro c1
      all_goals try (cases c1; done)
      all_goals try simp only [Bool.not_eq_true', Bool.not_eq_false', decide_eq_true_eq, decide_eq_false_iff_not] at c1
      all_goals apply zz
      exact ⟨rfl, by simp [hm]⟩
  clear hm g7 g20 g22
  rintro x f u2 ⟨rfl, hm⟩
  apply zz
  refine Cd.ra (h := ?_)
  apply Run.by_eq
  · intro self
    conv => lhs; simp -implicitDefEqProofs (maxSteps := 300000) (disch := omega) [-getElem?_pos, -getElem?_neg]
  try (with_reducible refine Run.ret ?_)
  apply zz
  refine Run.call ((works_ev _).mono fun v wk hv => ?_)
  obtain ⟨rfl, hwk⟩ := hv
  apply Run.by_eq
  · intro self
    conv => lhs; simp -implicitDefEqProofs (maxSteps := 300000) (disch := omega) [-getElem?_pos, -getElem?_neg]
  try (with_reducible refine Run.ret ?_)
  apply zz
  apply Leave.mk (by first | exact .inl rfl | exact .inr rfl) (by simp only [Fr.marks_put, fr0_marks, hm])
  · conv => lhs; simp -implicitDefEqProofs (disch := omega) [Try.results11, hm]
  rfl
end Go.Proofs.Ytnhokodcmeekhaa
namespace Go.Proofs.Ytnhokodcmeekhaa
open Go Kern
/-! The law of clashes -/
end Go.Proofs.Ytnhokodcmeekhaa
namespace Go.Proofs.Ytnhokodcmeekhaa
open Go Kern RowKit
/-- A slice of the world whose elements are known, cell by cell. -/
def SlW (W : World) (n : Nat) (v : Value) (l : List (List Value)) : Prop :=
  (l = [] ∧ v = .slice none 0 0) ∨ ∃ (b off cap : Nat) (C : Array Value) (e : TypeId) (fr : Nat × Nat), v = .slice (some ⟨b, off, none⟩) l.length cap ∧ W.heap[b]? = some (.cells C e fr) ∧
    (l ≠ [] → off + l.flatten.length ≤ C.size ∧ (C.toList.drop off).take l.flatten.length = l.flatten)
theorem romAt_pushed {s : St} {o : AObj} {i : Nat} (h : i ≠ s.next) : romAt (s.pushed o).heap i = romAt s.heap i := by
  unfold romAt; rw [get_pushed_old _ _ _ h]
theorem WRel_rom {N : Nat} {σ : Ren} {s : St} {w : World} (hw : WRel N σ s w) {b sh : Nat} {c : List Value} {C : Array Value} {e : TypeId} {fr : Nat × Nat} (hb : w.heap[b]? = some (.cells C e fr)) (hN : b < N) (hs : sh + c.length ≤ C.size)
    (h : LRel σ c ((C.toList.drop sh).take c.length)) : WRel N (σ.add s.next b sh none) (s.pushed (.rom c)) w := by
  have hle := Ren.le_add (b := b) (sh := sh) (x := none) (hw.fresh (Nat.le_refl s.next))
  have hlt : b < w.heap.size := (Array.getElem?_eq_some_iff.1 hb).1
  refine ⟨hw.base, ?_, ?_, ?_, ?_⟩
  · intro i b' sh' x' hi
    by_cases ei : i = s.next
    · subst ei
      rw [Ren.add_same] at hi; cases hi
      have : romAt (s.pushed (.rom c)).heap s.next = true := by unfold romAt; rw [get_pushed_new]; rfl
      exact ⟨⟨fun k => (by rw [this] at k; cases k), fun _ => hN⟩, hlt⟩
    · rw [Ren.add_ne ei] at hi
      rw [romAt_pushed ei]
      exact hw.lt hi
  · intro i hi
    rw [Ren.add_ne (by have : s.next + 1 ≤ i := hi; omega)]
    exact hw.fresh (by have : s.next + 1 ≤ i := hi; omega)
  · intro i b' sh' x' o hi ho
    by_cases ei : i = s.next
    · subst ei
      rw [Ren.add_same] at hi; cases hi
      rw [get_pushed_new] at ho; cases ho
      exact ⟨_, hb, .rom rfl hs (h.mono hle)⟩
    · rw [Ren.add_ne ei] at hi
      rw [get_pushed_old _ _ _ ei] at ho
      obtain ⟨O, h1, h2⟩ := hw.real hi ho
      exact ⟨O, h1, h2.mono hle⟩
  · intro i j b' sh1 x1 sh2 x2 o1 o2 hi hj h1 h2 d1 d2 hr
    by_cases ei : i = s.next
    · subst ei
      rw [get_pushed_new] at h1; cases h1; cases hr
    · rw [Ren.add_ne ei] at hi
      rw [get_pushed_old _ _ _ ei] at h1
      by_cases ej : j = s.next
      · subst ej
        rw [Ren.add_same] at hj; cases hj
        have : romAt s.heap i = false := by unfold romAt; rw [h1]; exact hr
        exact absurd ((hw.lt hi).1.1 this) (by omega)
      · rw [Ren.add_ne ej] at hj
        rw [get_pushed_old _ _ _ ej] at h2
        exact hw.inj hi hj h1 h2 d1 d2 hr
/-- A slice of the world gets a read-only block of the calculation. -/
theorem attach {N : Nat} {σ : Ren} {s : St} {w : World} (hw : WRel N σ s w) (hN : N = w.heap.size) {n : Nat} {v : Value} {l : List (List Value)} (h : SlW w n v l) (hl : ∀ x ∈ l, x.length = n) (hc : l.flatten.all closed1 = true) :
    ∃ τ s' v', σ.le τ ∧ WRel N τ s' w ∧ VRel τ v' v ∧ SlAt n s' v' l ∧ Keep s s' := by
  rcases h with ⟨rfl, rfl⟩ | ⟨b, off, cap, C, e, fr, rfl, hb, hf⟩
  · exact ⟨σ, s, .slice none 0 0, σ.le_refl, hw, .sliceNil _ _, .nil 0, Keep.refl _⟩
  have hlt : b < w.heap.size := (Array.getElem?_eq_some_iff.1 hb).1
  by_cases he : l = []
  · subst he
    have hw2 := WRel_rom hw (sh := 0) (c := []) hb (by omega) (by simp) (by simpa using LRel.nil)
    refine ⟨_, _, .slice (some ⟨s.next, off, none⟩) 0 cap, Ren.le_add (hw.fresh (Nat.le_refl _)), hw2, ?_, ?_, (Keep.refl s).pushed _⟩
    · have := VRel.slice (σ := σ.add s.next b 0 none) (i := s.next) (o := off) (o' := off) (b := b) (s := 0) (l := 0) (c := cap) (c' := cap) (x := none) Ren.add_same ⟨rfl, rfl⟩
      rw [Nat.zero_add] at this
      exact this
    · exact SlAt.mk (l := []) (Nat.lt_succ_self _) (get_pushed_new _ _) rfl (fun i e h => by simp at h)
  · obtain ⟨h1, h2⟩ := hf he
    have hw2 := WRel_rom hw (sh := off) (c := l.flatten) hb (by omega) h1 (by rw [h2]; exact closedL_rel hc)
    refine ⟨_, _, .slice (some ⟨s.next, 0, none⟩) l.length cap, Ren.le_add (hw.fresh (Nat.le_refl _)), hw2, ?_, ?_, (Keep.refl s).pushed _⟩
    · exact VRel.slice (σ := σ.add s.next b off none) (i := s.next) (o := 0) (o' := 0) (b := b) (s := off) (l := l.length) (c := cap) (c' := cap) (x := none) Ren.add_same ⟨rfl, rfl⟩
    · exact SlAt.mk (Nat.lt_succ_self _) (get_pushed_new _ _) rfl (fun i e h => by rw [Nat.zero_add]; exact drop_flat hl h)
theorem stubOk : StubOk Try.prog TT := StubOk.none rfl
/-- What the calculation finds true holds of the call in the world. -/
theorem calls_of_ev {g : FuncId} {args : List Value} {s : St} (h : Ev TT g args s fun r _ => r = .bool true) {N : Nat} {σ : Ren} {w : World} (hw : WRel N σ s w) (hN : N = w.heap.size) {args' : Array Value} (ha : LRel σ args args'.toList) :
    Calls Try.prog g args' w fun e w' => e = .returned (.bool true) ∧ Below w.heap.size w w' := by
  obtain ⟨m, ⟨v, s'⟩, h1, h2⟩ := h
  have h2' : v = .bool true := h2
  subst h2'
  refine ((run_ok tabOk rfl stubOk m).call (h1 m (Nat.le_refl _)) hw ha).mono fun e w' he => ?_
  obtain ⟨τ, v', rfl, hx, _, hv⟩ := he
  rw [hv.of_bool]
  exact ⟨rfl, hN ▸ hx.below⟩
end Go.Proofs.Ytnhokodcmeekhaa
