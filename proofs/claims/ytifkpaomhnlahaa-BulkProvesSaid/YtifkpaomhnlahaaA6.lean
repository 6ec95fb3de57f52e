/-
  The reference's Check and its sum of masses answer as stated. It holds with no condition but those that are written in each theorem.
-/
import Derived.Test.YtifkpaomhnlahaaA5
namespace Go.Proofs.Ytifkpaomhnlahaa
open Go Kern
def Mass.tim (t : Int) (p : Mass) : Mass := ⟨t * p.a, t * p.b, t * p.c, t * p.d⟩
set_option maxRecDepth 100000 in
set_option maxHeartbeats 1000000 in
theorem addT_ev (m p : Mass) (t : Int) (s : St) (hp : (p.tim t).le 4611686018427387904) (hb : (m.add (p.tim t)).le 4611686018427387904) : Ev TT 53 [m.v, .int .i64 t, p.v] s fun v s' => v = (m.add (p.tim t)).v ∧ Keep s s' := by
  obtain ⟨⟨p1, p2⟩, ⟨p3, p4⟩, ⟨p5, p6⟩, p7, p8⟩ := hp
  obtain ⟨⟨a1, a2⟩, ⟨b1, b2⟩, ⟨c1, c2⟩, d1, d2⟩ := hb
  simp only [Mass.add, Mass.tim] at a1 a2 b1 b2 c1 c2 d1 d2 p1 p2 p3 p4 p5 p6 p7 p8
  unfold Mass.v
  refine Ev.intro (fn := Try.f53) rfl (by kernel_rfl) rfl rfl ?_
  with_reducible repeat first|apply Z0|apply Z1|apply Z2|apply Z3|apply Z4|apply Z5|refine Z6 rfl ?_|apply Z7|apply Z8|apply Z9|apply Z10|apply Z11|apply Z12|apply Z13|apply Z14|apply Z15|apply Z16
  with_reducible repeat first|apply Z0|apply Z1|apply Z2|apply Z3|apply Z4|apply Z5|refine Z6 rfl ?_|apply Z7|apply Z8|apply Z9|apply Z10|apply Z11|apply Z12|apply Z13|apply Z14|apply Z15|apply Z16
  refine Cd.reg (by kernel_rfl) (by conv => lhs; simp only [List.map_cons, List.map_nil]) (by conv => lhs; simp only [List.map_cons, List.map_nil, strip]) ?_
  apply Run.by_eq
  · intro self
    conv => lhs; simp -implicitDefEqProofs (maxSteps := 300000) (disch := omega) [-getElem?_pos, -getElem?_neg]
  try (with_reducible refine Run.ret ?_)
  with_reducible repeat first|apply Z0|apply Z1|apply Z2|apply Z3|apply Z4|apply Z5|refine Z6 rfl ?_|apply Z7|apply Z8|apply Z9|apply Z10|apply Z11|apply Z12|apply Z13|apply Z14|apply Z15|apply Z16
  with_reducible repeat first|apply Z0|apply Z1|apply Z2|apply Z3|apply Z4|apply Z5|refine Z6 rfl ?_|apply Z7|apply Z8|apply Z9|apply Z10|apply Z11|apply Z12|apply Z13|apply Z14|apply Z15|apply Z16
  refine Cd.reg (by kernel_rfl) (by conv => lhs; simp only [List.map_cons, List.map_nil]) (by conv => lhs; simp only [List.map_cons, List.map_nil, strip]) ?_
  apply Run.by_eq
  · intro self
    conv => lhs; simp -implicitDefEqProofs (maxSteps := 300000) (disch := omega) [-getElem?_pos, -getElem?_neg]
  try (with_reducible refine Run.ret ?_)
  with_reducible repeat first|apply Z0|apply Z1|apply Z2|apply Z3|apply Z4|apply Z5|refine Z6 rfl ?_|apply Z7|apply Z8|apply Z9|apply Z10|apply Z11|apply Z12|apply Z13|apply Z14|apply Z15|apply Z16
  refine Cd.inv (fun w f s' => ∃ k : Nat, k ≤ 4 ∧ w = 4 - k ∧ f.marks = [] ∧ f.get 7 = .int .i64 k ∧ f.get 1 = .int .i64 t ∧ f.get 3 = .pointer (some ⟨s.next, 0, none⟩) ∧ f.get 5 = .pointer (some ⟨s.next + 1, 0, none⟩) ∧ f.get 6 = .pointer (some ⟨s.next + 1 + 1, 0, none⟩) ∧ Keep s s' ∧ s.next + 1 + 1 < s'.next ∧ s'.heap.get s.next = some (.cells (mixL k (m.add (p.tim t)) m) none) ∧ s'.heap.get (s.next + 1) = some (.cells [.int .i64 p.a, .int .i64 p.b, .int .i64 p.c, .int .i64 p.d] none) ∧ s'.heap.get (s.next + 1 + 1) = some (.cells [.int .i64 0, .int .i64 0, .int .i64 0, .int .i64 0] none)) 4 ?_ ?_
  · exact ⟨0, by omega, rfl, by simp, by simp, by simp, by simp, by simp, by simp, (((Keep.refl _).pushed _).pushed _).pushed _, by simp, by simp -implicitDefEqProofs (disch := omega) [mixL], by simp -implicitDefEqProofs (disch := omega), by simp⟩
  rintro w f s' ⟨k, hk, rfl, hm, h7, h1, h3, h5, h6, hkp, hnx, hget, hget1, hget2⟩
  have hkpa := hkp.1
  have hk5 : k = 0 ∨ k = 1 ∨ k = 2 ∨ k = 3 ∨ k = 4 := by omega
  rcases hk5 with rfl | rfl | rfl | rfl | rfl
  all_goals simp only [mixL, Mass.add, Mass.tim, Nat.lt_irrefl, if_false, Nat.reduceLT, if_true] at hget
  · with_reducible repeat first|apply Z0|apply Z1|apply Z2|apply Z3|apply Z4|apply Z5|refine Z6 rfl ?_|apply Z7|apply Z8|apply Z9|apply Z10|apply Z11|apply Z12|apply Z13|apply Z14|apply Z15|apply Z16
    refine Cd.reg (by kernel_rfl) (by conv => lhs; simp only [List.map_cons, List.map_nil]) (by conv => lhs; simp only [List.map_cons, List.map_nil, strip]) ?_
    apply Run.by_eq
    · intro self
      conv => lhs; simp -implicitDefEqProofs (maxSteps := 300000) (disch := omega) [-getElem?_pos, -getElem?_neg, h7]
    try (with_reducible refine Run.ret ?_)
    with_reducible repeat first|apply Z0|apply Z1|apply Z2|apply Z3|apply Z4|apply Z5|refine Z6 rfl ?_|apply Z7|apply Z8|apply Z9|apply Z10|apply Z11|apply Z12|apply Z13|apply Z14|apply Z15|apply Z16
    with_reducible repeat first|apply Z0|apply Z1|apply Z2|apply Z3|apply Z4|apply Z5|refine Z6 rfl ?_|apply Z7|apply Z8|apply Z9|apply Z10|apply Z11|apply Z12|apply Z13|apply Z14|apply Z15|apply Z16
    apply Cd.ite rfl
    · conv => lhs; simp -implicitDefEqProofs (maxSteps := 300000) (disch := omega) [-getElem?_pos, -getElem?_neg]
    all_goals intro c0
    all_goals try (cases c0; done)
    all_goals try simp only [Bool.not_eq_true', Bool.not_eq_false', decide_eq_true_eq, decide_eq_false_iff_not] at c0
    all_goals with_reducible repeat first|apply Z0|apply Z1|apply Z2|apply Z3|apply Z4|apply Z5|refine Z6 rfl ?_|apply Z7|apply Z8|apply Z9|apply Z10|apply Z11|apply Z12|apply Z13|apply Z14|apply Z15|apply Z16
    · with_reducible repeat first|apply Z0|apply Z1|apply Z2|apply Z3|apply Z4|apply Z5|refine Z6 rfl ?_|apply Z7|apply Z8|apply Z9|apply Z10|apply Z11|apply Z12|apply Z13|apply Z14|apply Z15|apply Z16
      refine Cd.drawnG (pl := [(0, 0, false, false), (1, 1, false, false), (2, 3, false, false), (3, 0, false, false), (4, 0, false, false), (5, 16, false, false), (6, 48, false, false), (7, 120, false, false), (8, 255, false, false), (9, 511, false, false), (10, 1023, true, false)]) (by kernel_rfl) (by decide) (by conv => lhs; simp only [List.map_cons, List.map_nil]) (by conv => lhs; simp [strip, orderedG]) ?_
      apply Run.by_eq
      · intro self
        conv => lhs; simp -implicitDefEqProofs (maxSteps := 300000) (disch := omega) [-getElem?_pos, -getElem?_neg, h7, h1, h3, h5, hget, hget1]
      try (with_reducible refine Run.ret ?_)
      with_reducible repeat first|apply Z0|apply Z1|apply Z2|apply Z3|apply Z4|apply Z5|refine Z6 rfl ?_|apply Z7|apply Z8|apply Z9|apply Z10|apply Z11|apply Z12|apply Z13|apply Z14|apply Z15|apply Z16
      with_reducible repeat first|apply Z0|apply Z1|apply Z2|apply Z3|apply Z4|apply Z5|refine Z6 rfl ?_|apply Z7|apply Z8|apply Z9|apply Z10|apply Z11|apply Z12|apply Z13|apply Z14|apply Z15|apply Z16
      refine Cd.reg (by kernel_rfl) (by conv => lhs; simp only [List.map_cons, List.map_nil]) (by conv => lhs; simp only [List.map_cons, List.map_nil, strip]) ?_
      apply Run.by_eq
      · intro self
        conv => lhs; simp -implicitDefEqProofs (maxSteps := 300000) (disch := omega) [-getElem?_pos, -getElem?_neg, h7]
      try (with_reducible refine Run.ret ?_)
      with_reducible repeat first|apply Z0|apply Z1|apply Z2|apply Z3|apply Z4|apply Z5|refine Z6 rfl ?_|apply Z7|apply Z8|apply Z9|apply Z10|apply Z11|apply Z12|apply Z13|apply Z14|apply Z15|apply Z16
      refine LoopK.nm (4 - (0 + 1)) (by omega) ⟨0 + 1, by omega, rfl, by simp [hm], by simp, by simp [h1], by simp [h3], by simp [h5], by simp [h6], hkp.upded (Nat.le_refl _) _, by simpa using hnx, ?_, ?_, ?_⟩
      · simp [mixL, Mass.add, Mass.tim]
      · simp -implicitDefEqProofs (disch := omega) [hget1]
      · simp -implicitDefEqProofs (disch := omega) [hget2]
  · with_reducible repeat first|apply Z0|apply Z1|apply Z2|apply Z3|apply Z4|apply Z5|refine Z6 rfl ?_|apply Z7|apply Z8|apply Z9|apply Z10|apply Z11|apply Z12|apply Z13|apply Z14|apply Z15|apply Z16
    refine Cd.reg (by kernel_rfl) (by conv => lhs; simp only [List.map_cons, List.map_nil]) (by conv => lhs; simp only [List.map_cons, List.map_nil, strip]) ?_
    apply Run.by_eq
    · intro self
      conv => lhs; simp -implicitDefEqProofs (maxSteps := 300000) (disch := omega) [-getElem?_pos, -getElem?_neg, h7]
    try (with_reducible refine Run.ret ?_)
    with_reducible repeat first|apply Z0|apply Z1|apply Z2|apply Z3|apply Z4|apply Z5|refine Z6 rfl ?_|apply Z7|apply Z8|apply Z9|apply Z10|apply Z11|apply Z12|apply Z13|apply Z14|apply Z15|apply Z16
    with_reducible repeat first|apply Z0|apply Z1|apply Z2|apply Z3|apply Z4|apply Z5|refine Z6 rfl ?_|apply Z7|apply Z8|apply Z9|apply Z10|apply Z11|apply Z12|apply Z13|apply Z14|apply Z15|apply Z16
    apply Cd.ite rfl
    · conv => lhs; simp -implicitDefEqProofs (maxSteps := 300000) (disch := omega) [-getElem?_pos, -getElem?_neg]
    all_goals intro c0
    all_goals try (cases c0; done)
    all_goals try simp only [Bool.not_eq_true', Bool.not_eq_false', decide_eq_true_eq, decide_eq_false_iff_not] at c0
    all_goals with_reducible repeat first|apply Z0|apply Z1|apply Z2|apply Z3|apply Z4|apply Z5|refine Z6 rfl ?_|apply Z7|apply Z8|apply Z9|apply Z10|apply Z11|apply Z12|apply Z13|apply Z14|apply Z15|apply Z16
    · with_reducible repeat first|apply Z0|apply Z1|apply Z2|apply Z3|apply Z4|apply Z5|refine Z6 rfl ?_|apply Z7|apply Z8|apply Z9|apply Z10|apply Z11|apply Z12|apply Z13|apply Z14|apply Z15|apply Z16
      refine Cd.drawnG (pl := [(0, 0, false, false), (1, 1, false, false), (2, 3, false, false), (3, 0, false, false), (4, 0, false, false), (5, 16, false, false), (6, 48, false, false), (7, 120, false, false), (8, 255, false, false), (9, 511, false, false), (10, 1023, true, false)]) (by kernel_rfl) (by decide) (by conv => lhs; simp only [List.map_cons, List.map_nil]) (by conv => lhs; simp [strip, orderedG]) ?_
      apply Run.by_eq
      · intro self
        conv => lhs; simp -implicitDefEqProofs (maxSteps := 300000) (disch := omega) [-getElem?_pos, -getElem?_neg, h7, h1, h3, h5, hget, hget1]
      try (with_reducible refine Run.ret ?_)
      with_reducible repeat first|apply Z0|apply Z1|apply Z2|apply Z3|apply Z4|apply Z5|refine Z6 rfl ?_|apply Z7|apply Z8|apply Z9|apply Z10|apply Z11|apply Z12|apply Z13|apply Z14|apply Z15|apply Z16
      with_reducible repeat first|apply Z0|apply Z1|apply Z2|apply Z3|apply Z4|apply Z5|refine Z6 rfl ?_|apply Z7|apply Z8|apply Z9|apply Z10|apply Z11|apply Z12|apply Z13|apply Z14|apply Z15|apply Z16
      refine Cd.reg (by kernel_rfl) (by conv => lhs; simp only [List.map_cons, List.map_nil]) (by conv => lhs; simp only [List.map_cons, List.map_nil, strip]) ?_
      apply Run.by_eq
      · intro self
        conv => lhs; simp -implicitDefEqProofs (maxSteps := 300000) (disch := omega) [-getElem?_pos, -getElem?_neg, h7]
      try (with_reducible refine Run.ret ?_)
      with_reducible repeat first|apply Z0|apply Z1|apply Z2|apply Z3|apply Z4|apply Z5|refine Z6 rfl ?_|apply Z7|apply Z8|apply Z9|apply Z10|apply Z11|apply Z12|apply Z13|apply Z14|apply Z15|apply Z16
      refine LoopK.nm (4 - (1 + 1)) (by omega) ⟨1 + 1, by omega, rfl, by simp [hm], by simp, by simp [h1], by simp [h3], by simp [h5], by simp [h6], hkp.upded (Nat.le_refl _) _, by simpa using hnx, ?_, ?_, ?_⟩
      · simp [mixL, Mass.add, Mass.tim]
      · simp -implicitDefEqProofs (disch := omega) [hget1]
      · simp -implicitDefEqProofs (disch := omega) [hget2]
  · with_reducible repeat first|apply Z0|apply Z1|apply Z2|apply Z3|apply Z4|apply Z5|refine Z6 rfl ?_|apply Z7|apply Z8|apply Z9|apply Z10|apply Z11|apply Z12|apply Z13|apply Z14|apply Z15|apply Z16
    refine Cd.reg (by kernel_rfl) (by conv => lhs; simp only [List.map_cons, List.map_nil]) (by conv => lhs; simp only [List.map_cons, List.map_nil, strip]) ?_
    apply Run.by_eq
    · intro self
      conv => lhs; simp -implicitDefEqProofs (maxSteps := 300000) (disch := omega) [-getElem?_pos, -getElem?_neg, h7]
    try (with_reducible refine Run.ret ?_)
    with_reducible repeat first|apply Z0|apply Z1|apply Z2|apply Z3|apply Z4|apply Z5|refine Z6 rfl ?_|apply Z7|apply Z8|apply Z9|apply Z10|apply Z11|apply Z12|apply Z13|apply Z14|apply Z15|apply Z16
    with_reducible repeat first|apply Z0|apply Z1|apply Z2|apply Z3|apply Z4|apply Z5|refine Z6 rfl ?_|apply Z7|apply Z8|apply Z9|apply Z10|apply Z11|apply Z12|apply Z13|apply Z14|apply Z15|apply Z16
    apply Cd.ite rfl
    · conv => lhs; simp -implicitDefEqProofs (maxSteps := 300000) (disch := omega) [-getElem?_pos, -getElem?_neg]
    all_goals intro c0
    all_goals try (cases c0; done)
    all_goals try simp only [Bool.not_eq_true', Bool.not_eq_false', decide_eq_true_eq, decide_eq_false_iff_not] at c0
    all_goals with_reducible repeat first|apply Z0|apply Z1|apply Z2|apply Z3|apply Z4|apply Z5|refine Z6 rfl ?_|apply Z7|apply Z8|apply Z9|apply Z10|apply Z11|apply Z12|apply Z13|apply Z14|apply Z15|apply Z16
    · with_reducible repeat first|apply Z0|apply Z1|apply Z2|apply Z3|apply Z4|apply Z5|refine Z6 rfl ?_|apply Z7|apply Z8|apply Z9|apply Z10|apply Z11|apply Z12|apply Z13|apply Z14|apply Z15|apply Z16
      refine Cd.drawnG (pl := [(0, 0, false, false), (1, 1, false, false), (2, 3, false, false), (3, 0, false, false), (4, 0, false, false), (5, 16, false, false), (6, 48, false, false), (7, 120, false, false), (8, 255, false, false), (9, 511, false, false), (10, 1023, true, false)]) (by kernel_rfl) (by decide) (by conv => lhs; simp only [List.map_cons, List.map_nil]) (by conv => lhs; simp [strip, orderedG]) ?_
      apply Run.by_eq
      · intro self
        conv => lhs; simp -implicitDefEqProofs (maxSteps := 300000) (disch := omega) [-getElem?_pos, -getElem?_neg, h7, h1, h3, h5, hget, hget1]
      try (with_reducible refine Run.ret ?_)
      with_reducible repeat first|apply Z0|apply Z1|apply Z2|apply Z3|apply Z4|apply Z5|refine Z6 rfl ?_|apply Z7|apply Z8|apply Z9|apply Z10|apply Z11|apply Z12|apply Z13|apply Z14|apply Z15|apply Z16
      with_reducible repeat first|apply Z0|apply Z1|apply Z2|apply Z3|apply Z4|apply Z5|refine Z6 rfl ?_|apply Z7|apply Z8|apply Z9|apply Z10|apply Z11|apply Z12|apply Z13|apply Z14|apply Z15|apply Z16
      refine Cd.reg (by kernel_rfl) (by conv => lhs; simp only [List.map_cons, List.map_nil]) (by conv => lhs; simp only [List.map_cons, List.map_nil, strip]) ?_
      apply Run.by_eq
      · intro self
        conv => lhs; simp -implicitDefEqProofs (maxSteps := 300000) (disch := omega) [-getElem?_pos, -getElem?_neg, h7]
      try (with_reducible refine Run.ret ?_)
      with_reducible repeat first|apply Z0|apply Z1|apply Z2|apply Z3|apply Z4|apply Z5|refine Z6 rfl ?_|apply Z7|apply Z8|apply Z9|apply Z10|apply Z11|apply Z12|apply Z13|apply Z14|apply Z15|apply Z16
      refine LoopK.nm (4 - (2 + 1)) (by omega) ⟨2 + 1, by omega, rfl, by simp [hm], by simp, by simp [h1], by simp [h3], by simp [h5], by simp [h6], hkp.upded (Nat.le_refl _) _, by simpa using hnx, ?_, ?_, ?_⟩
      · simp [mixL, Mass.add, Mass.tim]
      · simp -implicitDefEqProofs (disch := omega) [hget1]
      · simp -implicitDefEqProofs (disch := omega) [hget2]
  · with_reducible repeat first|apply Z0|apply Z1|apply Z2|apply Z3|apply Z4|apply Z5|refine Z6 rfl ?_|apply Z7|apply Z8|apply Z9|apply Z10|apply Z11|apply Z12|apply Z13|apply Z14|apply Z15|apply Z16
    refine Cd.reg (by kernel_rfl) (by conv => lhs; simp only [List.map_cons, List.map_nil]) (by conv => lhs; simp only [List.map_cons, List.map_nil, strip]) ?_
    apply Run.by_eq
    · intro self
      conv => lhs; simp -implicitDefEqProofs (maxSteps := 300000) (disch := omega) [-getElem?_pos, -getElem?_neg, h7]
    try (with_reducible refine Run.ret ?_)
    with_reducible repeat first|apply Z0|apply Z1|apply Z2|apply Z3|apply Z4|apply Z5|refine Z6 rfl ?_|apply Z7|apply Z8|apply Z9|apply Z10|apply Z11|apply Z12|apply Z13|apply Z14|apply Z15|apply Z16
    with_reducible repeat first|apply Z0|apply Z1|apply Z2|apply Z3|apply Z4|apply Z5|refine Z6 rfl ?_|apply Z7|apply Z8|apply Z9|apply Z10|apply Z11|apply Z12|apply Z13|apply Z14|apply Z15|apply Z16
    apply Cd.ite rfl
    · conv => lhs; simp -implicitDefEqProofs (maxSteps := 300000) (disch := omega) [-getElem?_pos, -getElem?_neg]
    all_goals intro c0
    all_goals try (cases c0; done)
    all_goals try simp only [Bool.not_eq_true', Bool.not_eq_false', decide_eq_true_eq, decide_eq_false_iff_not] at c0
    all_goals with_reducible repeat first|apply Z0|apply Z1|apply Z2|apply Z3|apply Z4|apply Z5|refine Z6 rfl ?_|apply Z7|apply Z8|apply Z9|apply Z10|apply Z11|apply Z12|apply Z13|apply Z14|apply Z15|apply Z16
    · with_reducible repeat first|apply Z0|apply Z1|apply Z2|apply Z3|apply Z4|apply Z5|refine Z6 rfl ?_|apply Z7|apply Z8|apply Z9|apply Z10|apply Z11|apply Z12|apply Z13|apply Z14|apply Z15|apply Z16
      refine Cd.drawnG (pl := [(0, 0, false, false), (1, 1, false, false), (2, 3, false, false), (3, 0, false, false), (4, 0, false, false), (5, 16, false, false), (6, 48, false, false), (7, 120, false, false), (8, 255, false, false), (9, 511, false, false), (10, 1023, true, false)]) (by kernel_rfl) (by decide) (by conv => lhs; simp only [List.map_cons, List.map_nil]) (by conv => lhs; simp [strip, orderedG]) ?_
      apply Run.by_eq
      · intro self
        conv => lhs; simp -implicitDefEqProofs (maxSteps := 300000) (disch := omega) [-getElem?_pos, -getElem?_neg, h7, h1, h3, h5, hget, hget1]
      try (with_reducible refine Run.ret ?_)
      with_reducible repeat first|apply Z0|apply Z1|apply Z2|apply Z3|apply Z4|apply Z5|refine Z6 rfl ?_|apply Z7|apply Z8|apply Z9|apply Z10|apply Z11|apply Z12|apply Z13|apply Z14|apply Z15|apply Z16
      with_reducible repeat first|apply Z0|apply Z1|apply Z2|apply Z3|apply Z4|apply Z5|refine Z6 rfl ?_|apply Z7|apply Z8|apply Z9|apply Z10|apply Z11|apply Z12|apply Z13|apply Z14|apply Z15|apply Z16
      refine Cd.reg (by kernel_rfl) (by conv => lhs; simp only [List.map_cons, List.map_nil]) (by conv => lhs; simp only [List.map_cons, List.map_nil, strip]) ?_
      apply Run.by_eq
      · intro self
        conv => lhs; simp -implicitDefEqProofs (maxSteps := 300000) (disch := omega) [-getElem?_pos, -getElem?_neg, h7]
      try (with_reducible refine Run.ret ?_)
      with_reducible repeat first|apply Z0|apply Z1|apply Z2|apply Z3|apply Z4|apply Z5|refine Z6 rfl ?_|apply Z7|apply Z8|apply Z9|apply Z10|apply Z11|apply Z12|apply Z13|apply Z14|apply Z15|apply Z16
      refine LoopK.nm (4 - (3 + 1)) (by omega) ⟨3 + 1, by omega, rfl, by simp [hm], by simp, by simp [h1], by simp [h3], by simp [h5], by simp [h6], hkp.upded (Nat.le_refl _) _, by simpa using hnx, ?_, ?_, ?_⟩
      · simp [mixL, Mass.add, Mass.tim]
      · simp -implicitDefEqProofs (disch := omega) [hget1]
      · simp -implicitDefEqProofs (disch := omega) [hget2]
  · with_reducible repeat first|apply Z0|apply Z1|apply Z2|apply Z3|apply Z4|apply Z5|refine Z6 rfl ?_|apply Z7|apply Z8|apply Z9|apply Z10|apply Z11|apply Z12|apply Z13|apply Z14|apply Z15|apply Z16
    refine Cd.reg (by kernel_rfl) (by conv => lhs; simp only [List.map_cons, List.map_nil]) (by conv => lhs; simp only [List.map_cons, List.map_nil, strip]) ?_
    apply Run.by_eq
    · intro self
      conv => lhs; simp -implicitDefEqProofs (maxSteps := 300000) (disch := omega) [-getElem?_pos, -getElem?_neg, h7]
    try (with_reducible refine Run.ret ?_)
    with_reducible repeat first|apply Z0|apply Z1|apply Z2|apply Z3|apply Z4|apply Z5|refine Z6 rfl ?_|apply Z7|apply Z8|apply Z9|apply Z10|apply Z11|apply Z12|apply Z13|apply Z14|apply Z15|apply Z16
    with_reducible repeat first|apply Z0|apply Z1|apply Z2|apply Z3|apply Z4|apply Z5|refine Z6 rfl ?_|apply Z7|apply Z8|apply Z9|apply Z10|apply Z11|apply Z12|apply Z13|apply Z14|apply Z15|apply Z16
    apply Cd.ite rfl
    · conv => lhs; simp -implicitDefEqProofs (maxSteps := 300000) (disch := omega) [-getElem?_pos, -getElem?_neg]
    all_goals intro c0
    all_goals try (cases c0; done)
    all_goals try simp only [Bool.not_eq_true', Bool.not_eq_false', decide_eq_true_eq, decide_eq_false_iff_not] at c0
    all_goals with_reducible repeat first|apply Z0|apply Z1|apply Z2|apply Z3|apply Z4|apply Z5|refine Z6 rfl ?_|apply Z7|apply Z8|apply Z9|apply Z10|apply Z11|apply Z12|apply Z13|apply Z14|apply Z15|apply Z16
    with_reducible repeat first|apply Z0|apply Z1|apply Z2|apply Z3|apply Z4|apply Z5|refine Z6 rfl ?_|apply Z7|apply Z8|apply Z9|apply Z10|apply Z11|apply Z12|apply Z13|apply Z14|apply Z15|apply Z16
    refine Cd.reg (by kernel_rfl) (by conv => lhs; simp only [List.map_cons, List.map_nil]) (by conv => lhs; simp only [List.map_cons, List.map_nil, strip]) ?_
    apply Run.by_eq
    · intro self
      conv => lhs; simp -implicitDefEqProofs (maxSteps := 300000) (disch := omega) [-getElem?_pos, -getElem?_neg, h3, hget, h6, hget2]
    try (with_reducible refine Run.ret ?_)
    with_reducible repeat first|apply Z0|apply Z1|apply Z2|apply Z3|apply Z4|apply Z5|refine Z6 rfl ?_|apply Z7|apply Z8|apply Z9|apply Z10|apply Z11|apply Z12|apply Z13|apply Z14|apply Z15|apply Z16
    apply Leave.mk (by first | exact .inl rfl | exact .inr rfl) (by simp only [Fr.marks_put, fr0_marks, hm, h6])
    · conv => lhs; simp -implicitDefEqProofs (disch := omega) [Try.results53, hm, h6]
    exact ⟨rfl, hkp.upded (by omega) _⟩
theorem isB_end {u n : Int} (h : 1 ≤ u) : isB n (-1) (u - 1) = endB u n := by
  unfold isB endB unitB
  by_cases h1 : n = -1
  · subst h1; simp; omega
  · rw [decide_eq_false h1, Bool.false_or]
    congr 1 <;> simp only [decide_eq_decide] <;> omega
theorem isB_unit {u n : Int} : isB n 0 (u - 1) = unitB u n := by
  unfold isB unitB
  congr 1; simp only [decide_eq_decide]; omega
set_option maxRecDepth 100000 in
set_option maxHeartbeats 2000000 in
theorem refCheck_ev (u : Int) (v : Value) (fs : List FlowD) (s : St) (hf : FlAt s v fs) (hl : fs.length ≤ 1000000) :
    Ev TT 22 [plantV u v] s fun r s' => r = .int .i64 (checkErr u fs) ∧ Keep s s' := by
  obtain ⟨a, c, rfl⟩ := hf.shape
  rw [List.length_map] at hf ⊢
  unfold plantV
  refine Ev.intro (fn := Try.f22) rfl (by kernel_rfl) rfl rfl ?_
  with_reducible repeat first|apply Z0|apply Z1|apply Z2|apply Z3|apply Z4|apply Z5|refine Z6 rfl ?_|apply Z7|apply Z8|apply Z9|apply Z10|apply Z11|apply Z12|apply Z13|apply Z14|apply Z15|apply Z16
  with_reducible repeat first|apply Z0|apply Z1|apply Z2|apply Z3|apply Z4|apply Z5|refine Z6 rfl ?_|apply Z7|apply Z8|apply Z9|apply Z10|apply Z11|apply Z12|apply Z13|apply Z14|apply Z15|apply Z16
  refine Cd.reg (by kernel_rfl) (by conv => lhs; simp only [List.map_cons, List.map_nil]) (by conv => lhs; simp only [List.map_cons, List.map_nil, strip]) ?_
  apply Run.by_eq
  · intro self
    conv => lhs; simp -implicitDefEqProofs (maxSteps := 300000) (disch := omega) [-getElem?_pos, -getElem?_neg]
  try (with_reducible refine Run.ret ?_)
  with_reducible repeat first|apply Z0|apply Z1|apply Z2|apply Z3|apply Z4|apply Z5|refine Z6 rfl ?_|apply Z7|apply Z8|apply Z9|apply Z10|apply Z11|apply Z12|apply Z13|apply Z14|apply Z15|apply Z16
  with_reducible repeat first|apply Z0|apply Z1|apply Z2|apply Z3|apply Z4|apply Z5|refine Z6 rfl ?_|apply Z7|apply Z8|apply Z9|apply Z10|apply Z11|apply Z12|apply Z13|apply Z14|apply Z15|apply Z16
  refine Cd.reg (by kernel_rfl) (by conv => lhs; simp only [List.map_cons, List.map_nil]) (by conv => lhs; simp only [List.map_cons, List.map_nil, strip]) ?_
  apply Run.by_eq
  · intro self
    conv => lhs; simp -implicitDefEqProofs (maxSteps := 300000) (disch := omega) [-getElem?_pos, -getElem?_neg]
  try (with_reducible refine Run.ret ?_)
  with_reducible repeat first|apply Z0|apply Z1|apply Z2|apply Z3|apply Z4|apply Z5|refine Z6 rfl ?_|apply Z7|apply Z8|apply Z9|apply Z10|apply Z11|apply Z12|apply Z13|apply Z14|apply Z15|apply Z16
  refine Run.call ((is_ev u 1 8 _).mono fun v wq hv => ?_)
  obtain ⟨rfl, q⟩ := hv
  have qa := q.1
  have qb := q.2
  try simp only [pushed_next', upded_next'] at qa qb
  apply Run.by_eq
  · intro self
    conv => lhs; simp -implicitDefEqProofs (maxSteps := 300000) (disch := omega) [-getElem?_pos, -getElem?_neg]
  try (with_reducible refine Run.ret ?_)
  with_reducible repeat first|apply Z0|apply Z1|apply Z2|apply Z3|apply Z4|apply Z5|refine Z6 rfl ?_|apply Z7|apply Z8|apply Z9|apply Z10|apply Z11|apply Z12|apply Z13|apply Z14|apply Z15|apply Z16
  cases hI : isB u 1 8 with
  | false =>
    with_reducible repeat first|apply Z0|apply Z1|apply Z2|apply Z3|apply Z4|apply Z5|refine Z6 rfl ?_|apply Z7|apply Z8|apply Z9|apply Z10|apply Z11|apply Z12|apply Z13|apply Z14|apply Z15|apply Z16
    apply Cd.ite rfl
    · conv => lhs; simp -implicitDefEqProofs (maxSteps := 300000) (disch := omega) [-getElem?_pos, -getElem?_neg, hI]
    all_goals intro c0
    all_goals try (cases c0; done)
    all_goals try simp only [Bool.not_eq_true', Bool.not_eq_false', decide_eq_true_eq, decide_eq_false_iff_not] at c0
    all_goals with_reducible repeat first|apply Z0|apply Z1|apply Z2|apply Z3|apply Z4|apply Z5|refine Z6 rfl ?_|apply Z7|apply Z8|apply Z9|apply Z10|apply Z11|apply Z12|apply Z13|apply Z14|apply Z15|apply Z16
    with_reducible repeat first|apply Z0|apply Z1|apply Z2|apply Z3|apply Z4|apply Z5|refine Z6 rfl ?_|apply Z7|apply Z8|apply Z9|apply Z10|apply Z11|apply Z12|apply Z13|apply Z14|apply Z15|apply Z16
    refine Cd.reg (by kernel_rfl) (by conv => lhs; simp only [List.map_cons, List.map_nil]) (by conv => lhs; simp only [List.map_cons, List.map_nil, strip]) ?_
    apply Run.by_eq
    · intro self
      conv => lhs; simp -implicitDefEqProofs (maxSteps := 300000) (disch := omega) [-getElem?_pos, -getElem?_neg]
    try (with_reducible refine Run.ret ?_)
    with_reducible repeat first|apply Z0|apply Z1|apply Z2|apply Z3|apply Z4|apply Z5|refine Z6 rfl ?_|apply Z7|apply Z8|apply Z9|apply Z10|apply Z11|apply Z12|apply Z13|apply Z14|apply Z15|apply Z16
    apply Leave.mk (by first | exact .inl rfl | exact .inr rfl) (by simp only [Fr.marks_put, fr0_marks])
    · conv => lhs; simp -implicitDefEqProofs (disch := omega) [Try.results22]
    refine ⟨?_, ⟨by (try simp only [pushed_next', upded_next']); omega, fun i hi => by simp -implicitDefEqProofs (disch := omega) [qb]⟩⟩
    have : u < 1 ∨ 8 < u := by simp [isB] at hI; omega
    unfold checkErr; rw [if_pos this]; rfl
  | true =>
  have hu : 1 ≤ u ∧ u ≤ 8 := by simpa [isB] using hI
  with_reducible repeat first|apply Z0|apply Z1|apply Z2|apply Z3|apply Z4|apply Z5|refine Z6 rfl ?_|apply Z7|apply Z8|apply Z9|apply Z10|apply Z11|apply Z12|apply Z13|apply Z14|apply Z15|apply Z16
  apply Cd.ite rfl
  · conv => lhs; simp -implicitDefEqProofs (maxSteps := 300000) (disch := omega) [-getElem?_pos, -getElem?_neg, hI]
  all_goals intro c0
  all_goals try (cases c0; done)
  all_goals try simp only [Bool.not_eq_true', Bool.not_eq_false', decide_eq_true_eq, decide_eq_false_iff_not] at c0
  all_goals with_reducible repeat first|apply Z0|apply Z1|apply Z2|apply Z3|apply Z4|apply Z5|refine Z6 rfl ?_|apply Z7|apply Z8|apply Z9|apply Z10|apply Z11|apply Z12|apply Z13|apply Z14|apply Z15|apply Z16
  with_reducible repeat first|apply Z0|apply Z1|apply Z2|apply Z3|apply Z4|apply Z5|refine Z6 rfl ?_|apply Z7|apply Z8|apply Z9|apply Z10|apply Z11|apply Z12|apply Z13|apply Z14|apply Z15|apply Z16
  refine Cd.reg (by kernel_rfl) (by conv => lhs; simp only [List.map_cons, List.map_nil]) (by conv => lhs; simp only [List.map_cons, List.map_nil, strip]) ?_
  apply Run.by_eq
  · intro self
    conv => lhs; simp -implicitDefEqProofs (maxSteps := 300000) (disch := omega) [-getElem?_pos, -getElem?_neg, qb]
  try (with_reducible refine Run.ret ?_)
  with_reducible repeat first|apply Z0|apply Z1|apply Z2|apply Z3|apply Z4|apply Z5|refine Z6 rfl ?_|apply Z7|apply Z8|apply Z9|apply Z10|apply Z11|apply Z12|apply Z13|apply Z14|apply Z15|apply Z16
  with_reducible repeat first|apply Z0|apply Z1|apply Z2|apply Z3|apply Z4|apply Z5|refine Z6 rfl ?_|apply Z7|apply Z8|apply Z9|apply Z10|apply Z11|apply Z12|apply Z13|apply Z14|apply Z15|apply Z16
  apply Cd.ite rfl
  · conv => lhs; simp -implicitDefEqProofs (maxSteps := 300000) (disch := omega) [-getElem?_pos, -getElem?_neg]
  all_goals intro c1
  all_goals try (cases c1; done)
  all_goals try simp only [Bool.not_eq_true', Bool.not_eq_false', decide_eq_true_eq, decide_eq_false_iff_not] at c1
  all_goals with_reducible repeat first|apply Z0|apply Z1|apply Z2|apply Z3|apply Z4|apply Z5|refine Z6 rfl ?_|apply Z7|apply Z8|apply Z9|apply Z10|apply Z11|apply Z12|apply Z13|apply Z14|apply Z15|apply Z16
  · with_reducible repeat first|apply Z0|apply Z1|apply Z2|apply Z3|apply Z4|apply Z5|refine Z6 rfl ?_|apply Z7|apply Z8|apply Z9|apply Z10|apply Z11|apply Z12|apply Z13|apply Z14|apply Z15|apply Z16
    refine Cd.reg (by kernel_rfl) (by conv => lhs; simp only [List.map_cons, List.map_nil]) (by conv => lhs; simp only [List.map_cons, List.map_nil, strip]) ?_
    apply Run.by_eq
    · intro self
      conv => lhs; simp -implicitDefEqProofs (maxSteps := 300000) (disch := omega) [-getElem?_pos, -getElem?_neg]
    try (with_reducible refine Run.ret ?_)
    with_reducible repeat first|apply Z0|apply Z1|apply Z2|apply Z3|apply Z4|apply Z5|refine Z6 rfl ?_|apply Z7|apply Z8|apply Z9|apply Z10|apply Z11|apply Z12|apply Z13|apply Z14|apply Z15|apply Z16
    apply Leave.mk (by first | exact .inl rfl | exact .inr rfl) (by simp only [Fr.marks_put, fr0_marks])
    · conv => lhs; simp -implicitDefEqProofs (disch := omega) [Try.results22]
    refine ⟨?_, ⟨by (try simp only [pushed_next', upded_next']); omega, fun i hi => by simp -implicitDefEqProofs (disch := omega) [qb]⟩⟩
    unfold checkErr; rw [if_neg (by omega), if_pos (by omega)]; rfl
  have hce : checkErr u fs = firstErr u fs := by unfold checkErr; rw [if_neg (by omega), if_neg (by omega)]
  with_reducible repeat first|apply Z0|apply Z1|apply Z2|apply Z3|apply Z4|apply Z5|refine Z6 rfl ?_|apply Z7|apply Z8|apply Z9|apply Z10|apply Z11|apply Z12|apply Z13|apply Z14|apply Z15|apply Z16
  refine Cd.reg (by kernel_rfl) (by conv => lhs; simp only [List.map_cons, List.map_nil]) (by conv => lhs; simp only [List.map_cons, List.map_nil, strip]) ?_
  apply Run.by_eq
  · intro self
    conv => lhs; simp -implicitDefEqProofs (maxSteps := 300000) (disch := omega) [-getElem?_pos, -getElem?_neg]
  try (with_reducible refine Run.ret ?_)
  with_reducible repeat first|apply Z0|apply Z1|apply Z2|apply Z3|apply Z4|apply Z5|refine Z6 rfl ?_|apply Z7|apply Z8|apply Z9|apply Z10|apply Z11|apply Z12|apply Z13|apply Z14|apply Z15|apply Z16
  refine Cd.inv (fun z f s' => ∃ k : Nat, k ≤ fs.length ∧ z = fs.length - k ∧ f.marks = [] ∧ f.get 3 = .int .i64 k ∧ f.get 1 = .pointer (some ⟨s.next, 0, none⟩) ∧ Keep s s' ∧ s.next < s'.next ∧ s'.heap.get s.next = some (.cells [.int .i64 u, .slice a fs.length c] none) ∧ (∀ (j : Nat) (g : FlowD), j < k → fs[j]? = some g → flowErr u g = 0)) fs.length ?_ ?_
  · refine ⟨0, by omega, rfl, by simp, by simp, by simp, ⟨by (try simp only [pushed_next', upded_next']); omega, fun i hi => by simp -implicitDefEqProofs (disch := omega) [qb]⟩, by omega, ?_, fun j g hj => absurd hj (by omega)⟩
    simp -implicitDefEqProofs (disch := omega) [qb]
  rintro z f s' ⟨k, hk, rfl, hm, h3, h1, hkp, hnx, hg0, hz⟩
  have hkpa := hkp.1
  have hkpb := hkp.2
  by_cases hlt : k < fs.length
  · obtain ⟨g, hg⟩ : ∃ g, fs[k]? = some g := ⟨fs[k], by simp [hlt]⟩
    obtain ⟨b, off, o, cs, gg, rfl, hb, ho, hc, ht⟩ := FlAt.at (hf.keep hkp) hg
    have hErr : flowErr u g = if !isB g.fr (-1) (u - 1) || !isB g.to (-1) (u - 1) then 17 else if g.fr = g.to then 22 else if g.me && !eachB g.m 0 1000000000 then 2 else 0 := by
      rw [isB_end hu.1, isB_end hu.1]; rfl
    have hfin : ∀ e, flowErr u g = e → e ≠ 0 → checkErr u fs = e := fun e he hne => by
      rw [hce, firstErr_at hz hg (by rw [he]; exact hne), he]
    have hnext : flowErr u g = 0 → ∀ (j : Nat) (g' : FlowD), j < k + 1 → fs[j]? = some g' → flowErr u g' = 0 := fun h0 j g' hj hg' => by
      by_cases e : j = k
      · subst e; rw [hg] at hg'; cases hg'; exact h0
      · exact hz j g' (by omega) hg'
    obtain ⟨g0, g1, gm, m⟩ := g
    rw [FlowD.cs] at ht
    simp only [] at ht hErr
    with_reducible repeat first|apply Z0|apply Z1|apply Z2|apply Z3|apply Z4|apply Z5|refine Z6 rfl ?_|apply Z7|apply Z8|apply Z9|apply Z10|apply Z11|apply Z12|apply Z13|apply Z14|apply Z15|apply Z16
    refine Cd.reg (by kernel_rfl) (by conv => lhs; simp only [List.map_cons, List.map_nil]) (by conv => lhs; simp only [List.map_cons, List.map_nil, strip]) ?_
    apply Run.by_eq
    · intro self
      conv => lhs; simp -implicitDefEqProofs (maxSteps := 300000) (disch := omega) [-getElem?_pos, -getElem?_neg, h3, h1, hg0]
    try (with_reducible refine Run.ret ?_)
    with_reducible repeat first|apply Z0|apply Z1|apply Z2|apply Z3|apply Z4|apply Z5|refine Z6 rfl ?_|apply Z7|apply Z8|apply Z9|apply Z10|apply Z11|apply Z12|apply Z13|apply Z14|apply Z15|apply Z16
    with_reducible repeat first|apply Z0|apply Z1|apply Z2|apply Z3|apply Z4|apply Z5|refine Z6 rfl ?_|apply Z7|apply Z8|apply Z9|apply Z10|apply Z11|apply Z12|apply Z13|apply Z14|apply Z15|apply Z16
    apply Cd.ite rfl
    · conv => lhs; simp -implicitDefEqProofs (maxSteps := 300000) (disch := omega) [-getElem?_pos, -getElem?_neg]
    all_goals intro c2
    all_goals try (cases c2; done)
    all_goals try simp only [Bool.not_eq_true', Bool.not_eq_false', decide_eq_true_eq, decide_eq_false_iff_not] at c2
    all_goals with_reducible repeat first|apply Z0|apply Z1|apply Z2|apply Z3|apply Z4|apply Z5|refine Z6 rfl ?_|apply Z7|apply Z8|apply Z9|apply Z10|apply Z11|apply Z12|apply Z13|apply Z14|apply Z15|apply Z16
    · with_reducible repeat first|apply Z0|apply Z1|apply Z2|apply Z3|apply Z4|apply Z5|refine Z6 rfl ?_|apply Z7|apply Z8|apply Z9|apply Z10|apply Z11|apply Z12|apply Z13|apply Z14|apply Z15|apply Z16
      refine Cd.reg (by kernel_rfl) (by conv => lhs; simp only [List.map_cons, List.map_nil]) (by conv => lhs; simp only [List.map_cons, List.map_nil, strip]) ?_
      apply Run.by_eq
      · intro self
        conv => lhs; simp -implicitDefEqProofs (maxSteps := 300000) (disch := omega) [-getElem?_pos, -getElem?_neg, h3, h1, hg0, ho, hc, ht, hlt]
      try (with_reducible refine Run.ret ?_)
      with_reducible repeat first|apply Z0|apply Z1|apply Z2|apply Z3|apply Z4|apply Z5|refine Z6 rfl ?_|apply Z7|apply Z8|apply Z9|apply Z10|apply Z11|apply Z12|apply Z13|apply Z14|apply Z15|apply Z16
      with_reducible repeat first|apply Z0|apply Z1|apply Z2|apply Z3|apply Z4|apply Z5|refine Z6 rfl ?_|apply Z7|apply Z8|apply Z9|apply Z10|apply Z11|apply Z12|apply Z13|apply Z14|apply Z15|apply Z16
      refine Cd.reg (by kernel_rfl) (by conv => lhs; simp only [List.map_cons, List.map_nil]) (by conv => lhs; simp only [List.map_cons, List.map_nil, strip]) ?_
      apply Run.by_eq
      · intro self
        conv => lhs; simp -implicitDefEqProofs (maxSteps := 300000) (disch := omega) [-getElem?_pos, -getElem?_neg, h1, hg0]
      try (with_reducible refine Run.ret ?_)
      with_reducible repeat first|apply Z0|apply Z1|apply Z2|apply Z3|apply Z4|apply Z5|refine Z6 rfl ?_|apply Z7|apply Z8|apply Z9|apply Z10|apply Z11|apply Z12|apply Z13|apply Z14|apply Z15|apply Z16
      refine Run.call ((is_ev g0 (-1) (u - 1) _).mono fun v wr hv => ?_)
      obtain ⟨rfl, r⟩ := hv
      have ra := r.1
      have rb := r.2
      try simp only [pushed_next', upded_next'] at ra rb
      cases hA : isB g0 (-1) (u - 1) with
      | false =>
        have he : flowErr u ⟨g0, g1, gm, m⟩ = 17 := by rw [hErr, hA]; rfl
        apply Run.by_eq
        · intro self
          conv => lhs; simp -implicitDefEqProofs (maxSteps := 300000) (disch := omega) [-getElem?_pos, -getElem?_neg, hA]
        try (with_reducible refine Run.ret ?_)
        with_reducible repeat first|apply Z0|apply Z1|apply Z2|apply Z3|apply Z4|apply Z5|refine Z6 rfl ?_|apply Z7|apply Z8|apply Z9|apply Z10|apply Z11|apply Z12|apply Z13|apply Z14|apply Z15|apply Z16
        with_reducible repeat first|apply Z0|apply Z1|apply Z2|apply Z3|apply Z4|apply Z5|refine Z6 rfl ?_|apply Z7|apply Z8|apply Z9|apply Z10|apply Z11|apply Z12|apply Z13|apply Z14|apply Z15|apply Z16
        apply Cd.ite rfl
        · conv => lhs; simp -implicitDefEqProofs (maxSteps := 300000) (disch := omega) [-getElem?_pos, -getElem?_neg]
        all_goals intro c3
        all_goals try (cases c3; done)
        all_goals try simp only [Bool.not_eq_true', Bool.not_eq_false', decide_eq_true_eq, decide_eq_false_iff_not] at c3
        all_goals with_reducible repeat first|apply Z0|apply Z1|apply Z2|apply Z3|apply Z4|apply Z5|refine Z6 rfl ?_|apply Z7|apply Z8|apply Z9|apply Z10|apply Z11|apply Z12|apply Z13|apply Z14|apply Z15|apply Z16
        with_reducible repeat first|apply Z0|apply Z1|apply Z2|apply Z3|apply Z4|apply Z5|refine Z6 rfl ?_|apply Z7|apply Z8|apply Z9|apply Z10|apply Z11|apply Z12|apply Z13|apply Z14|apply Z15|apply Z16
        refine Cd.reg (by kernel_rfl) (by conv => lhs; simp only [List.map_cons, List.map_nil]) (by conv => lhs; simp only [List.map_cons, List.map_nil, strip]) ?_
        apply Run.by_eq
        · intro self
          conv => lhs; simp -implicitDefEqProofs (maxSteps := 300000) (disch := omega) [-getElem?_pos, -getElem?_neg]
        try (with_reducible refine Run.ret ?_)
        with_reducible repeat first|apply Z0|apply Z1|apply Z2|apply Z3|apply Z4|apply Z5|refine Z6 rfl ?_|apply Z7|apply Z8|apply Z9|apply Z10|apply Z11|apply Z12|apply Z13|apply Z14|apply Z15|apply Z16
        apply Leave.mk (by first | exact .inl rfl | exact .inr rfl) (by simp only [Fr.marks_put, fr0_marks, hm])
        · conv => lhs; simp -implicitDefEqProofs (disch := omega) [Try.results22, hm]
        exact ⟨by rw [hfin 17 he (by decide)]; rfl, ⟨by (try simp only [pushed_next', upded_next']); omega, fun i hi => by simp -implicitDefEqProofs (disch := omega) [hkpb, rb]⟩⟩
      | true =>
      apply Run.by_eq
      · intro self
        conv => lhs; simp -implicitDefEqProofs (maxSteps := 300000) (disch := omega) [-getElem?_pos, -getElem?_neg, hA, h1, hg0, rb]
      try (with_reducible refine Run.ret ?_)
      with_reducible repeat first|apply Z0|apply Z1|apply Z2|apply Z3|apply Z4|apply Z5|refine Z6 rfl ?_|apply Z7|apply Z8|apply Z9|apply Z10|apply Z11|apply Z12|apply Z13|apply Z14|apply Z15|apply Z16
      refine Run.call ((is_ev g1 (-1) (u - 1) _).mono fun v wt hv => ?_)
      obtain ⟨rfl, t⟩ := hv
      have ta := t.1
      have tb := t.2
      try simp only [pushed_next', upded_next'] at ta tb
      cases hB : isB g1 (-1) (u - 1) with
      | false =>
        have he : flowErr u ⟨g0, g1, gm, m⟩ = 17 := by rw [hErr, hA, hB]; rfl
        apply Run.by_eq
        · intro self
          conv => lhs; simp -implicitDefEqProofs (maxSteps := 300000) (disch := omega) [-getElem?_pos, -getElem?_neg, hB]
        try (with_reducible refine Run.ret ?_)
        with_reducible repeat first|apply Z0|apply Z1|apply Z2|apply Z3|apply Z4|apply Z5|refine Z6 rfl ?_|apply Z7|apply Z8|apply Z9|apply Z10|apply Z11|apply Z12|apply Z13|apply Z14|apply Z15|apply Z16
        with_reducible repeat first|apply Z0|apply Z1|apply Z2|apply Z3|apply Z4|apply Z5|refine Z6 rfl ?_|apply Z7|apply Z8|apply Z9|apply Z10|apply Z11|apply Z12|apply Z13|apply Z14|apply Z15|apply Z16
        apply Cd.ite rfl
        · conv => lhs; simp -implicitDefEqProofs (maxSteps := 300000) (disch := omega) [-getElem?_pos, -getElem?_neg]
        all_goals intro c3
        all_goals try (cases c3; done)
        all_goals try simp only [Bool.not_eq_true', Bool.not_eq_false', decide_eq_true_eq, decide_eq_false_iff_not] at c3
        all_goals with_reducible repeat first|apply Z0|apply Z1|apply Z2|apply Z3|apply Z4|apply Z5|refine Z6 rfl ?_|apply Z7|apply Z8|apply Z9|apply Z10|apply Z11|apply Z12|apply Z13|apply Z14|apply Z15|apply Z16
        with_reducible repeat first|apply Z0|apply Z1|apply Z2|apply Z3|apply Z4|apply Z5|refine Z6 rfl ?_|apply Z7|apply Z8|apply Z9|apply Z10|apply Z11|apply Z12|apply Z13|apply Z14|apply Z15|apply Z16
        refine Cd.reg (by kernel_rfl) (by conv => lhs; simp only [List.map_cons, List.map_nil]) (by conv => lhs; simp only [List.map_cons, List.map_nil, strip]) ?_
        apply Run.by_eq
        · intro self
          conv => lhs; simp -implicitDefEqProofs (maxSteps := 300000) (disch := omega) [-getElem?_pos, -getElem?_neg]
        try (with_reducible refine Run.ret ?_)
        with_reducible repeat first|apply Z0|apply Z1|apply Z2|apply Z3|apply Z4|apply Z5|refine Z6 rfl ?_|apply Z7|apply Z8|apply Z9|apply Z10|apply Z11|apply Z12|apply Z13|apply Z14|apply Z15|apply Z16
        apply Leave.mk (by first | exact .inl rfl | exact .inr rfl) (by simp only [Fr.marks_put, fr0_marks, hm])
        · conv => lhs; simp -implicitDefEqProofs (disch := omega) [Try.results22, hm]
        exact ⟨by rw [hfin 17 he (by decide)]; rfl, ⟨by (try simp only [pushed_next', upded_next']); omega, fun i hi => by simp -implicitDefEqProofs (disch := omega) [hkpb, rb, tb]⟩⟩
      | true =>
      apply Run.by_eq
      · intro self
        conv => lhs; simp -implicitDefEqProofs (maxSteps := 300000) (disch := omega) [-getElem?_pos, -getElem?_neg, hB]
      try (with_reducible refine Run.ret ?_)
      with_reducible repeat first|apply Z0|apply Z1|apply Z2|apply Z3|apply Z4|apply Z5|refine Z6 rfl ?_|apply Z7|apply Z8|apply Z9|apply Z10|apply Z11|apply Z12|apply Z13|apply Z14|apply Z15|apply Z16
      with_reducible repeat first|apply Z0|apply Z1|apply Z2|apply Z3|apply Z4|apply Z5|refine Z6 rfl ?_|apply Z7|apply Z8|apply Z9|apply Z10|apply Z11|apply Z12|apply Z13|apply Z14|apply Z15|apply Z16
      apply Cd.ite rfl
      · conv => lhs; simp -implicitDefEqProofs (maxSteps := 300000) (disch := omega) [-getElem?_pos, -getElem?_neg]
      all_goals intro c3
      all_goals try (cases c3; done)
      all_goals try simp only [Bool.not_eq_true', Bool.not_eq_false', decide_eq_true_eq, decide_eq_false_iff_not] at c3
      all_goals with_reducible repeat first|apply Z0|apply Z1|apply Z2|apply Z3|apply Z4|apply Z5|refine Z6 rfl ?_|apply Z7|apply Z8|apply Z9|apply Z10|apply Z11|apply Z12|apply Z13|apply Z14|apply Z15|apply Z16
      with_reducible repeat first|apply Z0|apply Z1|apply Z2|apply Z3|apply Z4|apply Z5|refine Z6 rfl ?_|apply Z7|apply Z8|apply Z9|apply Z10|apply Z11|apply Z12|apply Z13|apply Z14|apply Z15|apply Z16
      refine Cd.reg (by kernel_rfl) (by conv => lhs; simp only [List.map_cons, List.map_nil]) (by conv => lhs; simp only [List.map_cons, List.map_nil, strip]) ?_
      apply Run.by_eq
      · intro self
        conv => lhs; simp -implicitDefEqProofs (maxSteps := 300000) (disch := omega) [-getElem?_pos, -getElem?_neg, rb, tb]
      try (with_reducible refine Run.ret ?_)
      with_reducible repeat first|apply Z0|apply Z1|apply Z2|apply Z3|apply Z4|apply Z5|refine Z6 rfl ?_|apply Z7|apply Z8|apply Z9|apply Z10|apply Z11|apply Z12|apply Z13|apply Z14|apply Z15|apply Z16
      with_reducible repeat first|apply Z0|apply Z1|apply Z2|apply Z3|apply Z4|apply Z5|refine Z6 rfl ?_|apply Z7|apply Z8|apply Z9|apply Z10|apply Z11|apply Z12|apply Z13|apply Z14|apply Z15|apply Z16
      apply Cd.ite rfl
      · conv => lhs; simp -implicitDefEqProofs (maxSteps := 300000) (disch := omega) [-getElem?_pos, -getElem?_neg]
      all_goals intro c4
      all_goals try (cases c4; done)
      all_goals try simp only [Bool.not_eq_true', Bool.not_eq_false', decide_eq_true_eq, decide_eq_false_iff_not] at c4
      all_goals with_reducible repeat first|apply Z0|apply Z1|apply Z2|apply Z3|apply Z4|apply Z5|refine Z6 rfl ?_|apply Z7|apply Z8|apply Z9|apply Z10|apply Z11|apply Z12|apply Z13|apply Z14|apply Z15|apply Z16
      · have he : flowErr u ⟨g0, g1, gm, m⟩ = 22 := by rw [hErr, hA, hB]; simp [c4]
        with_reducible repeat first|apply Z0|apply Z1|apply Z2|apply Z3|apply Z4|apply Z5|refine Z6 rfl ?_|apply Z7|apply Z8|apply Z9|apply Z10|apply Z11|apply Z12|apply Z13|apply Z14|apply Z15|apply Z16
        refine Cd.reg (by kernel_rfl) (by conv => lhs; simp only [List.map_cons, List.map_nil]) (by conv => lhs; simp only [List.map_cons, List.map_nil, strip]) ?_
        apply Run.by_eq
        · intro self
          conv => lhs; simp -implicitDefEqProofs (maxSteps := 300000) (disch := omega) [-getElem?_pos, -getElem?_neg]
        try (with_reducible refine Run.ret ?_)
        with_reducible repeat first|apply Z0|apply Z1|apply Z2|apply Z3|apply Z4|apply Z5|refine Z6 rfl ?_|apply Z7|apply Z8|apply Z9|apply Z10|apply Z11|apply Z12|apply Z13|apply Z14|apply Z15|apply Z16
        apply Leave.mk (by first | exact .inl rfl | exact .inr rfl) (by simp only [Fr.marks_put, fr0_marks, hm])
        · conv => lhs; simp -implicitDefEqProofs (disch := omega) [Try.results22, hm]
        exact ⟨by rw [hfin 22 he (by decide)]; rfl, ⟨by (try simp only [pushed_next', upded_next']); omega, fun i hi => by simp -implicitDefEqProofs (disch := omega) [hkpb, rb, tb]⟩⟩
      cases gm with
      | false =>
        have he : flowErr u ⟨g0, g1, false, m⟩ = 0 := by rw [hErr, hA, hB]; simp [c4]
        with_reducible repeat first|apply Z0|apply Z1|apply Z2|apply Z3|apply Z4|apply Z5|refine Z6 rfl ?_|apply Z7|apply Z8|apply Z9|apply Z10|apply Z11|apply Z12|apply Z13|apply Z14|apply Z15|apply Z16
        refine Cd.reg (by kernel_rfl) (by conv => lhs; simp only [List.map_cons, List.map_nil]) (by conv => lhs; simp only [List.map_cons, List.map_nil, strip]) ?_
        apply Run.by_eq
        · intro self
          conv => lhs; simp -implicitDefEqProofs (maxSteps := 300000) (disch := omega) [-getElem?_pos, -getElem?_neg, rb, tb]
        try (with_reducible refine Run.ret ?_)
        with_reducible repeat first|apply Z0|apply Z1|apply Z2|apply Z3|apply Z4|apply Z5|refine Z6 rfl ?_|apply Z7|apply Z8|apply Z9|apply Z10|apply Z11|apply Z12|apply Z13|apply Z14|apply Z15|apply Z16
        with_reducible repeat first|apply Z0|apply Z1|apply Z2|apply Z3|apply Z4|apply Z5|refine Z6 rfl ?_|apply Z7|apply Z8|apply Z9|apply Z10|apply Z11|apply Z12|apply Z13|apply Z14|apply Z15|apply Z16
        apply Cd.ite rfl
        · conv => lhs; simp -implicitDefEqProofs (maxSteps := 300000) (disch := omega) [-getElem?_pos, -getElem?_neg]
        all_goals intro c5
        all_goals try (cases c5; done)
        all_goals try simp only [Bool.not_eq_true', Bool.not_eq_false', decide_eq_true_eq, decide_eq_false_iff_not] at c5
        all_goals with_reducible repeat first|apply Z0|apply Z1|apply Z2|apply Z3|apply Z4|apply Z5|refine Z6 rfl ?_|apply Z7|apply Z8|apply Z9|apply Z10|apply Z11|apply Z12|apply Z13|apply Z14|apply Z15|apply Z16
        with_reducible repeat first|apply Z0|apply Z1|apply Z2|apply Z3|apply Z4|apply Z5|refine Z6 rfl ?_|apply Z7|apply Z8|apply Z9|apply Z10|apply Z11|apply Z12|apply Z13|apply Z14|apply Z15|apply Z16
        refine Cd.reg (by kernel_rfl) (by conv => lhs; simp only [List.map_cons, List.map_nil]) (by conv => lhs; simp only [List.map_cons, List.map_nil, strip]) ?_
        apply Run.by_eq
        · intro self
          conv => lhs; simp -implicitDefEqProofs (maxSteps := 300000) (disch := omega) [-getElem?_pos, -getElem?_neg, h3]
        try (with_reducible refine Run.ret ?_)
        with_reducible repeat first|apply Z0|apply Z1|apply Z2|apply Z3|apply Z4|apply Z5|refine Z6 rfl ?_|apply Z7|apply Z8|apply Z9|apply Z10|apply Z11|apply Z12|apply Z13|apply Z14|apply Z15|apply Z16
        refine LoopK.nm (fs.length - (k + 1)) (by omega) ⟨k + 1, by omega, rfl, by simp [hm], by simp, by simp [h1], ⟨by (try simp only [pushed_next', upded_next']); omega, fun i hi => by simp -implicitDefEqProofs (disch := omega) [hkpb, rb, tb]⟩, by (try simp only [pushed_next', upded_next']); omega, ?_, hnext he⟩
        simp -implicitDefEqProofs (disch := omega) [hg0, rb, tb]
      | true =>
        with_reducible repeat first|apply Z0|apply Z1|apply Z2|apply Z3|apply Z4|apply Z5|refine Z6 rfl ?_|apply Z7|apply Z8|apply Z9|apply Z10|apply Z11|apply Z12|apply Z13|apply Z14|apply Z15|apply Z16
        refine Cd.reg (by kernel_rfl) (by conv => lhs; simp only [List.map_cons, List.map_nil]) (by conv => lhs; simp only [List.map_cons, List.map_nil, strip]) ?_
        apply Run.by_eq
        · intro self
          conv => lhs; simp -implicitDefEqProofs (maxSteps := 300000) (disch := omega) [-getElem?_pos, -getElem?_neg, rb, tb]
        try (with_reducible refine Run.ret ?_)
        with_reducible repeat first|apply Z0|apply Z1|apply Z2|apply Z3|apply Z4|apply Z5|refine Z6 rfl ?_|apply Z7|apply Z8|apply Z9|apply Z10|apply Z11|apply Z12|apply Z13|apply Z14|apply Z15|apply Z16
        refine Run.call ((each_ev m 0 1000000000 _).mono fun v wn hv => ?_)
        obtain ⟨rfl, n⟩ := hv
        have na := n.1
        have nb := n.2
        try simp only [pushed_next', upded_next'] at na nb
        apply Run.by_eq
        · intro self
          conv => lhs; simp -implicitDefEqProofs (maxSteps := 300000) (disch := omega) [-getElem?_pos, -getElem?_neg]
        try (with_reducible refine Run.ret ?_)
        with_reducible repeat first|apply Z0|apply Z1|apply Z2|apply Z3|apply Z4|apply Z5|refine Z6 rfl ?_|apply Z7|apply Z8|apply Z9|apply Z10|apply Z11|apply Z12|apply Z13|apply Z14|apply Z15|apply Z16
        with_reducible repeat first|apply Z0|apply Z1|apply Z2|apply Z3|apply Z4|apply Z5|refine Z6 rfl ?_|apply Z7|apply Z8|apply Z9|apply Z10|apply Z11|apply Z12|apply Z13|apply Z14|apply Z15|apply Z16
        apply Cd.ite rfl
        · conv => lhs; simp -implicitDefEqProofs (maxSteps := 300000) (disch := omega) [-getElem?_pos, -getElem?_neg]
        all_goals intro c5
        all_goals try (cases c5; done)
        all_goals try simp only [Bool.not_eq_true', Bool.not_eq_false', decide_eq_true_eq, decide_eq_false_iff_not] at c5
        all_goals with_reducible repeat first|apply Z0|apply Z1|apply Z2|apply Z3|apply Z4|apply Z5|refine Z6 rfl ?_|apply Z7|apply Z8|apply Z9|apply Z10|apply Z11|apply Z12|apply Z13|apply Z14|apply Z15|apply Z16
        · have he : flowErr u ⟨g0, g1, true, m⟩ = 2 := by rw [hErr, hA, hB]; simp [c4, c5]
          with_reducible repeat first|apply Z0|apply Z1|apply Z2|apply Z3|apply Z4|apply Z5|refine Z6 rfl ?_|apply Z7|apply Z8|apply Z9|apply Z10|apply Z11|apply Z12|apply Z13|apply Z14|apply Z15|apply Z16
          refine Cd.reg (by kernel_rfl) (by conv => lhs; simp only [List.map_cons, List.map_nil]) (by conv => lhs; simp only [List.map_cons, List.map_nil, strip]) ?_
          apply Run.by_eq
          · intro self
            conv => lhs; simp -implicitDefEqProofs (maxSteps := 300000) (disch := omega) [-getElem?_pos, -getElem?_neg]
          try (with_reducible refine Run.ret ?_)
          with_reducible repeat first|apply Z0|apply Z1|apply Z2|apply Z3|apply Z4|apply Z5|refine Z6 rfl ?_|apply Z7|apply Z8|apply Z9|apply Z10|apply Z11|apply Z12|apply Z13|apply Z14|apply Z15|apply Z16
          apply Leave.mk (by first | exact .inl rfl | exact .inr rfl) (by simp only [Fr.marks_put, fr0_marks, hm])
          · conv => lhs; simp -implicitDefEqProofs (disch := omega) [Try.results22, hm]
          exact ⟨by rw [hfin 2 he (by decide)]; rfl, ⟨by (try simp only [pushed_next', upded_next']); omega, fun i hi => by simp -implicitDefEqProofs (disch := omega) [hkpb, rb, tb, nb]⟩⟩
        · have he : flowErr u ⟨g0, g1, true, m⟩ = 0 := by rw [hErr, hA, hB]; simp [c4, c5]
          with_reducible repeat first|apply Z0|apply Z1|apply Z2|apply Z3|apply Z4|apply Z5|refine Z6 rfl ?_|apply Z7|apply Z8|apply Z9|apply Z10|apply Z11|apply Z12|apply Z13|apply Z14|apply Z15|apply Z16
          refine Cd.reg (by kernel_rfl) (by conv => lhs; simp only [List.map_cons, List.map_nil]) (by conv => lhs; simp only [List.map_cons, List.map_nil, strip]) ?_
          apply Run.by_eq
          · intro self
            conv => lhs; simp -implicitDefEqProofs (maxSteps := 300000) (disch := omega) [-getElem?_pos, -getElem?_neg, h3]
          try (with_reducible refine Run.ret ?_)
          with_reducible repeat first|apply Z0|apply Z1|apply Z2|apply Z3|apply Z4|apply Z5|refine Z6 rfl ?_|apply Z7|apply Z8|apply Z9|apply Z10|apply Z11|apply Z12|apply Z13|apply Z14|apply Z15|apply Z16
          refine LoopK.nm (fs.length - (k + 1)) (by omega) ⟨k + 1, by omega, rfl, by simp [hm], by simp, by simp [h1], ⟨by (try simp only [pushed_next', upded_next']); omega, fun i hi => by simp -implicitDefEqProofs (disch := omega) [hkpb, rb, tb, nb]⟩, by (try simp only [pushed_next', upded_next']); omega, ?_, hnext he⟩
          simp -implicitDefEqProofs (disch := omega) [hg0, rb, tb, nb]
    · simp at c2; omega
  · obtain rfl : k = fs.length := by omega
    with_reducible repeat first|apply Z0|apply Z1|apply Z2|apply Z3|apply Z4|apply Z5|refine Z6 rfl ?_|apply Z7|apply Z8|apply Z9|apply Z10|apply Z11|apply Z12|apply Z13|apply Z14|apply Z15|apply Z16
    refine Cd.reg (by kernel_rfl) (by conv => lhs; simp only [List.map_cons, List.map_nil]) (by conv => lhs; simp only [List.map_cons, List.map_nil, strip]) ?_
    apply Run.by_eq
    · intro self
      conv => lhs; simp -implicitDefEqProofs (maxSteps := 300000) (disch := omega) [-getElem?_pos, -getElem?_neg, h3, h1, hg0]
    try (with_reducible refine Run.ret ?_)
    with_reducible repeat first|apply Z0|apply Z1|apply Z2|apply Z3|apply Z4|apply Z5|refine Z6 rfl ?_|apply Z7|apply Z8|apply Z9|apply Z10|apply Z11|apply Z12|apply Z13|apply Z14|apply Z15|apply Z16
    with_reducible repeat first|apply Z0|apply Z1|apply Z2|apply Z3|apply Z4|apply Z5|refine Z6 rfl ?_|apply Z7|apply Z8|apply Z9|apply Z10|apply Z11|apply Z12|apply Z13|apply Z14|apply Z15|apply Z16
    apply Cd.ite rfl
    · conv => lhs; simp -implicitDefEqProofs (maxSteps := 300000) (disch := omega) [-getElem?_pos, -getElem?_neg]
    all_goals intro c2
    all_goals try (cases c2; done)
    all_goals try simp only [Bool.not_eq_true', Bool.not_eq_false', decide_eq_true_eq, decide_eq_false_iff_not] at c2
    all_goals with_reducible repeat first|apply Z0|apply Z1|apply Z2|apply Z3|apply Z4|apply Z5|refine Z6 rfl ?_|apply Z7|apply Z8|apply Z9|apply Z10|apply Z11|apply Z12|apply Z13|apply Z14|apply Z15|apply Z16
    with_reducible repeat first|apply Z0|apply Z1|apply Z2|apply Z3|apply Z4|apply Z5|refine Z6 rfl ?_|apply Z7|apply Z8|apply Z9|apply Z10|apply Z11|apply Z12|apply Z13|apply Z14|apply Z15|apply Z16
    refine Cd.reg (by kernel_rfl) (by conv => lhs; simp only [List.map_cons, List.map_nil]) (by conv => lhs; simp only [List.map_cons, List.map_nil, strip]) ?_
    apply Run.by_eq
    · intro self
      conv => lhs; simp -implicitDefEqProofs (maxSteps := 300000) (disch := omega) [-getElem?_pos, -getElem?_neg]
    try (with_reducible refine Run.ret ?_)
    with_reducible repeat first|apply Z0|apply Z1|apply Z2|apply Z3|apply Z4|apply Z5|refine Z6 rfl ?_|apply Z7|apply Z8|apply Z9|apply Z10|apply Z11|apply Z12|apply Z13|apply Z14|apply Z15|apply Z16
    apply Leave.mk (by first | exact .inl rfl | exact .inr rfl) (by simp only [Fr.marks_put, fr0_marks, hm])
    · conv => lhs; simp -implicitDefEqProofs (disch := omega) [Try.results22, hm]
    exact ⟨by rw [hce, firstErr_zero fun j g hg => hz j g (List.getElem?_eq_some_iff.1 hg).1 hg]; rfl, hkp⟩
end Go.Proofs.Ytifkpaomhnlahaa
