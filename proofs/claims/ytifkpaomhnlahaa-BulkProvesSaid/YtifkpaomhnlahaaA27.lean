/-
  Prove and the reference's Prove answer as stated, for every plant. It holds with no condition but those that are written in each theorem.
-/
import Derived.Test.YtifkpaomhnlahaaA26
import Derived.Test.YtifkpaomhnlahaaA13
namespace Go.Proofs.Ytifkpaomhnlahaa
open Go Kern
theorem SlAt.same {n : Nat} {s s' : St} {b o m c : Nat} {l : List (List Value)} (h : SlAt n s (.slice (some ⟨b, o, none⟩) m c) l) (h1 : b < s.next → b < s'.next) (h2 : s'.heap.get b = s.heap.get b) : SlAt n s' (.slice (some ⟨b, o, none⟩) m c) l := by
  cases h with
  | mk hb ho hc he => exact .mk (h1 hb) (h2.trans ho) hc he
theorem SlAt.lt {n : Nat} {s : St} {b o m c : Nat} {l : List (List Value)} (h : SlAt n s (.slice (some ⟨b, o, none⟩) m c) l) : b < s.next := by
  cases h with
  | mk hb ho hc he => exact hb
set_option maxRecDepth 100000 in
set_option maxHeartbeats 1000000 in
theorem refProve_ev (u : Int) (v : Value) (fs : List FlowD) (s : St) (hf : FlAt s v fs) (hl : fs.length ≤ 1000000) :
    Ev TT 31 [plantV u v] s fun r s' => Keep s s' ∧ ∃ w, r = .tuple #[w, .int .i64 (proveR u fs).2.1, .int .i64 (proveR u fs).2.2] ∧ IntsAt s' w (proveR u fs).1 := by
  unfold plantV
  refine Ev.intro (fn := Try.f31) rfl (by kernel_rfl) rfl rfl ?_
  with_reducible repeat first|apply Z0|apply Z1|apply Z2|apply Z3|apply Z4|apply Z5|refine Z6 rfl ?_|apply Z7|apply Z8|apply Z9|apply Z10|apply Z11|apply Z12|apply Z13|apply Z14|apply Z15|apply Z16
  with_reducible repeat first|apply Z0|apply Z1|apply Z2|apply Z3|apply Z4|apply Z5|refine Z6 rfl ?_|apply Z7|apply Z8|apply Z9|apply Z10|apply Z11|apply Z12|apply Z13|apply Z14|apply Z15|apply Z16
  refine Cd.reg (by kernel_rfl) (by conv => lhs; simp only [List.map_cons, List.map_nil]) (by conv => lhs; simp only [List.map_cons, List.map_nil, strip]) ?_
  apply Run.by_eq
  · intro self
    conv => lhs; simp -implicitDefEqProofs (maxSteps := 300000) (disch := omega) [-getElem?_pos, -getElem?_neg]
  try (with_reducible refine Run.ret ?_)
  with_reducible repeat first|apply Z0|apply Z1|apply Z2|apply Z3|apply Z4|apply Z5|refine Z6 rfl ?_|apply Z7|apply Z8|apply Z9|apply Z10|apply Z11|apply Z12|apply Z13|apply Z14|apply Z15|apply Z16
  with_reducible repeat first|apply Z0|apply Z1|apply Z2|apply Z3|apply Z4|apply Z5|refine Z6 rfl ?_|apply Z7|apply Z8|apply Z9|apply Z10|apply Z11|apply Z12|apply Z13|apply Z14|apply Z15|apply Z16
  refine Cd.reg (by kernel_rfl) (by conv => lhs; simp only [List.map_cons, List.map_nil]) (by conv => lhs; simp only [List.map_cons, List.map_nil, strip]) ?_
  apply Run.by_eq
  · intro self
    conv => lhs; simp -implicitDefEqProofs (maxSteps := 300000) (disch := omega) [-getElem?_pos, -getElem?_neg]
  try (with_reducible refine Run.ret ?_)
  with_reducible repeat first|apply Z0|apply Z1|apply Z2|apply Z3|apply Z4|apply Z5|refine Z6 rfl ?_|apply Z7|apply Z8|apply Z9|apply Z10|apply Z11|apply Z12|apply Z13|apply Z14|apply Z15|apply Z16
  refine Run.call ((refCheck_ev u v fs _ (hf.keep ⟨by (try simp only [pushed_next', upded_next']); omega, fun i hi => by simp -implicitDefEqProofs (disch := omega) []⟩) hl).mono fun v wq hv => ?_)
  obtain ⟨rfl, q⟩ := hv
  have qa := q.1
  have qb := q.2
  try simp only [pushed_next', upded_next'] at qa qb
  apply Run.by_eq
  · intro self
    conv => lhs; simp -implicitDefEqProofs (maxSteps := 300000) (disch := omega) [-getElem?_pos, -getElem?_neg]
  try (with_reducible refine Run.ret ?_)
  with_reducible repeat first|apply Z0|apply Z1|apply Z2|apply Z3|apply Z4|apply Z5|refine Z6 rfl ?_|apply Z7|apply Z8|apply Z9|apply Z10|apply Z11|apply Z12|apply Z13|apply Z14|apply Z15|apply Z16
  with_reducible repeat first|apply Z0|apply Z1|apply Z2|apply Z3|apply Z4|apply Z5|refine Z6 rfl ?_|apply Z7|apply Z8|apply Z9|apply Z10|apply Z11|apply Z12|apply Z13|apply Z14|apply Z15|apply Z16
  refine Cd.reg (by kernel_rfl) (by conv => lhs; simp only [List.map_cons, List.map_nil]) (by conv => lhs; simp only [List.map_cons, List.map_nil, strip]) ?_
  apply Run.by_eq
  · intro self
    conv => lhs; simp -implicitDefEqProofs (maxSteps := 300000) (disch := omega) [-getElem?_pos, -getElem?_neg]
  try (with_reducible refine Run.ret ?_)
  with_reducible repeat first|apply Z0|apply Z1|apply Z2|apply Z3|apply Z4|apply Z5|refine Z6 rfl ?_|apply Z7|apply Z8|apply Z9|apply Z10|apply Z11|apply Z12|apply Z13|apply Z14|apply Z15|apply Z16
  with_reducible repeat first|apply Z0|apply Z1|apply Z2|apply Z3|apply Z4|apply Z5|refine Z6 rfl ?_|apply Z7|apply Z8|apply Z9|apply Z10|apply Z11|apply Z12|apply Z13|apply Z14|apply Z15|apply Z16
  apply Cd.ite rfl
  · conv => lhs; simp -implicitDefEqProofs (maxSteps := 300000) (disch := omega) [-getElem?_pos, -getElem?_neg]
  all_goals intro c0
  all_goals try (cases c0; done)
  all_goals try simp only [Bool.not_eq_true', Bool.not_eq_false', decide_eq_true_eq, decide_eq_false_iff_not] at c0
  all_goals with_reducible repeat first|apply Z0|apply Z1|apply Z2|apply Z3|apply Z4|apply Z5|refine Z6 rfl ?_|apply Z7|apply Z8|apply Z9|apply Z10|apply Z11|apply Z12|apply Z13|apply Z14|apply Z15|apply Z16
  · with_reducible repeat first|apply Z0|apply Z1|apply Z2|apply Z3|apply Z4|apply Z5|refine Z6 rfl ?_|apply Z7|apply Z8|apply Z9|apply Z10|apply Z11|apply Z12|apply Z13|apply Z14|apply Z15|apply Z16
    refine Cd.reg (by kernel_rfl) (by conv => lhs; simp only [List.map_cons, List.map_nil]) (by conv => lhs; simp only [List.map_cons, List.map_nil, strip]) ?_
    apply Run.by_eq
    · intro self
      conv => lhs; simp -implicitDefEqProofs (maxSteps := 300000) (disch := omega) [-getElem?_pos, -getElem?_neg]
    try (with_reducible refine Run.ret ?_)
    with_reducible repeat first|apply Z0|apply Z1|apply Z2|apply Z3|apply Z4|apply Z5|refine Z6 rfl ?_|apply Z7|apply Z8|apply Z9|apply Z10|apply Z11|apply Z12|apply Z13|apply Z14|apply Z15|apply Z16
    apply Leave.mk (by first | exact .inl rfl | exact .inr rfl) (by simp only [Fr.marks_put, fr0_marks])
    · conv => lhs; simp -implicitDefEqProofs (disch := omega) [Try.results31]
    have : proveR u fs = ([], 0, checkErr u fs) := by unfold proveR; rw [if_pos c0]
    rw [this]
    exact ⟨⟨by (try simp only [pushed_next', upded_next']); omega, fun i hi => by simp -implicitDefEqProofs (disch := omega) [qb]⟩, _, rfl, .nil 0⟩
  have hck : checkErr u fs = 0 := c0
  obtain ⟨hu1, hu2, hl20, _⟩ := checkErr_ok hck
  obtain ⟨n, hn⟩ : ∃ n : Nat, u = n := ⟨u.toNat, by omega⟩
  subst hn
  have hpr : proveR n fs = match provF (rtF (-1) fs 0 id) fs n n 0 with | some p => (p.1, (p.2 : Int), 0) | none => ([], 0, 5) := by unfold proveR; rw [if_neg (by simp [hck])]; rfl
  with_reducible repeat first|apply Z0|apply Z1|apply Z2|apply Z3|apply Z4|apply Z5|refine Z6 rfl ?_|apply Z7|apply Z8|apply Z9|apply Z10|apply Z11|apply Z12|apply Z13|apply Z14|apply Z15|apply Z16
  refine Cd.reg (by kernel_rfl) (by conv => lhs; simp only [List.map_cons, List.map_nil]) (by conv => lhs; simp only [List.map_cons, List.map_nil, strip]) ?_
  apply Run.by_eq
  · intro self
    conv => lhs; simp -implicitDefEqProofs (maxSteps := 300000) (disch := omega) [-getElem?_pos, -getElem?_neg, qb]
  try (with_reducible refine Run.ret ?_)
  with_reducible repeat first|apply Z0|apply Z1|apply Z2|apply Z3|apply Z4|apply Z5|refine Z6 rfl ?_|apply Z7|apply Z8|apply Z9|apply Z10|apply Z11|apply Z12|apply Z13|apply Z14|apply Z15|apply Z16
  refine Run.call ((clash_ev n v fs _ (hf.keep ⟨by (try simp only [pushed_next', upded_next']); omega, fun i hi => by simp -implicitDefEqProofs (disch := omega) [qb]⟩) hck).mono fun r w2 hv => ?_)
  obtain ⟨k2, wv, rfl, hw⟩ := hv
  have k2a := k2.1
  have k2b := k2.2
  unfold clashR at hw ⊢
  apply Run.by_eq
  · intro self
    conv => lhs; simp -implicitDefEqProofs (maxSteps := 300000) (disch := omega) [-getElem?_pos, -getElem?_neg]
  try (with_reducible refine Run.ret ?_)
  with_reducible repeat first|apply Z0|apply Z1|apply Z2|apply Z3|apply Z4|apply Z5|refine Z6 rfl ?_|apply Z7|apply Z8|apply Z9|apply Z10|apply Z11|apply Z12|apply Z13|apply Z14|apply Z15|apply Z16
  cases hp : provF (rtF (-1) fs 0 id) fs n n 0 with
  | none =>
    rw [hp] at hw hpr
    obtain ⟨a, c, rfl⟩ := hw.shape
    with_reducible repeat first|apply Z0|apply Z1|apply Z2|apply Z3|apply Z4|apply Z5|refine Z6 rfl ?_|apply Z7|apply Z8|apply Z9|apply Z10|apply Z11|apply Z12|apply Z13|apply Z14|apply Z15|apply Z16
    refine Cd.reg (by kernel_rfl) (by conv => lhs; simp only [List.map_cons, List.map_nil]) (by conv => lhs; simp only [List.map_cons, List.map_nil, strip]) ?_
    apply Run.by_eq
    · intro self
      conv => lhs; simp -implicitDefEqProofs (maxSteps := 300000) (disch := omega) [-getElem?_pos, -getElem?_neg]
    try (with_reducible refine Run.ret ?_)
    with_reducible repeat first|apply Z0|apply Z1|apply Z2|apply Z3|apply Z4|apply Z5|refine Z6 rfl ?_|apply Z7|apply Z8|apply Z9|apply Z10|apply Z11|apply Z12|apply Z13|apply Z14|apply Z15|apply Z16
    with_reducible repeat first|apply Z0|apply Z1|apply Z2|apply Z3|apply Z4|apply Z5|refine Z6 rfl ?_|apply Z7|apply Z8|apply Z9|apply Z10|apply Z11|apply Z12|apply Z13|apply Z14|apply Z15|apply Z16
    apply Cd.ite rfl
    · conv => lhs; simp -implicitDefEqProofs (maxSteps := 300000) (disch := omega) [-getElem?_pos, -getElem?_neg]
    all_goals intro c1
    all_goals try (cases c1; done)
    all_goals try simp only [Bool.not_eq_true', Bool.not_eq_false', decide_eq_true_eq, decide_eq_false_iff_not] at c1
    all_goals with_reducible repeat first|apply Z0|apply Z1|apply Z2|apply Z3|apply Z4|apply Z5|refine Z6 rfl ?_|apply Z7|apply Z8|apply Z9|apply Z10|apply Z11|apply Z12|apply Z13|apply Z14|apply Z15|apply Z16
    with_reducible repeat first|apply Z0|apply Z1|apply Z2|apply Z3|apply Z4|apply Z5|refine Z6 rfl ?_|apply Z7|apply Z8|apply Z9|apply Z10|apply Z11|apply Z12|apply Z13|apply Z14|apply Z15|apply Z16
    refine Cd.reg (by kernel_rfl) (by conv => lhs; simp only [List.map_cons, List.map_nil]) (by conv => lhs; simp only [List.map_cons, List.map_nil, strip]) ?_
    apply Run.by_eq
    · intro self
      conv => lhs; simp -implicitDefEqProofs (maxSteps := 300000) (disch := omega) [-getElem?_pos, -getElem?_neg]
    try (with_reducible refine Run.ret ?_)
    with_reducible repeat first|apply Z0|apply Z1|apply Z2|apply Z3|apply Z4|apply Z5|refine Z6 rfl ?_|apply Z7|apply Z8|apply Z9|apply Z10|apply Z11|apply Z12|apply Z13|apply Z14|apply Z15|apply Z16
    apply Leave.mk (by first | exact .inl rfl | exact .inr rfl) (by simp only [Fr.marks_put, fr0_marks])
    · conv => lhs; simp -implicitDefEqProofs (disch := omega) [Try.results31]
    rw [hpr]
    exact ⟨⟨by omega, fun i hi => by rw [k2b i (by omega)]; simp -implicitDefEqProofs (disch := omega) [qb]⟩, _, rfl, .nil 0⟩
  | some p =>
    rw [hp] at hw hpr
    have hne : p.1 ≠ [] := by
      obtain ⟨k, hk, hat⟩ := provF_some hp
      unfold provAt at hat
      split at hat
      · cases hz : nzK (excM (clsN (rtF (-1) fs 0 id) k n) fs) with
        | none => rw [hz] at hat; cases hat
        | some j => rw [hz] at hat; cases hat; exact cls_self _ (by omega)
      · cases hat
    replace hw : IntsAt w2 wv p.1 := hw
    obtain ⟨a, c, hwv⟩ := hw.shape
    have hlen : p.1.length ≠ 0 := fun h => hne (List.eq_nil_of_length_eq_zero h)
    rw [List.length_map] at hwv
    subst hwv
    with_reducible repeat first|apply Z0|apply Z1|apply Z2|apply Z3|apply Z4|apply Z5|refine Z6 rfl ?_|apply Z7|apply Z8|apply Z9|apply Z10|apply Z11|apply Z12|apply Z13|apply Z14|apply Z15|apply Z16
    refine Cd.reg (by kernel_rfl) (by conv => lhs; simp only [List.map_cons, List.map_nil]) (by conv => lhs; simp only [List.map_cons, List.map_nil, strip]) ?_
    apply Run.by_eq
    · intro self
      conv => lhs; simp -implicitDefEqProofs (maxSteps := 300000) (disch := omega) [-getElem?_pos, -getElem?_neg]
    try (with_reducible refine Run.ret ?_)
    with_reducible repeat first|apply Z0|apply Z1|apply Z2|apply Z3|apply Z4|apply Z5|refine Z6 rfl ?_|apply Z7|apply Z8|apply Z9|apply Z10|apply Z11|apply Z12|apply Z13|apply Z14|apply Z15|apply Z16
    with_reducible repeat first|apply Z0|apply Z1|apply Z2|apply Z3|apply Z4|apply Z5|refine Z6 rfl ?_|apply Z7|apply Z8|apply Z9|apply Z10|apply Z11|apply Z12|apply Z13|apply Z14|apply Z15|apply Z16
    apply Cd.ite rfl
    · conv => lhs; simp -implicitDefEqProofs (maxSteps := 300000) (disch := omega) [-getElem?_pos, -getElem?_neg]
    all_goals intro c1
    all_goals try (cases c1; done)
    all_goals try simp only [Bool.not_eq_true', Bool.not_eq_false', decide_eq_true_eq, decide_eq_false_iff_not] at c1
    all_goals with_reducible repeat first|apply Z0|apply Z1|apply Z2|apply Z3|apply Z4|apply Z5|refine Z6 rfl ?_|apply Z7|apply Z8|apply Z9|apply Z10|apply Z11|apply Z12|apply Z13|apply Z14|apply Z15|apply Z16
    · exact absurd (by simpa using c1) hne
    · with_reducible repeat first|apply Z0|apply Z1|apply Z2|apply Z3|apply Z4|apply Z5|refine Z6 rfl ?_|apply Z7|apply Z8|apply Z9|apply Z10|apply Z11|apply Z12|apply Z13|apply Z14|apply Z15|apply Z16
      refine Cd.reg (by kernel_rfl) (by conv => lhs; simp only [List.map_cons, List.map_nil]) (by conv => lhs; simp only [List.map_cons, List.map_nil, strip]) ?_
      apply Run.by_eq
      · intro self
        conv => lhs; simp -implicitDefEqProofs (maxSteps := 300000) (disch := omega) [-getElem?_pos, -getElem?_neg]
      try (with_reducible refine Run.ret ?_)
      with_reducible repeat first|apply Z0|apply Z1|apply Z2|apply Z3|apply Z4|apply Z5|refine Z6 rfl ?_|apply Z7|apply Z8|apply Z9|apply Z10|apply Z11|apply Z12|apply Z13|apply Z14|apply Z15|apply Z16
      apply Leave.mk (by first | exact .inl rfl | exact .inr rfl) (by simp only [Fr.marks_put, fr0_marks])
      · conv => lhs; simp -implicitDefEqProofs (disch := omega) [Try.results31]
      rw [hpr]
      exact ⟨⟨by omega, fun i hi => by rw [k2b i (by omega)]; simp -implicitDefEqProofs (disch := omega) [qb]⟩, _, rfl, hw⟩
set_option maxRecDepth 100000 in
set_option maxHeartbeats 4000000 in
theorem prove_ev (u : Int) (v : Value) (fs : List FlowD) (s : St) (hf : FlAt s v fs) (hl : fs.length ≤ 1000000) :
    Ev TT 30 [plantV u v] s fun r s' => Keep s s' ∧ ∃ w, r = .tuple #[w, .int .i64 (proveR u fs).2.1, .int .i64 (proveR u fs).2.2] ∧ IntsAt s' w (proveR u fs).1 := by
  unfold plantV
  refine Ev.intro (fn := Try.f30) rfl (by kernel_rfl) rfl rfl ?_
  with_reducible repeat first|apply Z0|apply Z1|apply Z2|apply Z3|apply Z4|apply Z5|refine Z6 rfl ?_|apply Z7|apply Z8|apply Z9|apply Z10|apply Z11|apply Z12|apply Z13|apply Z14|apply Z15|apply Z16
  with_reducible repeat first|apply Z0|apply Z1|apply Z2|apply Z3|apply Z4|apply Z5|refine Z6 rfl ?_|apply Z7|apply Z8|apply Z9|apply Z10|apply Z11|apply Z12|apply Z13|apply Z14|apply Z15|apply Z16
  refine Cd.reg (by kernel_rfl) (by conv => lhs; simp only [List.map_cons, List.map_nil]) (by conv => lhs; simp only [List.map_cons, List.map_nil, strip]) ?_
  apply Run.by_eq
  · intro self
    conv => lhs; simp -implicitDefEqProofs (maxSteps := 300000) (disch := omega) [-getElem?_pos, -getElem?_neg]
  try (with_reducible refine Run.ret ?_)
  with_reducible repeat first|apply Z0|apply Z1|apply Z2|apply Z3|apply Z4|apply Z5|refine Z6 rfl ?_|apply Z7|apply Z8|apply Z9|apply Z10|apply Z11|apply Z12|apply Z13|apply Z14|apply Z15|apply Z16
  refine Cd.scope ?_
  with_reducible repeat first|apply Z0|apply Z1|apply Z2|apply Z3|apply Z4|apply Z5|refine Z6 rfl ?_|apply Z7|apply Z8|apply Z9|apply Z10|apply Z11|apply Z12|apply Z13|apply Z14|apply Z15|apply Z16
  refine Cd.reg (by kernel_rfl) (by conv => lhs; simp only [List.map_cons, List.map_nil]) (by conv => lhs; simp only [List.map_cons, List.map_nil, strip]) ?_
  apply Run.by_eq
  · intro self
    conv => lhs; simp -implicitDefEqProofs (maxSteps := 300000) (disch := omega) [-getElem?_pos, -getElem?_neg]
  try (with_reducible refine Run.ret ?_)
  with_reducible repeat first|apply Z0|apply Z1|apply Z2|apply Z3|apply Z4|apply Z5|refine Z6 rfl ?_|apply Z7|apply Z8|apply Z9|apply Z10|apply Z11|apply Z12|apply Z13|apply Z14|apply Z15|apply Z16
  refine Run.call ((check_ev u v fs _ (hf.keep ⟨by (try simp only [pushed_next', upded_next']); omega, fun i hi => by simp -implicitDefEqProofs (disch := omega) []⟩) hl).mono fun v wq hv => ?_)
  obtain ⟨rfl, q⟩ := hv
  have qa := q.1
  have qb := q.2
  try simp only [pushed_next', upded_next'] at qa qb
  apply Run.by_eq
  · intro self
    conv => lhs; simp -implicitDefEqProofs (maxSteps := 300000) (disch := omega) [-getElem?_pos, -getElem?_neg, qb]
  try (with_reducible refine Run.ret ?_)
  with_reducible repeat first|apply Z0|apply Z1|apply Z2|apply Z3|apply Z4|apply Z5|refine Z6 rfl ?_|apply Z7|apply Z8|apply Z9|apply Z10|apply Z11|apply Z12|apply Z13|apply Z14|apply Z15|apply Z16
  with_reducible repeat first|apply Z0|apply Z1|apply Z2|apply Z3|apply Z4|apply Z5|refine Z6 rfl ?_|apply Z7|apply Z8|apply Z9|apply Z10|apply Z11|apply Z12|apply Z13|apply Z14|apply Z15|apply Z16
  refine Cd.reg (by kernel_rfl) (by conv => lhs; simp only [List.map_cons, List.map_nil]) (by conv => lhs; simp only [List.map_cons, List.map_nil, strip]) ?_
  apply Run.by_eq
  · intro self
    conv => lhs; simp -implicitDefEqProofs (maxSteps := 300000) (disch := omega) [-getElem?_pos, -getElem?_neg, qb]
  try (with_reducible refine Run.ret ?_)
  with_reducible repeat first|apply Z0|apply Z1|apply Z2|apply Z3|apply Z4|apply Z5|refine Z6 rfl ?_|apply Z7|apply Z8|apply Z9|apply Z10|apply Z11|apply Z12|apply Z13|apply Z14|apply Z15|apply Z16
  with_reducible repeat first|apply Z0|apply Z1|apply Z2|apply Z3|apply Z4|apply Z5|refine Z6 rfl ?_|apply Z7|apply Z8|apply Z9|apply Z10|apply Z11|apply Z12|apply Z13|apply Z14|apply Z15|apply Z16
  apply Cd.ite rfl
  · conv => lhs; simp -implicitDefEqProofs (maxSteps := 300000) (disch := omega) [-getElem?_pos, -getElem?_neg]
  all_goals intro c0
  all_goals try (cases c0; done)
  all_goals try simp only [Bool.not_eq_true', Bool.not_eq_false', decide_eq_true_eq, decide_eq_false_iff_not] at c0
  all_goals with_reducible repeat first|apply Z0|apply Z1|apply Z2|apply Z3|apply Z4|apply Z5|refine Z6 rfl ?_|apply Z7|apply Z8|apply Z9|apply Z10|apply Z11|apply Z12|apply Z13|apply Z14|apply Z15|apply Z16
  · with_reducible repeat first|apply Z0|apply Z1|apply Z2|apply Z3|apply Z4|apply Z5|refine Z6 rfl ?_|apply Z7|apply Z8|apply Z9|apply Z10|apply Z11|apply Z12|apply Z13|apply Z14|apply Z15|apply Z16
    refine Cd.drawnH (pl := [(0, 0, false, false), (1, 0, true, false), (2, 2, true, false), (3, 7, true, false)]) [true, false, false, false] (by kernel_rfl) (by decide) (by decide) (by conv => lhs; simp only [List.map_cons, List.map_nil]) (by conv => lhs; simp [strip, orderedG, flagH]) ?_
    apply Run.by_eq
    · intro self
      conv => lhs; simp -implicitDefEqProofs (maxSteps := 300000) (disch := omega) [-getElem?_pos, -getElem?_neg, qb]
    try (with_reducible refine Run.ret ?_)
    with_reducible repeat first|apply Z0|apply Z1|apply Z2|apply Z3|apply Z4|apply Z5|refine Z6 rfl ?_|apply Z7|apply Z8|apply Z9|apply Z10|apply Z11|apply Z12|apply Z13|apply Z14|apply Z15|apply Z16
    refine ⟨fun l h => (by cases h), ?_⟩
    apply Leave.mk (by first | exact .inl rfl | exact .inr rfl) (by simp only [Fr.marks_put, fr0_marks, qb])
    · conv => lhs; simp -implicitDefEqProofs (disch := omega) [Try.results30, qb]
    have : proveR u fs = ([], 0, checkErr u fs) := by unfold proveR; rw [if_pos c0]
    rw [this]
    exact ⟨⟨by (try simp only [pushed_next', upded_next']); omega, fun i hi => by simp -implicitDefEqProofs (disch := omega) [qb]⟩, _, rfl, .nil 0⟩
  have hck : checkErr u fs = 0 := c0
  obtain ⟨hu1, hu2, hl20, _⟩ := checkErr_ok hck
  obtain ⟨n, hn⟩ : ∃ n : Nat, u = n := ⟨u.toNat, by omega⟩
  subst hn
  have hn8 : n ≤ 8 := by omega
  have hpr : proveR n fs = match provF (rtF (-1) fs 0 id) fs n n 0 with | some p => (p.1, (p.2 : Int), 0) | none => ([], 0, 5) := by unfold proveR; rw [if_neg (by simp [hck])]; rfl
  with_reducible repeat first|apply Z0|apply Z1|apply Z2|apply Z3|apply Z4|apply Z5|refine Z6 rfl ?_|apply Z7|apply Z8|apply Z9|apply Z10|apply Z11|apply Z12|apply Z13|apply Z14|apply Z15|apply Z16
  refine Cd.reg (by kernel_rfl) (by conv => lhs; simp only [List.map_cons, List.map_nil]) (by conv => lhs; simp only [List.map_cons, List.map_nil, strip]) ?_
  apply Run.by_eq
  · intro self
    conv => lhs; simp -implicitDefEqProofs (maxSteps := 300000) (disch := omega) [-getElem?_pos, -getElem?_neg, qb]
  try (with_reducible refine Run.ret ?_)
  with_reducible repeat first|apply Z0|apply Z1|apply Z2|apply Z3|apply Z4|apply Z5|refine Z6 rfl ?_|apply Z7|apply Z8|apply Z9|apply Z10|apply Z11|apply Z12|apply Z13|apply Z14|apply Z15|apply Z16
  with_reducible repeat first|apply Z0|apply Z1|apply Z2|apply Z3|apply Z4|apply Z5|refine Z6 rfl ?_|apply Z7|apply Z8|apply Z9|apply Z10|apply Z11|apply Z12|apply Z13|apply Z14|apply Z15|apply Z16
  refine Cd.reg (by kernel_rfl) (by conv => lhs; simp only [List.map_cons, List.map_nil]) (by conv => lhs; simp only [List.map_cons, List.map_nil, strip]) ?_
  apply Run.by_eq
  · intro self
    conv => lhs; simp -implicitDefEqProofs (maxSteps := 300000) (disch := omega) [-getElem?_pos, -getElem?_neg, qb]
  try (with_reducible refine Run.ret ?_)
  with_reducible repeat first|apply Z0|apply Z1|apply Z2|apply Z3|apply Z4|apply Z5|refine Z6 rfl ?_|apply Z7|apply Z8|apply Z9|apply Z10|apply Z11|apply Z12|apply Z13|apply Z14|apply Z15|apply Z16
  refine Run.call ((parts_ev n v _).mono fun r w1 hv => ?_)
  obtain ⟨hk1, bp, rfl, hbp1, hbp2, hgp⟩ := hv
  have k1a := hk1.1
  have k1b := hk1.2
  simp only [upded_next'] at k1a k1b hbp1
  have hk : Keep s w1 := ⟨by omega, fun i hi => by rw [k1b i (by omega)]; simp -implicitDefEqProofs (disch := omega) [qb]⟩
  have hv0 : w1.heap.get s.next = some (.cells [.int .i64 n, v] none) := by rw [k1b _ (by omega)]; simp -implicitDefEqProofs (disch := omega) [qb]
  have hv1 : w1.heap.get (s.next + 1) = some (.cells [.slice none 0 0] none) := by rw [k1b _ (by omega)]; simp -implicitDefEqProofs (disch := omega) [qb]
  have hv2 : w1.heap.get (s.next + 1 + 1) = some (.cells [.int .i64 0] none) := by rw [k1b _ (by omega)]; simp -implicitDefEqProofs (disch := omega) [qb]
  have hv3 : w1.heap.get (s.next + 1 + 1 + 1) = some (.cells [.int .i64 5] none) := by rw [k1b _ (by omega)]; simp -implicitDefEqProofs (disch := omega) [qb]
  apply Run.by_eq
  · intro self
    conv => lhs; simp -implicitDefEqProofs (maxSteps := 300000) (disch := omega) [-getElem?_pos, -getElem?_neg]
  try (with_reducible refine Run.ret ?_)
  with_reducible repeat first|apply Z0|apply Z1|apply Z2|apply Z3|apply Z4|apply Z5|refine Z6 rfl ?_|apply Z7|apply Z8|apply Z9|apply Z10|apply Z11|apply Z12|apply Z13|apply Z14|apply Z15|apply Z16
  refine Cd.rangeJ (gi := 59) (first := #[]) (captured := #[.pointer (some ⟨bp, 0, none⟩)]) rfl (by simp) ?_
  generalize hR : ALoop.mk true none _ _ _ _ _ = R0
  show Ev TT 59 [.func (.yield (w1.next + 1)) #[] #[], .pointer (some ⟨bp, 0, none⟩)] _ _
  refine (iterJ_ev n v (.func (.yield (w1.next + 1)) #[] #[]) fs bp _ (fun i => i = s.next + 1 ∨ i = s.next + 1 + 1 ∨ i = s.next + 1 + 1 + 1 ∨ i = w1.next + 1)
    (fun j s2 => s2.heap.get (w1.next + 1) = some (.loop R0) ∧ s2.heap.get s.next = some (.cells [.int .i64 n, v] none) ∧ s2.heap.get (s.next + 1) = some (.cells [.slice none 0 0] none) ∧ s2.heap.get (s.next + 1 + 1) = some (.cells [.int .i64 0] none) ∧ s2.heap.get (s.next + 1 + 1 + 1) = some (.cells [.int .i64 5] none) ∧ s2.heap.get w1.next = some (.deferred true) ∧ w1.next + 1 < s2.next ∧ (∀ i, i < s.next → s2.heap.get i = s.heap.get i) ∧ ∀ i, 0 ≤ i → i < j → provAt (rtF (-1) fs 0 id) fs n i = none)
    (fun j s2 => s2.heap.get (w1.next + 1) = some (.loop ⟨false, some (.exit 0), R0.n, R0.tmps, R0.params, R0.assign, R0.body⟩) ∧ s2.heap.get w1.next = some (.deferred true) ∧ w1.next + 1 < s2.next ∧ ∃ (bw m c : Nat) (q : Nat), w1.next + 1 + 1 ≤ bw ∧ s2.heap.get (s.next + 1) = some (.cells [.slice (some ⟨bw, 0, none⟩) m c] none) ∧ s2.heap.get (s.next + 1 + 1) = some (.cells [.int .i64 q] none) ∧ s2.heap.get (s.next + 1 + 1 + 1) = some (.cells [.int .i64 0] none) ∧
      IntsAt s2 (.slice (some ⟨bw, 0, none⟩) m c) (clsN (rtF (-1) fs 0 id) j n) ∧ provAt (rtF (-1) fs 0 id) fs n j = some (clsN (rtF (-1) fs 0 id) j n, q) ∧ ∀ i, 0 ≤ i → i < j → provAt (rtF (-1) fs 0 id) fs n i = none)
    hn8 ((hf.keep hk).keep ⟨by (try simp only [pushed_next', upded_next']); omega, fun i hi => by simp -implicitDefEqProofs (disch := omega) []⟩) hl ?_ ?_ ?_ ?_ ?_ ?_ ?_ ?_).mono fun _ s2 hres => ?_
  · simp only [pushed_next']; omega
  · simp -implicitDefEqProofs (disch := omega) [hgp]
  · rintro i (rfl | rfl | rfl | rfl) <;> simp only [pushed_next'] <;> omega
  · rintro (h | h | h | h) <;> omega
  · refine ⟨?_, ?_, ?_, ?_, ?_, ?_, ?_, fun i hi => ?_, fun i _ hi => absurd hi (by omega)⟩
    · simp -implicitDefEqProofs (disch := omega)
    · simp -implicitDefEqProofs (disch := omega) [hv0]
    · simp -implicitDefEqProofs (disch := omega) [hv1]
    · simp -implicitDefEqProofs (disch := omega) [hv2]
    · simp -implicitDefEqProofs (disch := omega) [hv3]
    · simp -implicitDefEqProofs (disch := omega)
    · simp
    · simp -implicitDefEqProofs (disch := omega) [hk.2]
  · rintro j s1 s2 ⟨j0, j1, j2, j3, j4, j5, j6, jk, j7⟩ h1 h2
    simp only [pushed_next'] at h2
    exact ⟨by rw [h2 _ (by omega)]; exact j0, by rw [h2 _ (by omega)]; exact j1, by rw [h2 _ (by omega)]; exact j2, by rw [h2 _ (by omega)]; exact j3, by rw [h2 _ (by omega)]; exact j4, by rw [h2 _ (by omega)]; exact j5, by omega, fun i hi => by rw [h2 _ (by omega)]; exact jk i hi, j7⟩
  · rintro j s1 hj hL ⟨j0, j1, j2, j3, j4, j5, j6, jk, j7⟩
    refine ⟨j0, j1, j2, j3, j4, j5, j6, jk, fun i h1 h2 => ?_⟩
    by_cases e : i = j
    · subst e; unfold provAt; rw [hL]; rfl
    · exact j7 i h1 (by omega)
  · rintro j s1 w hj hL ⟨j0, j1, j2, j3, j4, j5, j6, jk, j7⟩ hs1 hw ⟨bw, hbw, rfl⟩
    simp only [pushed_next'] at hs1 hbw
    show Evn TT (fun self => exRound self (w1.next + 1) _ s1) _
    subst hR
    refine Evn.roundJ j0 rfl ?_
    show Cd TT true _ _ ((((Fr.mk _ []).put (some 16) _).put (some 17) _)) _ _
    dsimp only
    with_reducible repeat first|apply Z0|apply Z1|apply Z2|apply Z3|apply Z4|apply Z5|refine Z6 rfl ?_|apply Z7|apply Z8|apply Z9|apply Z10|apply Z11|apply Z12|apply Z13|apply Z14|apply Z15|apply Z16
    refine Cd.reg (by kernel_rfl) (by conv => lhs; simp only [List.map_cons, List.map_nil]) (by conv => lhs; simp only [List.map_cons, List.map_nil, strip]) ?_
    apply Run.by_eq
    · intro self
      conv => lhs; simp -implicitDefEqProofs (maxSteps := 300000) (disch := omega) [-getElem?_pos, -getElem?_neg, Fr.get_mk]
    try (with_reducible refine Run.ret ?_)
    with_reducible repeat first|apply Z0|apply Z1|apply Z2|apply Z3|apply Z4|apply Z5|refine Z6 rfl ?_|apply Z7|apply Z8|apply Z9|apply Z10|apply Z11|apply Z12|apply Z13|apply Z14|apply Z15|apply Z16
    refine ⟨rfl, _, j0, rfl, rfl, ?_⟩
    dsimp only
    with_reducible repeat first|apply Z0|apply Z1|apply Z2|apply Z3|apply Z4|apply Z5|refine Z6 rfl ?_|apply Z7|apply Z8|apply Z9|apply Z10|apply Z11|apply Z12|apply Z13|apply Z14|apply Z15|apply Z16
    refine Cd.reg (by kernel_rfl) (by conv => lhs; simp only [List.map_cons, List.map_nil]) (by conv => lhs; simp only [List.map_cons, List.map_nil, strip]) ?_
    apply Run.by_eq
    · intro self
      conv => lhs; simp -implicitDefEqProofs (maxSteps := 300000) (disch := omega) [-getElem?_pos, -getElem?_neg, Fr.get_mk, j1]
    try (with_reducible refine Run.ret ?_)
    with_reducible repeat first|apply Z0|apply Z1|apply Z2|apply Z3|apply Z4|apply Z5|refine Z6 rfl ?_|apply Z7|apply Z8|apply Z9|apply Z10|apply Z11|apply Z12|apply Z13|apply Z14|apply Z15|apply Z16
    generalize hLf : ALoop.mk false none _ _ _ _ _ = Lf
    generalize hrt : rtF (-1) fs 0 id = rt at *
    have hcl := clsN_length rt j n
    refine Run.call ((excess_ev n v _ fs (clsN rt j n) _ (hf.keep ⟨by (try simp only [pushed_next', upded_next']); omega, fun i hi => by simp -implicitDefEqProofs (disch := omega) [jk]⟩) (SlAt.same hw (by simp) (by simp -implicitDefEqProofs (disch := omega))) (by omega) (by omega) (checkErr_le hck)).mono fun v wy hv => ?_)
    obtain ⟨rfl, y⟩ := hv
    have ya := y.1
    have yb := y.2
    try simp only [pushed_next', upded_next'] at ya yb
    generalize hmx : excM (clsN rt j n) fs = mx
    have hbw2 := SlAt.lt hw
    try simp only [upded_next'] at ya
    have hlp : wy.heap.get (w1.next + 1) = some (.loop Lf) := by rw [yb _ (by omega)]; simp
    have hy2 : wy.heap.get (s.next + 1) = some (.cells [.slice none 0 0] none) := by rw [yb _ (by omega)]; simp -implicitDefEqProofs (disch := omega) [j2]
    have hy3 : wy.heap.get (s.next + 1 + 1) = some (.cells [.int .i64 0] none) := by rw [yb _ (by omega)]; simp -implicitDefEqProofs (disch := omega) [j3]
    have hy4 : wy.heap.get (s.next + 1 + 1 + 1) = some (.cells [.int .i64 5] none) := by rw [yb _ (by omega)]; simp -implicitDefEqProofs (disch := omega) [j4]
    have hy5 : wy.heap.get w1.next = some (.deferred true) := by rw [yb _ (by omega)]; simp -implicitDefEqProofs (disch := omega) [j5]
    apply Run.by_eq
    · intro self
      conv => lhs; simp -implicitDefEqProofs (maxSteps := 300000) (disch := omega) [-getElem?_pos, -getElem?_neg, Mass.v]
    try (with_reducible refine Run.ret ?_)
    with_reducible repeat first|apply Z0|apply Z1|apply Z2|apply Z3|apply Z4|apply Z5|refine Z6 rfl ?_|apply Z7|apply Z8|apply Z9|apply Z10|apply Z11|apply Z12|apply Z13|apply Z14|apply Z15|apply Z16
    refine Cd.inv (fun z2 f2 s2 => ∃ q : Nat, q ≤ 4 ∧ z2 = 4 - q ∧ f2.get 21 = .int .i64 q ∧ f2.get 20 = .agg [.int .i64 mx.a, .int .i64 mx.b, .int .i64 mx.c, .int .i64 mx.d].toArray ∧ f2.get 6 = .slice (some ⟨bw, 0, none⟩) (clsN rt j n).length (clsN rt j n).length ∧ f2.get 2 = .pointer (some ⟨s.next + 1, 0, none⟩) ∧ f2.get 3 = .pointer (some ⟨s.next + 1 + 1, 0, none⟩) ∧ f2.get 4 = .pointer (some ⟨s.next + 1 + 1 + 1, 0, none⟩) ∧ wy = s2 ∧ (∀ i, i < q → mx.at i = 0)) 4 ?_ ?_
    · exact ⟨0, by omega, rfl, by simp, by simp, by simp, by simp [Fr.get_mk], by simp [Fr.get_mk], by simp [Fr.get_mk], rfl, fun i hi => absurd hi (by omega)⟩
    rintro z2 f2 s2 ⟨q, hq, rfl, g21, g20, g6, g2, g3, g4, rfl, gz⟩
    by_cases hq4 : q < 4
    · have hat := mx.cs_at hq4
      with_reducible repeat first|apply Z0|apply Z1|apply Z2|apply Z3|apply Z4|apply Z5|refine Z6 rfl ?_|apply Z7|apply Z8|apply Z9|apply Z10|apply Z11|apply Z12|apply Z13|apply Z14|apply Z15|apply Z16
      refine Cd.reg (by kernel_rfl) (by conv => lhs; simp only [List.map_cons, List.map_nil]) (by conv => lhs; simp only [List.map_cons, List.map_nil, strip]) ?_
      apply Run.by_eq
      · intro self
        conv => lhs; simp -implicitDefEqProofs (maxSteps := 300000) (disch := omega) [-getElem?_pos, -getElem?_neg, g21]
      try (with_reducible refine Run.ret ?_)
      with_reducible repeat first|apply Z0|apply Z1|apply Z2|apply Z3|apply Z4|apply Z5|refine Z6 rfl ?_|apply Z7|apply Z8|apply Z9|apply Z10|apply Z11|apply Z12|apply Z13|apply Z14|apply Z15|apply Z16
      with_reducible repeat first|apply Z0|apply Z1|apply Z2|apply Z3|apply Z4|apply Z5|refine Z6 rfl ?_|apply Z7|apply Z8|apply Z9|apply Z10|apply Z11|apply Z12|apply Z13|apply Z14|apply Z15|apply Z16
      apply Cd.ite rfl
      · conv => lhs; simp -implicitDefEqProofs (maxSteps := 300000) (disch := omega) [-getElem?_pos, -getElem?_neg]
      all_goals intro d0
      all_goals try (cases d0; done)
      all_goals try simp only [Bool.not_eq_true', Bool.not_eq_false', decide_eq_true_eq, decide_eq_false_iff_not] at d0
      all_goals with_reducible repeat first|apply Z0|apply Z1|apply Z2|apply Z3|apply Z4|apply Z5|refine Z6 rfl ?_|apply Z7|apply Z8|apply Z9|apply Z10|apply Z11|apply Z12|apply Z13|apply Z14|apply Z15|apply Z16
      · with_reducible repeat first|apply Z0|apply Z1|apply Z2|apply Z3|apply Z4|apply Z5|refine Z6 rfl ?_|apply Z7|apply Z8|apply Z9|apply Z10|apply Z11|apply Z12|apply Z13|apply Z14|apply Z15|apply Z16
        refine Cd.reg (by kernel_rfl) (by conv => lhs; simp only [List.map_cons, List.map_nil]) (by conv => lhs; simp only [List.map_cons, List.map_nil, strip]) ?_
        apply Run.by_eq
        · intro self
          conv => lhs; simp -implicitDefEqProofs (maxSteps := 300000) (disch := omega) [-getElem?_pos, -getElem?_neg, g21, g20, hat]
        try (with_reducible refine Run.ret ?_)
        with_reducible repeat first|apply Z0|apply Z1|apply Z2|apply Z3|apply Z4|apply Z5|refine Z6 rfl ?_|apply Z7|apply Z8|apply Z9|apply Z10|apply Z11|apply Z12|apply Z13|apply Z14|apply Z15|apply Z16
        with_reducible repeat first|apply Z0|apply Z1|apply Z2|apply Z3|apply Z4|apply Z5|refine Z6 rfl ?_|apply Z7|apply Z8|apply Z9|apply Z10|apply Z11|apply Z12|apply Z13|apply Z14|apply Z15|apply Z16
        refine Cd.reg (by kernel_rfl) (by conv => lhs; simp only [List.map_cons, List.map_nil]) (by conv => lhs; simp only [List.map_cons, List.map_nil, strip]) ?_
        apply Run.by_eq
        · intro self
          conv => lhs; simp -implicitDefEqProofs (maxSteps := 300000) (disch := omega) [-getElem?_pos, -getElem?_neg]
        try (with_reducible refine Run.ret ?_)
        with_reducible repeat first|apply Z0|apply Z1|apply Z2|apply Z3|apply Z4|apply Z5|refine Z6 rfl ?_|apply Z7|apply Z8|apply Z9|apply Z10|apply Z11|apply Z12|apply Z13|apply Z14|apply Z15|apply Z16
        by_cases hz0 : mx.at q = 0
        · with_reducible repeat first|apply Z0|apply Z1|apply Z2|apply Z3|apply Z4|apply Z5|refine Z6 rfl ?_|apply Z7|apply Z8|apply Z9|apply Z10|apply Z11|apply Z12|apply Z13|apply Z14|apply Z15|apply Z16
          apply Cd.ite rfl
          · conv => lhs; simp -implicitDefEqProofs (maxSteps := 300000) (disch := omega) [-getElem?_pos, -getElem?_neg, hz0]
          all_goals intro d1
          all_goals try (cases d1; done)
          all_goals try simp only [Bool.not_eq_true', Bool.not_eq_false', decide_eq_true_eq, decide_eq_false_iff_not] at d1
          all_goals with_reducible repeat first|apply Z0|apply Z1|apply Z2|apply Z3|apply Z4|apply Z5|refine Z6 rfl ?_|apply Z7|apply Z8|apply Z9|apply Z10|apply Z11|apply Z12|apply Z13|apply Z14|apply Z15|apply Z16
          with_reducible repeat first|apply Z0|apply Z1|apply Z2|apply Z3|apply Z4|apply Z5|refine Z6 rfl ?_|apply Z7|apply Z8|apply Z9|apply Z10|apply Z11|apply Z12|apply Z13|apply Z14|apply Z15|apply Z16
          refine Cd.reg (by kernel_rfl) (by conv => lhs; simp only [List.map_cons, List.map_nil]) (by conv => lhs; simp only [List.map_cons, List.map_nil, strip]) ?_
          apply Run.by_eq
          · intro self
            conv => lhs; simp -implicitDefEqProofs (maxSteps := 300000) (disch := omega) [-getElem?_pos, -getElem?_neg, g21]
          try (with_reducible refine Run.ret ?_)
          with_reducible repeat first|apply Z0|apply Z1|apply Z2|apply Z3|apply Z4|apply Z5|refine Z6 rfl ?_|apply Z7|apply Z8|apply Z9|apply Z10|apply Z11|apply Z12|apply Z13|apply Z14|apply Z15|apply Z16
          refine LoopK.nm (4 - (q + 1)) (by omega) ⟨q + 1, by omega, rfl, by simp, by simp [g20], by simp [g6], by simp [g2], by simp [g3], by simp [g4], rfl, fun i hi => ?_⟩
          by_cases e : i = q
          · subst e; exact hz0
          · exact gz i (by omega)
        · with_reducible repeat first|apply Z0|apply Z1|apply Z2|apply Z3|apply Z4|apply Z5|refine Z6 rfl ?_|apply Z7|apply Z8|apply Z9|apply Z10|apply Z11|apply Z12|apply Z13|apply Z14|apply Z15|apply Z16
          apply Cd.ite rfl
          · conv => lhs; simp -implicitDefEqProofs (maxSteps := 300000) (disch := omega) [-getElem?_pos, -getElem?_neg, hz0]
          all_goals intro d1
          all_goals try (cases d1; done)
          all_goals try simp only [Bool.not_eq_true', Bool.not_eq_false', decide_eq_true_eq, decide_eq_false_iff_not] at d1
          all_goals with_reducible repeat first|apply Z0|apply Z1|apply Z2|apply Z3|apply Z4|apply Z5|refine Z6 rfl ?_|apply Z7|apply Z8|apply Z9|apply Z10|apply Z11|apply Z12|apply Z13|apply Z14|apply Z15|apply Z16
          with_reducible repeat first|apply Z0|apply Z1|apply Z2|apply Z3|apply Z4|apply Z5|refine Z6 rfl ?_|apply Z7|apply Z8|apply Z9|apply Z10|apply Z11|apply Z12|apply Z13|apply Z14|apply Z15|apply Z16
          refine Cd.reg (by kernel_rfl) (by conv => lhs; simp only [List.map_cons, List.map_nil]) (by conv => lhs; simp only [List.map_cons, List.map_nil, strip]) ?_
          apply Run.by_eq
          · intro self
            conv => lhs; simp -implicitDefEqProofs (maxSteps := 300000) (disch := omega) [-getElem?_pos, -getElem?_neg, g6, g2, g3, g4, hy2, hy3, hy4]
          try (with_reducible refine Run.ret ?_)
          with_reducible repeat first|apply Z0|apply Z1|apply Z2|apply Z3|apply Z4|apply Z5|refine Z6 rfl ?_|apply Z7|apply Z8|apply Z9|apply Z10|apply Z11|apply Z12|apply Z13|apply Z14|apply Z15|apply Z16
          refine ⟨Lf, ?_, .inr ⟨rfl, ?_, ?_, ?_, bw, (clsN rt j n).length, (clsN rt j n).length, q, by omega, ?_, ?_, ?_, ?_, ?_, j7⟩, ?_, fun z hz hX => ?_⟩
          · simp -implicitDefEqProofs (disch := omega) [hlp]
          · rw [get_upded_same]; subst hLf; rfl
          · simp -implicitDefEqProofs (disch := omega) [hy5]
          · simp only [upded_next']; omega
          · simp -implicitDefEqProofs (disch := omega)
          · simp -implicitDefEqProofs (disch := omega)
          · simp -implicitDefEqProofs (disch := omega)
          · exact SlAt.same hw (fun _ => by simp only [upded_next']; omega) (by simp -implicitDefEqProofs (disch := omega) [yb])
          · unfold provAt; rw [if_pos hL, hmx, nzK_at hq4 gz hz0]; rfl
          · simp only [upded_next']; omega
          · have x1 : z ≠ s.next + 1 := fun e => hX (.inl e)
            have x2 : z ≠ s.next + 1 + 1 := fun e => hX (.inr (.inl e))
            have x3 : z ≠ s.next + 1 + 1 + 1 := fun e => hX (.inr (.inr (.inl e)))
            have x4 : z ≠ w1.next + 1 := fun e => hX (.inr (.inr (.inr e)))
            simp -implicitDefEqProofs (disch := omega) [yb]
      · simp at d0; omega
    · obtain rfl : q = 4 := by omega
      with_reducible repeat first|apply Z0|apply Z1|apply Z2|apply Z3|apply Z4|apply Z5|refine Z6 rfl ?_|apply Z7|apply Z8|apply Z9|apply Z10|apply Z11|apply Z12|apply Z13|apply Z14|apply Z15|apply Z16
      refine Cd.reg (by kernel_rfl) (by conv => lhs; simp only [List.map_cons, List.map_nil]) (by conv => lhs; simp only [List.map_cons, List.map_nil, strip]) ?_
      apply Run.by_eq
      · intro self
        conv => lhs; simp -implicitDefEqProofs (maxSteps := 300000) (disch := omega) [-getElem?_pos, -getElem?_neg, g21]
      try (with_reducible refine Run.ret ?_)
      with_reducible repeat first|apply Z0|apply Z1|apply Z2|apply Z3|apply Z4|apply Z5|refine Z6 rfl ?_|apply Z7|apply Z8|apply Z9|apply Z10|apply Z11|apply Z12|apply Z13|apply Z14|apply Z15|apply Z16
      with_reducible repeat first|apply Z0|apply Z1|apply Z2|apply Z3|apply Z4|apply Z5|refine Z6 rfl ?_|apply Z7|apply Z8|apply Z9|apply Z10|apply Z11|apply Z12|apply Z13|apply Z14|apply Z15|apply Z16
      apply Cd.ite rfl
      · conv => lhs; simp -implicitDefEqProofs (maxSteps := 300000) (disch := omega) [-getElem?_pos, -getElem?_neg]
      all_goals intro d0
      all_goals try (cases d0; done)
      all_goals try simp only [Bool.not_eq_true', Bool.not_eq_false', decide_eq_true_eq, decide_eq_false_iff_not] at d0
      all_goals with_reducible repeat first|apply Z0|apply Z1|apply Z2|apply Z3|apply Z4|apply Z5|refine Z6 rfl ?_|apply Z7|apply Z8|apply Z9|apply Z10|apply Z11|apply Z12|apply Z13|apply Z14|apply Z15|apply Z16
      refine ⟨Lf, hlp, .inl ⟨rfl, ?_, ?_, ?_, ?_, ?_, ?_, ?_, fun i hi => ?_, fun i h1 h2 => ?_⟩, ?_, fun z hz hX => ?_⟩
      · rw [get_upded_same]; subst hLf; rfl
      · simp -implicitDefEqProofs (disch := omega) [yb, j1]
      · simp -implicitDefEqProofs (disch := omega) [hy2]
      · simp -implicitDefEqProofs (disch := omega) [hy3]
      · simp -implicitDefEqProofs (disch := omega) [hy4]
      · simp -implicitDefEqProofs (disch := omega) [hy5]
      · simp only [upded_next']; omega
      · simp -implicitDefEqProofs (disch := omega) [yb, jk]
      · by_cases e : i = j
        · subst e; unfold provAt; rw [if_pos hL, hmx, nzK_zero gz]; rfl
        · exact j7 i h1 (by omega)
      · simp only [upded_next']; omega
      · have x4 : z ≠ w1.next + 1 := fun e => hX (.inr (.inr (.inr e)))
        simp -implicitDefEqProofs (disch := omega) [yb]
  · obtain ⟨hJB, r2, r3⟩ := hres
    simp only [pushed_next'] at r2 r3
    have hold : ∀ i, i < s.next → s2.heap.get i = s.heap.get i := fun i hi => by
      rw [r3 i (by omega) (by omega)]
      simp -implicitDefEqProofs (disch := omega) [hk.2]
    rcases hJB with ⟨j0, j1, j2, j3, j4, j5, j6, jk, j7⟩ | ⟨k, hkn, hL, ⟨b0, b1, b2, bw, m, c, q, hbw, b3, b4, b5, hw, hp, hz⟩⟩
    · refine ⟨R0, j0, .inl ⟨by rw [← hR], by rw [← hR], ?_⟩⟩
      with_reducible repeat first|apply Z0|apply Z1|apply Z2|apply Z3|apply Z4|apply Z5|refine Z6 rfl ?_|apply Z7|apply Z8|apply Z9|apply Z10|apply Z11|apply Z12|apply Z13|apply Z14|apply Z15|apply Z16
      refine Cd.drawnH (pl := [(0, 0, false, false), (1, 0, false, false), (2, 0, false, false), (3, 1, true, false), (4, 11, true, false), (5, 31, true, false)]) [false, true, true, false, false, false] (by kernel_rfl) (by decide) (by decide) (by conv => lhs; simp only [List.map_cons, List.map_nil]) (by conv => lhs; simp [strip, orderedG, flagH]) ?_
      apply Run.by_eq
      · intro self
        conv => lhs; simp -implicitDefEqProofs (maxSteps := 300000) (disch := omega) [-getElem?_pos, -getElem?_neg, Fr.get_mk, j2, j3, j4]
      try (with_reducible refine Run.ret ?_)
      with_reducible repeat first|apply Z0|apply Z1|apply Z2|apply Z3|apply Z4|apply Z5|refine Z6 rfl ?_|apply Z7|apply Z8|apply Z9|apply Z10|apply Z11|apply Z12|apply Z13|apply Z14|apply Z15|apply Z16
      refine ⟨fun l h => (by cases h), ?_⟩
      apply Leave.one (m := w1.next) (by first | exact .inl rfl | exact .inr rfl) (by simp only [Fr.marks_put, fr0_marks])
      · simp -implicitDefEqProofs (disch := omega) [j5]
      · conv => lhs; simp -implicitDefEqProofs (disch := omega) [Try.results30, Fr.get_mk, j2, j3, j4]
      rw [hpr, provF_none fun i h1 h2 => j7 i h1 (by omega)]
      exact ⟨⟨by (try simp only [upded_next']); omega, fun i hi => by simp -implicitDefEqProofs (disch := omega) [hold]⟩, _, rfl, .nil 0⟩
    · refine ⟨_, b0, .inr (.inr ⟨0, rfl, ?_⟩)⟩
      have ve : veq 5 (Value.slice (some ⟨bw, 0, none⟩) m c) (Value.slice (some ⟨bw, 0, none⟩) m c) = true := veq_slice _ _ _ _ _
      with_reducible repeat first|apply Z0|apply Z1|apply Z2|apply Z3|apply Z4|apply Z5|refine Z6 rfl ?_|apply Z7|apply Z8|apply Z9|apply Z10|apply Z11|apply Z12|apply Z13|apply Z14|apply Z15|apply Z16
      refine Cd.drawnH (pl := [(0, 0, false, false), (1, 0, false, false), (2, 0, false, false), (3, 1, true, false), (4, 11, true, false), (5, 31, true, false)]) [false, true, true, false, false, false] (by kernel_rfl) (by decide) (by decide) (by conv => lhs; simp only [List.map_cons, List.map_nil]) (by conv => lhs; simp [strip, orderedG, flagH]) ?_
      apply Run.by_eq
      · intro self
        conv => lhs; simp -implicitDefEqProofs (maxSteps := 300000) (disch := omega) [-getElem?_pos, -getElem?_neg, Fr.get_mk, b3, b4, b5, ve]
      try (with_reducible refine Run.ret ?_)
      with_reducible repeat first|apply Z0|apply Z1|apply Z2|apply Z3|apply Z4|apply Z5|refine Z6 rfl ?_|apply Z7|apply Z8|apply Z9|apply Z10|apply Z11|apply Z12|apply Z13|apply Z14|apply Z15|apply Z16
      refine ⟨fun l h => (by cases h), ?_⟩
      apply Leave.one (m := w1.next) (by first | exact .inl rfl | exact .inr rfl) (by simp only [Fr.marks_put, fr0_marks])
      · simp -implicitDefEqProofs (disch := omega) [b1]
      · conv => lhs; simp -implicitDefEqProofs (disch := omega) [Try.results30, Fr.get_mk, b3, b4, b5]
      rw [hpr, provF_at hz (by omega) (by omega) hp]
      have hbw2 := SlAt.lt hw
      exact ⟨⟨by (try simp only [upded_next']); omega, fun i hi => by simp -implicitDefEqProofs (disch := omega) [hold]⟩, _, rfl, SlAt.same hw (fun _ => by (try simp only [upded_next']); omega) (by simp -implicitDefEqProofs (disch := omega))⟩
end Go.Proofs.Ytifkpaomhnlahaa
