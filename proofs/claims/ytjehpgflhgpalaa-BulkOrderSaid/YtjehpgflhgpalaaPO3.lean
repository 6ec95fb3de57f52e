/-
  Units, ends and bounds of masses are checked as stated, for every plant. A plant's first error is found as stated, for every list of flows. Lists of numbers are searched, and masses added and taken away, as stated. The excess of a set of units is as stated, for every list of flows with bounded masses. Excess answers as stated, for every plant and list of units. The reference's Check and its sum of masses answer as stated. The reference's excess is as stated, for every list of flows with bounded masses. The reference's set of units is as stated, with its errors. The reference's Excess, the comparison of lists and Name answer as stated. What is joined is found as stated, for every list of flows. Parts are yielded one after the other, as stated. Parts answers as stated, for every plant. What the reference gets has the same flows. The reference's heads are as stated, for every list of flows. Heads and roots say the same of what is joined. Parts are yielded as stated to a loop that may be left. A part with an excess is a proof that there is no balance. What flows of a forest join, and what hangs apart without one of them. Sums of masses, and numbers of ends. What is gathered of a tree, flow after flow. Leaks and Refutes answer as stated, for every plant, units and kind. The reference's sides and Refutes answer as stated. The reference's clash is as stated, for every valid plant. The forest is chosen as stated, for every list of flows. They hold with no condition but those that are written in each theorem.
-/
import Derived.Test.YtjehpgflhgpalaaPO1
import Derived.Test.YtjehpgflhgpalaaPO2
set_option linter.unusedSimpArgs false
set_option linter.unusedVariables false
namespace Go.Proofs.Ytjehpgflhgpalaa
open Go Kern
def unitB (u n : Int) : Bool := decide (0 ≤ n) && decide (n < u)
def endB (u n : Int) : Bool := decide (n = -1) || unitB u n
def plantV (u : Int) (fl : Value) : Value := .agg #[.int .i64 u, fl]
structure Mass where
  a : Int
  b : Int
  c : Int
  d : Int
  deriving DecidableEq
def Mass.cs (m : Mass) : List Value := [.int .i64 m.a, .int .i64 m.b, .int .i64 m.c, .int .i64 m.d]
def Mass.v (m : Mass) : Value := .agg #[.int .i64 m.a, .int .i64 m.b, .int .i64 m.c, .int .i64 m.d]
def isB (n lo hi : Int) : Bool := decide (lo ≤ n) && decide (n ≤ hi)
def eachB (m : Mass) (lo hi : Int) : Bool := isB m.a lo hi && (isB m.b lo hi && (isB m.c lo hi && isB m.d lo hi))
set_option maxRecDepth 100000 in
theorem isUnit_ev (u n : Int) (fl : Value) (s : St) : Ev TT 40 [plantV u fl, .int .i64 n] s fun v s' => v = .bool (unitB u n) ∧ Keep s s' := by
  unfold plantV
  refine Ev.intro (fn := Try.f40) rfl (by kernel_rfl) rfl rfl ?_
  apply zz
  refine Cd.ra (h := ?_)
  apply Run.by_eq
  · intro self
    conv => lhs; simp -implicitDefEqProofs (maxSteps := 300000) (disch := omega) [-getElem?_pos, -getElem?_neg]
  try (with_reducible refine Run.ret ?_)
  apply zz
  by_cases h : 0 ≤ n
  · apply zz
    refine Cd.ra (h := ?_)
    apply Run.by_eq
    · intro self
      conv => lhs; simp -implicitDefEqProofs (maxSteps := 300000) (disch := omega) [-getElem?_pos, -getElem?_neg, h]
    try (with_reducible refine Run.ret ?_)
    apply zz
    apply Leave.mk (by first | exact .inl rfl | exact .inr rfl) (by simp only [Fr.marks_put, fr0_marks])
    · conv => lhs; simp -implicitDefEqProofs (disch := omega) [Try.results40]
    exact ⟨by simp [unitB, h], (Keep.refl _).pushed _⟩
  · apply zz
    refine Cd.ra (h := ?_)
    apply Run.by_eq
    · intro self
      conv => lhs; simp -implicitDefEqProofs (maxSteps := 300000) (disch := omega) [-getElem?_pos, -getElem?_neg, h]
    try (with_reducible refine Run.ret ?_)
    apply zz
    apply Leave.mk (by first | exact .inl rfl | exact .inr rfl) (by simp only [Fr.marks_put, fr0_marks])
    · conv => lhs; simp -implicitDefEqProofs (disch := omega) [Try.results40]
    exact ⟨by simp [unitB, h], (Keep.refl _).pushed _⟩
set_option maxRecDepth 100000 in
theorem isEnd_ev (u n : Int) (fl : Value) (s : St) : Ev TT 63 [plantV u fl, .int .i64 n] s fun v s' => v = .bool (endB u n) ∧ Keep s s' := by
  have hc := isUnit_ev u n fl
  unfold plantV at hc ⊢
  refine Ev.intro (fn := Try.f63) rfl (by kernel_rfl) rfl rfl ?_
  apply zz
  refine Cd.ra (h := ?_)
  apply Run.by_eq
  · intro self
    conv => lhs; simp -implicitDefEqProofs (maxSteps := 300000) (disch := omega) [-getElem?_pos, -getElem?_neg]
  try (with_reducible refine Run.ret ?_)
  apply zz
  by_cases h : n = -1
  · apply zz
    refine Cd.ra (h := ?_)
    apply Run.by_eq
    · intro self
      conv => lhs; simp -implicitDefEqProofs (maxSteps := 300000) (disch := omega) [-getElem?_pos, -getElem?_neg, h]
    try (with_reducible refine Run.ret ?_)
    apply zz
    apply Leave.mk (by first | exact .inl rfl | exact .inr rfl) (by simp only [Fr.marks_put, fr0_marks])
    · conv => lhs; simp -implicitDefEqProofs (disch := omega) [Try.results63]
    exact ⟨by simp [endB, h], (Keep.refl _).pushed _⟩
  · apply zz
    refine Cd.ra (h := ?_)
    apply Run.by_eq
    · intro self
      conv => lhs; simp -implicitDefEqProofs (maxSteps := 300000) (disch := omega) [-getElem?_pos, -getElem?_neg, h]
    try (with_reducible refine Run.ret ?_)
    apply zz
    refine Run.call ((hc _).mono fun v s' hv => ?_)
    obtain ⟨rfl, hk⟩ := hv
    apply Run.by_eq
    · intro self
      conv => lhs; simp -implicitDefEqProofs (maxSteps := 300000) (disch := omega) [-getElem?_pos, -getElem?_neg, h]
    try (with_reducible refine Run.ret ?_)
    apply zz
    apply Leave.mk (by first | exact .inl rfl | exact .inr rfl) (by simp only [Fr.marks_put, fr0_marks])
    · conv => lhs; simp -implicitDefEqProofs (disch := omega) [Try.results63]
    exact ⟨by simp [endB, h], ((Keep.refl _).pushed _).trans hk⟩
def Mass.at (m : Mass) : Nat → Int
  | 0 => m.a
  | 1 => m.b
  | 2 => m.c
  | _ => m.d
theorem Mass.cs_at (m : Mass) {k : Nat} (h : k < 4) : ([.int .i64 m.a, .int .i64 m.b, .int .i64 m.c, .int .i64 m.d] : List Value)[k]? = some (.int .i64 (m.at k)) := by
  match k, h with
  | 0, _ => rfl
  | 1, _ => rfl
  | 2, _ => rfl
  | 3, _ => rfl
theorem eachB_false {m : Mass} {lo hi : Int} {k : Nat} (hk : k < 4) (h : m.at k < lo ∨ hi < m.at k) : eachB m lo hi = false := by
  cases hb : eachB m lo hi with
  | false => rfl
  | true =>
    simp only [eachB, isB, Bool.and_eq_true, decide_eq_true_eq] at hb
    match k, hk, h with
    | 0, _, h => simp only [Mass.at] at h; omega
    | 1, _, h => simp only [Mass.at] at h; omega
    | 2, _, h => simp only [Mass.at] at h; omega
    | 3, _, h => simp only [Mass.at] at h; omega
theorem eachB_true {m : Mass} {lo hi : Int} (h : ∀ k, k < 4 → lo ≤ m.at k ∧ m.at k ≤ hi) : eachB m lo hi = true := by
  simp only [eachB, isB, Bool.and_eq_true, decide_eq_true_eq]
  exact ⟨h 0 (by omega), h 1 (by omega), h 2 (by omega), h 3 (by omega)⟩
set_option maxRecDepth 100000 in
set_option maxHeartbeats 1000000 in
theorem within_ev (m : Mass) (lo hi : Int) (s : St) : Ev TT 54 [m.v, .int .i64 lo, .int .i64 hi] s fun v s' => v = .bool (eachB m lo hi) ∧ Keep s s' := by
  unfold Mass.v
  refine Ev.intro (fn := Try.f54) rfl (by kernel_rfl) rfl rfl ?_
  apply zz
  refine Cd.ra (h := ?_)
  apply Run.by_eq
  · intro self
    conv => lhs; simp -implicitDefEqProofs (maxSteps := 300000) (disch := omega) [-getElem?_pos, -getElem?_neg]
  try (with_reducible refine Run.ret ?_)
  apply zz
  refine Cd.ra (h := ?_)
  apply Run.by_eq
  · intro self
    conv => lhs; simp -implicitDefEqProofs (maxSteps := 300000) (disch := omega) [-getElem?_pos, -getElem?_neg]
  try (with_reducible refine Run.ret ?_)
  apply zz
  refine Cd.inv (fun w f s' => ∃ k : Nat, k ≤ 4 ∧ w = 4 - k ∧ f.marks = [] ∧ f.get 10 = .int .i64 k ∧ f.get 9 = .agg [.int .i64 m.a, .int .i64 m.b, .int .i64 m.c, .int .i64 m.d].toArray ∧ f.get 1 = .int .i64 lo ∧ f.get 2 = .int .i64 hi ∧ Keep s s' ∧ (∀ j, j < k → lo ≤ m.at j ∧ m.at j ≤ hi)) 4 ?_ ?_
  · exact ⟨0, by omega, rfl, by simp, by simp, by simp, by simp, by simp, (Keep.refl _).pushed _, fun j hj => absurd hj (by omega)⟩
  rintro w f s' ⟨k, hk, rfl, hm, h10, h9, h1, h2, hkp, hall⟩
  by_cases hk4 : k < 4
  · have hat := m.cs_at hk4
    apply zz
    refine Cd.ra (h := ?_)
    apply Run.by_eq
    · intro self
      conv => lhs; simp -implicitDefEqProofs (maxSteps := 300000) (disch := omega) [-getElem?_pos, -getElem?_neg, h10]
    try (with_reducible refine Run.ret ?_)
    apply zz
    apply Cd.ite rfl
    · conv => lhs; simp -implicitDefEqProofs (maxSteps := 300000) (disch := omega) [-getElem?_pos, -getElem?_neg]
    all_goals intro c0
    all_goals try (cases c0; done)
    all_goals try simp only [Bool.not_eq_true', Bool.not_eq_false', decide_eq_true_eq, decide_eq_false_iff_not] at c0
    all_goals apply zz
    · apply zz
      refine Cd.ra (h := ?_)
      apply Run.by_eq
      · intro self
        conv => lhs; simp -implicitDefEqProofs (maxSteps := 300000) (disch := omega) [-getElem?_pos, -getElem?_neg, h10, h9, hat]
      try (with_reducible refine Run.ret ?_)
      apply zz
      by_cases q1 : m.at k < lo
      · apply zz
        refine Cd.ra (h := ?_)
        apply Run.by_eq
        · intro self
          conv => lhs; simp -implicitDefEqProofs (maxSteps := 300000) (disch := omega) [-getElem?_pos, -getElem?_neg, q1, h1, h2]
        try (with_reducible refine Run.ret ?_)
        apply zz
        apply Cd.ite rfl
        · conv => lhs; simp -implicitDefEqProofs (maxSteps := 300000) (disch := omega) [-getElem?_pos, -getElem?_neg]
        all_goals intro c1
        all_goals try (cases c1; done)
        all_goals try simp only [Bool.not_eq_true', Bool.not_eq_false', decide_eq_true_eq, decide_eq_false_iff_not] at c1
        all_goals apply zz
        apply zz
        refine Cd.ra (h := ?_)
        apply Run.by_eq
        · intro self
          conv => lhs; simp -implicitDefEqProofs (maxSteps := 300000) (disch := omega) [-getElem?_pos, -getElem?_neg]
        try (with_reducible refine Run.ret ?_)
        apply zz
        apply Leave.mk (by first | exact .inl rfl | exact .inr rfl) (by simp only [Fr.marks_put, fr0_marks, hm])
        · conv => lhs; simp -implicitDefEqProofs (disch := omega) [Try.results54, hm]
        exact ⟨by rw [eachB_false hk4 (.inl q1)]; rfl, hkp⟩
      by_cases q2 : hi < m.at k
      · apply zz
        refine Cd.ra (h := ?_)
        apply Run.by_eq
        · intro self
          conv => lhs; simp -implicitDefEqProofs (maxSteps := 300000) (disch := omega) [-getElem?_pos, -getElem?_neg, q1, q2, h1, h2]
        try (with_reducible refine Run.ret ?_)
        apply zz
        apply Cd.ite rfl
        · conv => lhs; simp -implicitDefEqProofs (maxSteps := 300000) (disch := omega) [-getElem?_pos, -getElem?_neg]
        all_goals intro c1
        all_goals try (cases c1; done)
        all_goals try simp only [Bool.not_eq_true', Bool.not_eq_false', decide_eq_true_eq, decide_eq_false_iff_not] at c1
        all_goals apply zz
        apply zz
        refine Cd.ra (h := ?_)
        apply Run.by_eq
        · intro self
          conv => lhs; simp -implicitDefEqProofs (maxSteps := 300000) (disch := omega) [-getElem?_pos, -getElem?_neg]
        try (with_reducible refine Run.ret ?_)
        apply zz
        apply Leave.mk (by first | exact .inl rfl | exact .inr rfl) (by simp only [Fr.marks_put, fr0_marks, hm])
        · conv => lhs; simp -implicitDefEqProofs (disch := omega) [Try.results54, hm]
        exact ⟨by rw [eachB_false hk4 (.inr q2)]; rfl, hkp⟩
      · apply zz
        refine Cd.ra (h := ?_)
        apply Run.by_eq
        · intro self
          conv => lhs; simp -implicitDefEqProofs (maxSteps := 300000) (disch := omega) [-getElem?_pos, -getElem?_neg, q1, q2, h1, h2]
        try (with_reducible refine Run.ret ?_)
        apply zz
        apply Cd.ite rfl
        · conv => lhs; simp -implicitDefEqProofs (maxSteps := 300000) (disch := omega) [-getElem?_pos, -getElem?_neg]
        all_goals intro c1
        all_goals try (cases c1; done)
        all_goals try simp only [Bool.not_eq_true', Bool.not_eq_false', decide_eq_true_eq, decide_eq_false_iff_not] at c1
        all_goals apply zz
        apply zz
        refine Cd.ra (h := ?_)
        apply Run.by_eq
        · intro self
          conv => lhs; simp -implicitDefEqProofs (maxSteps := 300000) (disch := omega) [-getElem?_pos, -getElem?_neg, h10]
        try (with_reducible refine Run.ret ?_)
        apply zz
        refine LoopK.nm (4 - (k + 1)) (by omega) ⟨k + 1, by omega, rfl, by simp [hm], by simp, by simp [h9], by simp [h1], by simp [h2], hkp, fun j hj => ?_⟩
        by_cases e : j = k
        · subst e; omega
        · exact hall j (by omega)
    · simp at c0; omega
  · obtain rfl : k = 4 := by omega
    apply zz
    refine Cd.ra (h := ?_)
    apply Run.by_eq
    · intro self
      conv => lhs; simp -implicitDefEqProofs (maxSteps := 300000) (disch := omega) [-getElem?_pos, -getElem?_neg, h10]
    try (with_reducible refine Run.ret ?_)
    apply zz
    apply Cd.ite rfl
    · conv => lhs; simp -implicitDefEqProofs (maxSteps := 300000) (disch := omega) [-getElem?_pos, -getElem?_neg]
    all_goals intro c0
    all_goals try (cases c0; done)
    all_goals try simp only [Bool.not_eq_true', Bool.not_eq_false', decide_eq_true_eq, decide_eq_false_iff_not] at c0
    all_goals apply zz
    apply zz
    refine Cd.ra (h := ?_)
    apply Run.by_eq
    · intro self
      conv => lhs; simp -implicitDefEqProofs (maxSteps := 300000) (disch := omega) [-getElem?_pos, -getElem?_neg]
    try (with_reducible refine Run.ret ?_)
    apply zz
    apply Leave.mk (by first | exact .inl rfl | exact .inr rfl) (by simp only [Fr.marks_put, fr0_marks, hm])
    · conv => lhs; simp -implicitDefEqProofs (disch := omega) [Try.results54, hm]
    exact ⟨by rw [eachB_true (fun j hj => hall j hj)]; rfl, hkp⟩
end Go.Proofs.Ytjehpgflhgpalaa
namespace Go.Proofs.Ytjehpgflhgpalaa
open Go Kern
structure FlowD where
  fr : Int
  to : Int
  me : Bool
  m : Mass
def FlowD.cs (f : FlowD) : List Value := [.int .i64 f.fr, .int .i64 f.to, .bool f.me, .int .i64 f.m.a, .int .i64 f.m.b, .int .i64 f.m.c, .int .i64 f.m.d]
def FlowD.v (f : FlowD) : Value := .agg f.cs.toArray
def flowErr (u : Int) (f : FlowD) : Int :=
  if !endB u f.fr || !endB u f.to then 17 else if f.fr = f.to then 22 else if f.me && !eachB f.m 0 1000000000 then 2 else 0
set_option maxRecDepth 100000 in
set_option maxHeartbeats 1000000 in
theorem flowError_ev (u : Int) (f : FlowD) (fl : Value) (s : St) : Ev TT 45 [plantV u fl, f.v] s fun v s' => v = .int .i64 (flowErr u f) ∧ Keep s s' := by
  have hE := isEnd_ev u
  unfold plantV at hE ⊢
  obtain ⟨f0, f1, fm, m⟩ := f
  unfold FlowD.v FlowD.cs
  simp only []
  refine Ev.intro (fn := Try.f45) rfl (by kernel_rfl) rfl rfl ?_
  apply zz
  refine Cd.ra (h := ?_)
  apply Run.by_eq
  · intro self
    conv => lhs; simp -implicitDefEqProofs (maxSteps := 300000) (disch := omega) [-getElem?_pos, -getElem?_neg]
  try (with_reducible refine Run.ret ?_)
  apply zz
  refine Cd.ra (h := ?_)
  apply Run.by_eq
  · intro self
    conv => lhs; simp -implicitDefEqProofs (maxSteps := 300000) (disch := omega) [-getElem?_pos, -getElem?_neg]
  try (with_reducible refine Run.ret ?_)
  apply zz
  refine Run.call ((hE f0 fl _).mono fun v wk hv => ?_)
  obtain ⟨rfl, k⟩ := hv
  have ka := k.1
  have kb := k.2
  try simp only [pushed_next', upded_next'] at ka kb
  cases hA : endB u f0 with
  | false =>
    apply Run.by_eq
    · intro self
      conv => lhs; simp -implicitDefEqProofs (maxSteps := 300000) (disch := omega) [-getElem?_pos, -getElem?_neg, hA]
    try (with_reducible refine Run.ret ?_)
    apply zz
    apply Cd.ite rfl
    · conv => lhs; simp -implicitDefEqProofs (maxSteps := 300000) (disch := omega) [-getElem?_pos, -getElem?_neg]
    all_goals intro c1
    all_goals try (cases c1; done)
    all_goals try simp only [Bool.not_eq_true', Bool.not_eq_false', decide_eq_true_eq, decide_eq_false_iff_not] at c1
    all_goals apply zz
    apply zz
    refine Cd.ra (h := ?_)
    apply Run.by_eq
    · intro self
      conv => lhs; simp -implicitDefEqProofs (maxSteps := 300000) (disch := omega) [-getElem?_pos, -getElem?_neg]
    try (with_reducible refine Run.ret ?_)
    apply zz
    apply Leave.mk (by first | exact .inl rfl | exact .inr rfl) (by simp only [Fr.marks_put, fr0_marks])
    · conv => lhs; simp -implicitDefEqProofs (disch := omega) [Try.results45]
    refine ⟨by simp [flowErr, hA], ?_⟩
    exact ⟨by (try simp only [pushed_next', upded_next']); omega, fun i hi => by simp -implicitDefEqProofs (disch := omega) [kb]⟩
  | true =>
    apply Run.by_eq
    · intro self
      conv => lhs; simp -implicitDefEqProofs (maxSteps := 300000) (disch := omega) [-getElem?_pos, -getElem?_neg, hA, kb]
    try (with_reducible refine Run.ret ?_)
    apply zz
    refine Run.call ((hE f1 fl _).mono fun v wl hv => ?_)
    obtain ⟨rfl, l⟩ := hv
    have la := l.1
    have lb := l.2
    try simp only [pushed_next', upded_next'] at la lb
    cases hB : endB u f1 with
    | false =>
      apply Run.by_eq
      · intro self
        conv => lhs; simp -implicitDefEqProofs (maxSteps := 300000) (disch := omega) [-getElem?_pos, -getElem?_neg, hB]
      try (with_reducible refine Run.ret ?_)
      apply zz
      apply Cd.ite rfl
      · conv => lhs; simp -implicitDefEqProofs (maxSteps := 300000) (disch := omega) [-getElem?_pos, -getElem?_neg]
      all_goals intro c1
      all_goals try (cases c1; done)
      all_goals try simp only [Bool.not_eq_true', Bool.not_eq_false', decide_eq_true_eq, decide_eq_false_iff_not] at c1
      all_goals apply zz
      apply zz
      refine Cd.ra (h := ?_)
      apply Run.by_eq
      · intro self
        conv => lhs; simp -implicitDefEqProofs (maxSteps := 300000) (disch := omega) [-getElem?_pos, -getElem?_neg]
      try (with_reducible refine Run.ret ?_)
      apply zz
      apply Leave.mk (by first | exact .inl rfl | exact .inr rfl) (by simp only [Fr.marks_put, fr0_marks])
      · conv => lhs; simp -implicitDefEqProofs (disch := omega) [Try.results45]
      refine ⟨by simp [flowErr, hA, hB], ?_⟩
      exact ⟨by (try simp only [pushed_next', upded_next']); omega, fun i hi => by simp -implicitDefEqProofs (disch := omega) [kb, lb]⟩
    | true =>
      apply Run.by_eq
      · intro self
        conv => lhs; simp -implicitDefEqProofs (maxSteps := 300000) (disch := omega) [-getElem?_pos, -getElem?_neg, hB]
      try (with_reducible refine Run.ret ?_)
      apply zz
      apply Cd.ite rfl
      · conv => lhs; simp -implicitDefEqProofs (maxSteps := 300000) (disch := omega) [-getElem?_pos, -getElem?_neg]
      all_goals intro c1
      all_goals try (cases c1; done)
      all_goals try simp only [Bool.not_eq_true', Bool.not_eq_false', decide_eq_true_eq, decide_eq_false_iff_not] at c1
      all_goals apply zz
      apply zz
      refine Cd.ra (h := ?_)
      apply Run.by_eq
      · intro self
        conv => lhs; simp -implicitDefEqProofs (maxSteps := 300000) (disch := omega) [-getElem?_pos, -getElem?_neg, kb, lb]
      try (with_reducible refine Run.ret ?_)
      apply zz
      apply Cd.ite rfl
      · conv => lhs; simp -implicitDefEqProofs (maxSteps := 300000) (disch := omega) [-getElem?_pos, -getElem?_neg]
      all_goals intro c2
      all_goals try (cases c2; done)
      all_goals try simp only [Bool.not_eq_true', Bool.not_eq_false', decide_eq_true_eq, decide_eq_false_iff_not] at c2
      all_goals apply zz
      · apply zz
        refine Cd.ra (h := ?_)
        apply Run.by_eq
        · intro self
          conv => lhs; simp -implicitDefEqProofs (maxSteps := 300000) (disch := omega) [-getElem?_pos, -getElem?_neg]
        try (with_reducible refine Run.ret ?_)
        apply zz
        apply Leave.mk (by first | exact .inl rfl | exact .inr rfl) (by simp only [Fr.marks_put, fr0_marks])
        · conv => lhs; simp -implicitDefEqProofs (disch := omega) [Try.results45]
        refine ⟨by simp [flowErr, hA, hB, c2], ?_⟩
        exact ⟨by (try simp only [pushed_next', upded_next']); omega, fun i hi => by simp -implicitDefEqProofs (disch := omega) [kb, lb]⟩
      · cases fm with
        | false =>
          apply zz
          refine Cd.ra (h := ?_)
          apply Run.by_eq
          · intro self
            conv => lhs; simp -implicitDefEqProofs (maxSteps := 300000) (disch := omega) [-getElem?_pos, -getElem?_neg, kb, lb]
          try (with_reducible refine Run.ret ?_)
          apply zz
          apply Cd.ite rfl
          · conv => lhs; simp -implicitDefEqProofs (maxSteps := 300000) (disch := omega) [-getElem?_pos, -getElem?_neg]
          all_goals intro c3
          all_goals try (cases c3; done)
          all_goals try simp only [Bool.not_eq_true', Bool.not_eq_false', decide_eq_true_eq, decide_eq_false_iff_not] at c3
          all_goals apply zz
          apply zz
          refine Cd.ra (h := ?_)
          apply Run.by_eq
          · intro self
            conv => lhs; simp -implicitDefEqProofs (maxSteps := 300000) (disch := omega) [-getElem?_pos, -getElem?_neg]
          try (with_reducible refine Run.ret ?_)
          apply zz
          apply Leave.mk (by first | exact .inl rfl | exact .inr rfl) (by simp only [Fr.marks_put, fr0_marks])
          · conv => lhs; simp -implicitDefEqProofs (disch := omega) [Try.results45]
          refine ⟨by simp [flowErr, hA, hB, c2], ?_⟩
          exact ⟨by (try simp only [pushed_next', upded_next']); omega, fun i hi => by simp -implicitDefEqProofs (disch := omega) [kb, lb]⟩
        | true =>
          apply zz
          refine Cd.ra (h := ?_)
          apply Run.by_eq
          · intro self
            conv => lhs; simp -implicitDefEqProofs (maxSteps := 300000) (disch := omega) [-getElem?_pos, -getElem?_neg, kb, lb]
          try (with_reducible refine Run.ret ?_)
          apply zz
          refine Run.call ((within_ev m 0 1000000000 _).mono fun v wn hv => ?_)
          obtain ⟨rfl, n⟩ := hv
          have na := n.1
          have nb := n.2
          try simp only [pushed_next', upded_next'] at na nb
          apply Run.by_eq
          · intro self
            conv => lhs; simp -implicitDefEqProofs (maxSteps := 300000) (disch := omega) [-getElem?_pos, -getElem?_neg]
          try (with_reducible refine Run.ret ?_)
          apply zz
          apply Cd.ite rfl
          · conv => lhs; simp -implicitDefEqProofs (maxSteps := 300000) (disch := omega) [-getElem?_pos, -getElem?_neg]
          all_goals intro c3
          all_goals try (cases c3; done)
          all_goals try simp only [Bool.not_eq_true', Bool.not_eq_false', decide_eq_true_eq, decide_eq_false_iff_not] at c3
          all_goals apply zz
          · apply zz
            refine Cd.ra (h := ?_)
            apply Run.by_eq
            · intro self
              conv => lhs; simp -implicitDefEqProofs (maxSteps := 300000) (disch := omega) [-getElem?_pos, -getElem?_neg]
            try (with_reducible refine Run.ret ?_)
            apply zz
            apply Leave.mk (by first | exact .inl rfl | exact .inr rfl) (by simp only [Fr.marks_put, fr0_marks])
            · conv => lhs; simp -implicitDefEqProofs (disch := omega) [Try.results45]
            refine ⟨by simp [flowErr, hA, hB, c2, c3], ?_⟩
            exact ⟨by (try simp only [pushed_next', upded_next']); omega, fun i hi => by simp -implicitDefEqProofs (disch := omega) [kb, lb, nb]⟩
          · apply zz
            refine Cd.ra (h := ?_)
            apply Run.by_eq
            · intro self
              conv => lhs; simp -implicitDefEqProofs (maxSteps := 300000) (disch := omega) [-getElem?_pos, -getElem?_neg]
            try (with_reducible refine Run.ret ?_)
            apply zz
            apply Leave.mk (by first | exact .inl rfl | exact .inr rfl) (by simp only [Fr.marks_put, fr0_marks])
            · conv => lhs; simp -implicitDefEqProofs (disch := omega) [Try.results45]
            refine ⟨by simp [flowErr, hA, hB, c2, c3], ?_⟩
            exact ⟨by (try simp only [pushed_next', upded_next']); omega, fun i hi => by simp -implicitDefEqProofs (disch := omega) [kb, lb, nb]⟩
def firstErr (u : Int) : List FlowD → Int
  | [] => 0
  | f :: r => if flowErr u f = 0 then firstErr u r else flowErr u f
theorem firstErr_zero {u : Int} : ∀ {fs : List FlowD}, (∀ (j : Nat) (f : FlowD), fs[j]? = some f → flowErr u f = 0) → firstErr u fs = 0
  | [], _ => rfl
  | f :: r, h => by
    have h0 := h 0 f rfl
    simp only [firstErr, h0, if_true]
    exact firstErr_zero fun j f hj => h (j + 1) f (by simpa using hj)
theorem firstErr_at {u : Int} : ∀ {fs : List FlowD} {k : Nat} {f : FlowD}, (∀ (j : Nat) (f : FlowD), j < k → fs[j]? = some f → flowErr u f = 0) → fs[k]? = some f → flowErr u f ≠ 0 → firstErr u fs = flowErr u f
  | [], k, f, _, h, _ => by simp at h
  | g :: r, 0, f, _, h, hne => by simp at h; subst h; simp [firstErr, hne]
  | g :: r, k + 1, f, hz, h, hne => by
    have h0 := hz 0 g (by omega) rfl
    simp only [firstErr, h0, if_true]
    exact firstErr_at (k := k) (fun j f hj hf => hz (j + 1) f (by omega) (by simpa using hf)) (by simpa using h) hne
abbrev FlAt (s : St) (v : Value) (fs : List FlowD) : Prop := SlAt 7 s v (fs.map FlowD.cs)
theorem FlAt.at {s : St} {a : Option Addr} {m c : Nat} {fs : List FlowD} (h : FlAt s (.slice a m c) fs) {k : Nat} {f : FlowD} (hk : fs[k]? = some f) :
    ∃ b off o cs g, a = some ⟨b, off, none⟩ ∧ b < s.next ∧ s.heap.get b = some o ∧ cellsOf o = some (cs, g) ∧ takeL 7 (cs.drop (off + k * 7)) = some f.cs :=
  SlAt.at h (by rw [List.getElem?_map, hk]; rfl)
set_option maxRecDepth 100000 in
set_option maxHeartbeats 1000000 in
theorem firstError_ev (u : Int) (fl v : Value) (fs : List FlowD) (s : St) (hf : FlAt s v fs) (hl : fs.length ≤ 1000000) :
    Ev TT 44 [v, .func (.func 45) #[plantV u fl] #[]] s fun r s' => r = .int .i64 (firstErr u fs) ∧ Keep s s' := by
  obtain ⟨a, c, rfl⟩ := hf.shape
  rw [List.length_map] at hf ⊢
  refine Ev.intro (fn := Try.f44) rfl (by kernel_rfl) rfl rfl ?_
  apply zz
  refine Cd.ra (h := ?_)
  apply Run.by_eq
  · intro self
    conv => lhs; simp -implicitDefEqProofs (maxSteps := 300000) (disch := omega) [-getElem?_pos, -getElem?_neg]
  try (with_reducible refine Run.ret ?_)
  apply zz
  refine Cd.ra (h := ?_)
  apply Run.by_eq
  · intro self
    conv => lhs; simp -implicitDefEqProofs (maxSteps := 300000) (disch := omega) [-getElem?_pos, -getElem?_neg]
  try (with_reducible refine Run.ret ?_)
  apply zz
  refine Cd.inv (fun w f s' => ∃ k : Nat, k ≤ fs.length ∧ w = fs.length - k ∧ f.marks = [] ∧ f.get 10 = .int .i64 k ∧ f.get 9 = .int .i64 fs.length ∧ f.get 8 = .slice a fs.length c ∧ f.get 1 = .func (.func 45) #[plantV u fl] #[] ∧ Keep s s' ∧ (∀ (j : Nat) (g : FlowD), j < k → fs[j]? = some g → flowErr u g = 0)) fs.length ?_ ?_
  · exact ⟨0, by omega, rfl, by simp, by simp, by simp, by simp, by simp, Keep.refl _, fun j g hj => absurd hj (by omega)⟩
  rintro w f s' ⟨k, hk, rfl, hm, h10, h9, h8, h1, hkp, hz⟩
  have hkpa := hkp.1
  by_cases hlt : k < fs.length
  · obtain ⟨g, hg⟩ : ∃ g, fs[k]? = some g := ⟨fs[k], by simp [hlt]⟩
    obtain ⟨b, off, o, cs, gg, rfl, hb, ho, hc, ht⟩ := FlAt.at (hf.keep hkp) hg
    rw [FlowD.cs] at ht
    apply zz
    refine Cd.ra (h := ?_)
    apply Run.by_eq
    · intro self
      conv => lhs; simp -implicitDefEqProofs (maxSteps := 300000) (disch := omega) [-getElem?_pos, -getElem?_neg, h10, h9]
    try (with_reducible refine Run.ret ?_)
    apply zz
    apply Cd.ite rfl
    · conv => lhs; simp -implicitDefEqProofs (maxSteps := 300000) (disch := omega) [-getElem?_pos, -getElem?_neg]
    all_goals intro c0
    all_goals try (cases c0; done)
    all_goals try simp only [Bool.not_eq_true', Bool.not_eq_false', decide_eq_true_eq, decide_eq_false_iff_not] at c0
    all_goals apply zz
    · apply zz
      refine Cd.ra (h := ?_)
      apply Run.by_eq
      · intro self
        conv => lhs; simp -implicitDefEqProofs (maxSteps := 300000) (disch := omega) [-getElem?_pos, -getElem?_neg, h10, h9, h8, ho, hc, ht, hlt]
      try (with_reducible refine Run.ret ?_)
      apply zz
      refine Cd.ra (h := ?_)
      apply Run.by_eq
      · intro self
        conv => lhs; simp -implicitDefEqProofs (maxSteps := 300000) (disch := omega) [-getElem?_pos, -getElem?_neg, h1]
      try (with_reducible refine Run.ret ?_)
      apply zz
      refine Run.call ((flowError_ev u g fl _).mono fun v wk1 hv => ?_)
      obtain ⟨rfl, k1⟩ := hv
      have k1a := k1.1
      have k1b := k1.2
      try simp only [pushed_next', upded_next'] at k1a k1b
      apply Run.by_eq
      · intro self
        conv => lhs; simp -implicitDefEqProofs (maxSteps := 300000) (disch := omega) [-getElem?_pos, -getElem?_neg]
      try (with_reducible refine Run.ret ?_)
      apply zz
      refine Cd.ra (h := ?_)
      apply Run.by_eq
      · intro self
        conv => lhs; simp -implicitDefEqProofs (maxSteps := 300000) (disch := omega) [-getElem?_pos, -getElem?_neg]
      try (with_reducible refine Run.ret ?_)
      apply zz
      apply Cd.ite rfl
      · conv => lhs; simp -implicitDefEqProofs (maxSteps := 300000) (disch := omega) [-getElem?_pos, -getElem?_neg]
      all_goals intro c2
      all_goals try (cases c2; done)
      all_goals try simp only [Bool.not_eq_true', Bool.not_eq_false', decide_eq_true_eq, decide_eq_false_iff_not] at c2
      all_goals apply zz
      · apply zz
        refine Cd.ra (h := ?_)
        apply Run.by_eq
        · intro self
          conv => lhs; simp -implicitDefEqProofs (maxSteps := 300000) (disch := omega) [-getElem?_pos, -getElem?_neg]
        try (with_reducible refine Run.ret ?_)
        apply zz
        apply Leave.mk (by first | exact .inl rfl | exact .inr rfl) (by simp only [Fr.marks_put, fr0_marks, hm])
        · conv => lhs; simp -implicitDefEqProofs (disch := omega) [Try.results44, hm]
        refine ⟨by rw [firstErr_at hz hg c2]; rfl, ?_⟩
        exact ⟨by (try simp only [pushed_next', upded_next']); omega, fun i hi => by simp -implicitDefEqProofs (disch := omega) [k1b, hkp.2]⟩
      · apply zz
        refine Cd.ra (h := ?_)
        apply Run.by_eq
        · intro self
          conv => lhs; simp -implicitDefEqProofs (maxSteps := 300000) (disch := omega) [-getElem?_pos, -getElem?_neg, h10]
        try (with_reducible refine Run.ret ?_)
        apply zz
        refine LoopK.nm (fs.length - (k + 1)) (by omega) ⟨k + 1, by omega, rfl, by simp [hm], by simp, by simp [h9], by simp [h8], by simp [h1], ?_, fun j g' hj hg' => ?_⟩
        · exact ⟨by (try simp only [pushed_next', upded_next']); omega, fun i hi => by simp -implicitDefEqProofs (disch := omega) [k1b, hkp.2]⟩
        · by_cases e : j = k
          · subst e
            rw [hg] at hg'
            cases hg'
            exact c2
          · exact hz j g' (by omega) hg'
    · simp at c0; omega
  · obtain rfl : k = fs.length := by omega
    apply zz
    refine Cd.ra (h := ?_)
    apply Run.by_eq
    · intro self
      conv => lhs; simp -implicitDefEqProofs (maxSteps := 300000) (disch := omega) [-getElem?_pos, -getElem?_neg, h10, h9]
    try (with_reducible refine Run.ret ?_)
    apply zz
    apply Cd.ite rfl
    · conv => lhs; simp -implicitDefEqProofs (maxSteps := 300000) (disch := omega) [-getElem?_pos, -getElem?_neg]
    all_goals intro c0
    all_goals try (cases c0; done)
    all_goals try simp only [Bool.not_eq_true', Bool.not_eq_false', decide_eq_true_eq, decide_eq_false_iff_not] at c0
    all_goals apply zz
    apply zz
    refine Cd.ra (h := ?_)
    apply Run.by_eq
    · intro self
      conv => lhs; simp -implicitDefEqProofs (maxSteps := 300000) (disch := omega) [-getElem?_pos, -getElem?_neg]
    try (with_reducible refine Run.ret ?_)
    apply zz
    apply Leave.mk (by first | exact .inl rfl | exact .inr rfl) (by simp only [Fr.marks_put, fr0_marks, hm])
    · conv => lhs; simp -implicitDefEqProofs (disch := omega) [Try.results44, hm]
    exact ⟨by rw [firstErr_zero fun j g hg => hz j g (List.getElem?_eq_some_iff.1 hg).1 hg]; rfl, hkp⟩
def checkErr (u : Int) (fs : List FlowD) : Int := if u < 1 ∨ 8 < u then 2 else if 20 < fs.length then 1 else firstErr u fs
set_option maxRecDepth 100000 in
set_option maxHeartbeats 1000000 in
theorem check_ev (u : Int) (v : Value) (fs : List FlowD) (s : St) (hf : FlAt s v fs) (hl : fs.length ≤ 1000000) :
    Ev TT 21 [plantV u v] s fun r s' => r = .int .i64 (checkErr u fs) ∧ Keep s s' := by
  obtain ⟨a, c, rfl⟩ := hf.shape
  rw [List.length_map] at hf ⊢
  unfold plantV
  refine Ev.intro (fn := Try.f21) rfl (by kernel_rfl) rfl rfl ?_
  apply zz
  refine Cd.ra (h := ?_)
  apply Run.by_eq
  · intro self
    conv => lhs; simp -implicitDefEqProofs (maxSteps := 300000) (disch := omega) [-getElem?_pos, -getElem?_neg]
  try (with_reducible refine Run.ret ?_)
  apply zz
  by_cases h1 : u < 1
  · apply zz
    refine Cd.ra (h := ?_)
    apply Run.by_eq
    · intro self
      conv => lhs; simp -implicitDefEqProofs (maxSteps := 300000) (disch := omega) [-getElem?_pos, -getElem?_neg, h1]
    try (with_reducible refine Run.ret ?_)
    apply zz
    apply Cd.ite rfl
    · conv => lhs; simp -implicitDefEqProofs (maxSteps := 300000) (disch := omega) [-getElem?_pos, -getElem?_neg]
    all_goals intro c0
    all_goals try (cases c0; done)
    all_goals try simp only [Bool.not_eq_true', Bool.not_eq_false', decide_eq_true_eq, decide_eq_false_iff_not] at c0
    all_goals apply zz
    apply zz
    refine Cd.ra (h := ?_)
    apply Run.by_eq
    · intro self
      conv => lhs; simp -implicitDefEqProofs (maxSteps := 300000) (disch := omega) [-getElem?_pos, -getElem?_neg]
    try (with_reducible refine Run.ret ?_)
    apply zz
    apply Leave.mk (by first | exact .inl rfl | exact .inr rfl) (by simp only [Fr.marks_put, fr0_marks])
    · conv => lhs; simp -implicitDefEqProofs (disch := omega) [Try.results21]
    exact ⟨by simp [checkErr, h1], (Keep.refl _).pushed _⟩
  by_cases h2 : 8 < u
  · apply zz
    refine Cd.ra (h := ?_)
    apply Run.by_eq
    · intro self
      conv => lhs; simp -implicitDefEqProofs (maxSteps := 300000) (disch := omega) [-getElem?_pos, -getElem?_neg, h1, h2]
    try (with_reducible refine Run.ret ?_)
    apply zz
    apply Cd.ite rfl
    · conv => lhs; simp -implicitDefEqProofs (maxSteps := 300000) (disch := omega) [-getElem?_pos, -getElem?_neg]
    all_goals intro c0
    all_goals try (cases c0; done)
    all_goals try simp only [Bool.not_eq_true', Bool.not_eq_false', decide_eq_true_eq, decide_eq_false_iff_not] at c0
    all_goals apply zz
    apply zz
    refine Cd.ra (h := ?_)
    apply Run.by_eq
    · intro self
      conv => lhs; simp -implicitDefEqProofs (maxSteps := 300000) (disch := omega) [-getElem?_pos, -getElem?_neg]
    try (with_reducible refine Run.ret ?_)
    apply zz
    apply Leave.mk (by first | exact .inl rfl | exact .inr rfl) (by simp only [Fr.marks_put, fr0_marks])
    · conv => lhs; simp -implicitDefEqProofs (disch := omega) [Try.results21]
    exact ⟨by simp [checkErr, h2], (Keep.refl _).pushed _⟩
  apply zz
  refine Cd.ra (h := ?_)
  apply Run.by_eq
  · intro self
    conv => lhs; simp -implicitDefEqProofs (maxSteps := 300000) (disch := omega) [-getElem?_pos, -getElem?_neg, h1, h2]
  try (with_reducible refine Run.ret ?_)
  apply zz
  apply Cd.ite rfl
  · conv => lhs; simp -implicitDefEqProofs (maxSteps := 300000) (disch := omega) [-getElem?_pos, -getElem?_neg]
  all_goals intro c0
  all_goals try (cases c0; done)
  all_goals try simp only [Bool.not_eq_true', Bool.not_eq_false', decide_eq_true_eq, decide_eq_false_iff_not] at c0
  all_goals apply zz
  apply zz
  refine Cd.ra (h := ?_)
  apply Run.by_eq
  · intro self
    conv => lhs; simp -implicitDefEqProofs (maxSteps := 300000) (disch := omega) [-getElem?_pos, -getElem?_neg]
  try (with_reducible refine Run.ret ?_)
  apply zz
  apply Cd.ite rfl
  · conv => lhs; simp -implicitDefEqProofs (maxSteps := 300000) (disch := omega) [-getElem?_pos, -getElem?_neg]
  all_goals intro c1
  all_goals try (cases c1; done)
  all_goals try simp only [Bool.not_eq_true', Bool.not_eq_false', decide_eq_true_eq, decide_eq_false_iff_not] at c1
  all_goals apply zz
  · apply zz
    refine Cd.ra (h := ?_)
    apply Run.by_eq
    · intro self
      conv => lhs; simp -implicitDefEqProofs (maxSteps := 300000) (disch := omega) [-getElem?_pos, -getElem?_neg]
    try (with_reducible refine Run.ret ?_)
    apply zz
    apply Leave.mk (by first | exact .inl rfl | exact .inr rfl) (by simp only [Fr.marks_put, fr0_marks])
    · conv => lhs; simp -implicitDefEqProofs (disch := omega) [Try.results21]
    refine ⟨?_, (Keep.refl _).pushed _⟩
    unfold checkErr; rw [if_neg (by omega), if_pos (by omega)]; rfl
  · apply zz
    refine Cd.ra (h := ?_)
    apply Run.by_eq
    · intro self
      conv => lhs; simp -implicitDefEqProofs (maxSteps := 300000) (disch := omega) [-getElem?_pos, -getElem?_neg]
    try (with_reducible refine Run.ret ?_)
    apply zz
    refine Run.call ((firstError_ev u (.slice a fs.length c) _ fs _ (hf.keep ((Keep.refl _).pushed _)) hl).mono fun v wk hv => ?_)
    obtain ⟨rfl, k⟩ := hv
    have ka := k.1
    have kb := k.2
    try simp only [pushed_next', upded_next'] at ka kb
    apply Run.by_eq
    · intro self
      conv => lhs; simp -implicitDefEqProofs (maxSteps := 300000) (disch := omega) [-getElem?_pos, -getElem?_neg]
    try (with_reducible refine Run.ret ?_)
    apply zz
    apply Leave.mk (by first | exact .inl rfl | exact .inr rfl) (by simp only [Fr.marks_put, fr0_marks])
    · conv => lhs; simp -implicitDefEqProofs (disch := omega) [Try.results21]
    refine ⟨?_, ((Keep.refl _).pushed _).trans k⟩
    unfold checkErr; rw [if_neg (by omega), if_neg (by omega)]; rfl
end Go.Proofs.Ytjehpgflhgpalaa
namespace Go.Proofs.Ytjehpgflhgpalaa
open Go Kern
abbrev IntsAt (s : St) (v : Value) (xs : List Int) : Prop := SlAt 1 s v (xs.map fun x => [.int .i64 x])
theorem IntsAt.at {s : St} {a : Option Addr} {m c : Nat} {xs : List Int} (h : IntsAt s (.slice a m c) xs) {k : Nat} {x : Int} (hk : xs[k]? = some x) :
    ∃ b off o cs g, a = some ⟨b, off, none⟩ ∧ b < s.next ∧ s.heap.get b = some o ∧ cellsOf o = some (cs, g) ∧ cs[off + k]? = some (.int .i64 x) := by
  obtain ⟨b, off, o, cs, g, h1, h2, h3, h4, h5⟩ := SlAt.at h (k := k) (e := [.int .i64 x]) (by rw [List.getElem?_map, hk]; rfl)
  refine ⟨b, off, o, cs, g, h1, h2, h3, h4, ?_⟩
  have := takeL_one h5
  rw [List.getElem?_drop, Nat.mul_one] at this
  exact this
def indexI (x : Int) : List Int → Nat → Int
  | [], _ => -1
  | y :: r, i => if x = y then i else indexI x r (i + 1)
theorem indexI_none {x : Int} : ∀ {xs : List Int} (i : Nat), (∀ (j : Nat) (y : Int), xs[j]? = some y → x ≠ y) → indexI x xs i = -1
  | [], _, _ => rfl
  | y :: r, i, h => by
    simp only [indexI, if_neg (h 0 y rfl)]
    exact indexI_none (i + 1) fun j y hj => h (j + 1) y (by simpa using hj)
theorem indexI_some {x : Int} : ∀ {xs : List Int} (i k : Nat), (∀ (j : Nat) (y : Int), j < k → xs[j]? = some y → x ≠ y) → xs[k]? = some x → indexI x xs i = ((i + k : Nat) : Int)
  | [], _, _, _, h => by simp at h
  | y :: r, i, 0, _, h => by simp at h; subst h; simp [indexI]
  | y :: r, i, k + 1, hz, h => by
    simp only [indexI, if_neg (hz 0 y (by omega) rfl)]
    rw [indexI_some (i + 1) k (fun j y hj hy => hz (j + 1) y (by omega) (by simpa using hy)) (by simpa using h)]
    congr 1; omega
theorem indexI_mem {x : Int} : ∀ {xs : List Int} (i : Nat), (0 ≤ indexI x xs i) ↔ x ∈ xs
  | [], _ => by simp [indexI]
  | y :: r, i => by
    by_cases e : x = y
    · subst e; simp [indexI]
    · simp [indexI, if_neg e, indexI_mem (xs := r) (i + 1), e]
set_option maxRecDepth 100000 in
set_option maxHeartbeats 1000000 in
theorem index_ev (x : Int) (v : Value) (xs : List Int) (s : St) (hx : IntsAt s v xs) (hl : xs.length ≤ 1000000) :
    Ev TT 70 [v, .int .i64 x] s fun r s' => r = .int .i64 (indexI x xs 0) ∧ Keep s s' := by
  obtain ⟨a, c, rfl⟩ := hx.shape
  rw [List.length_map] at hx ⊢
  refine Ev.intro (fn := Try.f70) rfl (by kernel_rfl) rfl rfl ?_
  apply zz
  refine Cd.ra (h := ?_)
  apply Run.by_eq
  · intro self
    conv => lhs; simp -implicitDefEqProofs (maxSteps := 300000) (disch := omega) [-getElem?_pos, -getElem?_neg]
  try (with_reducible refine Run.ret ?_)
  apply zz
  refine Cd.ra (h := ?_)
  apply Run.by_eq
  · intro self
    conv => lhs; simp -implicitDefEqProofs (maxSteps := 300000) (disch := omega) [-getElem?_pos, -getElem?_neg]
  try (with_reducible refine Run.ret ?_)
  apply zz
  refine Cd.inv (fun w f s' => ∃ k : Nat, k ≤ xs.length ∧ w = xs.length - k ∧ f.marks = [] ∧ f.get 8 = .int .i64 k ∧ f.get 7 = .int .i64 xs.length ∧ f.get 0 = .slice a xs.length c ∧ f.get 1 = .int .i64 x ∧ s' = s ∧ (∀ (j : Nat) (y : Int), j < k → xs[j]? = some y → x ≠ y)) xs.length ?_ ?_
  · exact ⟨0, by omega, rfl, by simp, by simp, by simp, by simp, by simp, rfl, fun j g hj => absurd hj (by omega)⟩
  rintro w f s' ⟨k, hk, rfl, hm, h8, h7, h0, h1, rfl, hz⟩
  by_cases hlt : k < xs.length
  · obtain ⟨y, hy⟩ : ∃ y, xs[k]? = some y := ⟨xs[k], by simp [hlt]⟩
    obtain ⟨b, off, o, cs, gg, rfl, hb, ho, hc, ht⟩ := IntsAt.at hx hy
    apply zz
    refine Cd.ra (h := ?_)
    apply Run.by_eq
    · intro self
      conv => lhs; simp -implicitDefEqProofs (maxSteps := 300000) (disch := omega) [-getElem?_pos, -getElem?_neg, h8, h7]
    try (with_reducible refine Run.ret ?_)
    apply zz
    apply Cd.ite rfl
    · conv => lhs; simp -implicitDefEqProofs (maxSteps := 300000) (disch := omega) [-getElem?_pos, -getElem?_neg]
    all_goals intro c0
    all_goals try (cases c0; done)
    all_goals try simp only [Bool.not_eq_true', Bool.not_eq_false', decide_eq_true_eq, decide_eq_false_iff_not] at c0
    all_goals apply zz
    · apply zz
      refine Cd.ra (h := ?_)
      apply Run.by_eq
      · intro self
        conv => lhs; simp -implicitDefEqProofs (maxSteps := 300000) (disch := omega) [-getElem?_pos, -getElem?_neg, h8]
      try (with_reducible refine Run.ret ?_)
      apply zz
      refine Cd.ra (h := ?_)
      apply Run.by_eq
      · intro self
        conv => lhs; simp -implicitDefEqProofs (maxSteps := 300000) (disch := omega) [-getElem?_pos, -getElem?_neg, h1, h0, ho, hc, ht, hlt]
      try (with_reducible refine Run.ret ?_)
      apply zz
      apply Cd.ite rfl
      · conv => lhs; simp -implicitDefEqProofs (maxSteps := 300000) (disch := omega) [-getElem?_pos, -getElem?_neg]
      all_goals intro c2
      all_goals try (cases c2; done)
      all_goals try simp only [Bool.not_eq_true', Bool.not_eq_false', decide_eq_true_eq, decide_eq_false_iff_not] at c2
      all_goals apply zz
      · apply zz
        refine Cd.ra (h := ?_)
        apply Run.by_eq
        · intro self
          conv => lhs; simp -implicitDefEqProofs (maxSteps := 300000) (disch := omega) [-getElem?_pos, -getElem?_neg]
        try (with_reducible refine Run.ret ?_)
        apply zz
        apply Leave.mk (by first | exact .inl rfl | exact .inr rfl) (by simp only [Fr.marks_put, fr0_marks, hm])
        · conv => lhs; simp -implicitDefEqProofs (disch := omega) [Try.results70, hm]
        subst c2
        exact ⟨by rw [indexI_some 0 k hz hy]; simp [tupled], Keep.refl _⟩
      · apply zz
        refine Cd.ra (h := ?_)
        apply Run.by_eq
        · intro self
          conv => lhs; simp -implicitDefEqProofs (maxSteps := 300000) (disch := omega) [-getElem?_pos, -getElem?_neg, h8]
        try (with_reducible refine Run.ret ?_)
        apply zz
        refine LoopK.nm (xs.length - (k + 1)) (by omega) ⟨k + 1, by omega, rfl, by simp [hm], by simp, by simp [h7], by simp [h0], by simp [h1], rfl, fun j g' hj hg' => ?_⟩
        by_cases e : j = k
        · subst e
          rw [hy] at hg'
          cases hg'
          exact c2
        · exact hz j g' (by omega) hg'
    · simp at c0; omega
  · obtain rfl : k = xs.length := by omega
    apply zz
    refine Cd.ra (h := ?_)
    apply Run.by_eq
    · intro self
      conv => lhs; simp -implicitDefEqProofs (maxSteps := 300000) (disch := omega) [-getElem?_pos, -getElem?_neg, h8, h7]
    try (with_reducible refine Run.ret ?_)
    apply zz
    apply Cd.ite rfl
    · conv => lhs; simp -implicitDefEqProofs (maxSteps := 300000) (disch := omega) [-getElem?_pos, -getElem?_neg]
    all_goals intro c0
    all_goals try (cases c0; done)
    all_goals try simp only [Bool.not_eq_true', Bool.not_eq_false', decide_eq_true_eq, decide_eq_false_iff_not] at c0
    all_goals apply zz
    apply zz
    refine Cd.ra (h := ?_)
    apply Run.by_eq
    · intro self
      conv => lhs; simp -implicitDefEqProofs (maxSteps := 300000) (disch := omega) [-getElem?_pos, -getElem?_neg]
    try (with_reducible refine Run.ret ?_)
    apply zz
    apply Leave.mk (by first | exact .inl rfl | exact .inr rfl) (by simp only [Fr.marks_put, fr0_marks, hm])
    · conv => lhs; simp -implicitDefEqProofs (disch := omega) [Try.results70, hm]
    exact ⟨by rw [indexI_none 0 fun j y hy => hz j y (List.getElem?_eq_some_iff.1 hy).1 hy]; rfl, Keep.refl _⟩
set_option maxRecDepth 100000 in
theorem contains_ev (x : Int) (v : Value) (xs : List Int) (s : St) (hx : IntsAt s v xs) (hl : xs.length ≤ 1000000) :
    Ev TT 60 [v, .int .i64 x] s fun r s' => r = .bool (decide (x ∈ xs)) ∧ Keep s s' := by
  refine Ev.intro (fn := Try.f60) rfl (by kernel_rfl) rfl rfl ?_
  apply zz
  refine Cd.ra (h := ?_)
  apply Run.by_eq
  · intro self
    conv => lhs; simp -implicitDefEqProofs (maxSteps := 300000) (disch := omega) [-getElem?_pos, -getElem?_neg]
  try (with_reducible refine Run.ret ?_)
  apply zz
  refine Cd.ra (h := ?_)
  apply Run.by_eq
  · intro self
    conv => lhs; simp -implicitDefEqProofs (maxSteps := 300000) (disch := omega) [-getElem?_pos, -getElem?_neg]
  try (with_reducible refine Run.ret ?_)
  apply zz
  refine Run.call ((index_ev x v xs _ hx hl).mono fun v wk hv => ?_)
  obtain ⟨rfl, k⟩ := hv
  have ka := k.1
  have kb := k.2
  try simp only [pushed_next', upded_next'] at ka kb
  apply Run.by_eq
  · intro self
    conv => lhs; simp -implicitDefEqProofs (maxSteps := 300000) (disch := omega) [-getElem?_pos, -getElem?_neg]
  try (with_reducible refine Run.ret ?_)
  apply zz
  apply Leave.mk (by first | exact .inl rfl | exact .inr rfl) (by simp only [Fr.marks_put, fr0_marks])
  · conv => lhs; simp -implicitDefEqProofs (disch := omega) [Try.results60]
  refine ⟨?_, k⟩
  have := @indexI_mem x xs 0
  simp [tupled, this]
def Mass.add (m p : Mass) : Mass := ⟨m.a + p.a, m.b + p.b, m.c + p.c, m.d + p.d⟩
def Mass.sub (m p : Mass) : Mass := ⟨m.a - p.a, m.b - p.b, m.c - p.c, m.d - p.d⟩
def Mass.le (m : Mass) (B : Int) : Prop := (-B ≤ m.a ∧ m.a ≤ B) ∧ (-B ≤ m.b ∧ m.b ≤ B) ∧ (-B ≤ m.c ∧ m.c ≤ B) ∧ (-B ≤ m.d ∧ m.d ≤ B)
/-- The first k of one and the rest of the other. -/
def mixL (k : Nat) (x y : Mass) : List Value := [.int .i64 (if 0 < k then x.a else y.a), .int .i64 (if 1 < k then x.b else y.b), .int .i64 (if 2 < k then x.c else y.c), .int .i64 (if 3 < k then x.d else y.d)]
set_option maxRecDepth 100000 in
set_option maxHeartbeats 1000000 in
theorem plus_ev (m p : Mass) (s : St) (hb : (m.add p).le 4611686018427387904) : Ev TT 61 [m.v, p.v] s fun v s' => v = (m.add p).v ∧ Keep s s' := by
  obtain ⟨⟨a1, a2⟩, ⟨b1, b2⟩, ⟨c1, c2⟩, d1, d2⟩ := hb
  simp only [Mass.add] at a1 a2 b1 b2 c1 c2 d1 d2
  unfold Mass.v
  refine Ev.intro (fn := Try.f61) rfl (by kernel_rfl) rfl rfl ?_
  apply zz
  refine Cd.ra (h := ?_)
  apply Run.by_eq
  · intro self
    conv => lhs; simp -implicitDefEqProofs (maxSteps := 300000) (disch := omega) [-getElem?_pos, -getElem?_neg]
  try (with_reducible refine Run.ret ?_)
  apply zz
  refine Cd.ra (h := ?_)
  apply Run.by_eq
  · intro self
    conv => lhs; simp -implicitDefEqProofs (maxSteps := 300000) (disch := omega) [-getElem?_pos, -getElem?_neg]
  try (with_reducible refine Run.ret ?_)
  apply zz
  refine Cd.inv (fun w f s' => ∃ k : Nat, k ≤ 4 ∧ w = 4 - k ∧ f.marks = [] ∧ f.get 8 = .int .i64 k ∧ f.get 7 = .agg [.int .i64 p.a, .int .i64 p.b, .int .i64 p.c, .int .i64 p.d].toArray ∧ f.get 2 = .pointer (some ⟨s.next, 0, none⟩) ∧ f.get 4 = .pointer (some ⟨s.next + 1 + 1, 0, none⟩) ∧ Keep s s' ∧ s.next + 1 + 1 < s'.next ∧ s'.heap.get s.next = some (.cells (mixL k (m.add p) m) none) ∧ s'.heap.get (s.next + 1 + 1) = some (.cells [.int .i64 0, .int .i64 0, .int .i64 0, .int .i64 0] none)) 4 ?_ ?_
  · exact ⟨0, by omega, rfl, by simp, by simp, by simp, by simp, by simp, (((Keep.refl _).pushed _).pushed _).pushed _, by simp, by simp -implicitDefEqProofs (disch := omega) [mixL], by simp⟩
  rintro w f s' ⟨k, hk, rfl, hm, h8, h7, h2, h4, hkp, hnx, hget, hget2⟩
  have hkpa := hkp.1
  have hk5 : k = 0 ∨ k = 1 ∨ k = 2 ∨ k = 3 ∨ k = 4 := by omega
  rcases hk5 with rfl | rfl | rfl | rfl | rfl
  all_goals simp only [mixL, Mass.add, Nat.lt_irrefl, if_false, Nat.reduceLT, if_true] at hget
  · apply zz
    refine Cd.ra (h := ?_)
    apply Run.by_eq
    · intro self
      conv => lhs; simp -implicitDefEqProofs (maxSteps := 300000) (disch := omega) [-getElem?_pos, -getElem?_neg, h8]
    try (with_reducible refine Run.ret ?_)
    apply zz
    apply Cd.ite rfl
    · conv => lhs; simp -implicitDefEqProofs (maxSteps := 300000) (disch := omega) [-getElem?_pos, -getElem?_neg]
    all_goals intro c0
    all_goals try (cases c0; done)
    all_goals try simp only [Bool.not_eq_true', Bool.not_eq_false', decide_eq_true_eq, decide_eq_false_iff_not] at c0
    all_goals apply zz
    · apply zz
      refine Cd.ra (h := ?_)
      apply Run.by_eq
      · intro self
        conv => lhs; simp -implicitDefEqProofs (maxSteps := 300000) (disch := omega) [-getElem?_pos, -getElem?_neg, h8, h7]
      try (with_reducible refine Run.ret ?_)
      apply zz
      refine Cd.ra (h := ?_)
      apply Run.by_eq
      · intro self
        conv => lhs; simp -implicitDefEqProofs (maxSteps := 300000) (disch := omega) [-getElem?_pos, -getElem?_neg, h2, hget]
      try (with_reducible refine Run.ret ?_)
      apply zz
      refine Cd.ra (h := ?_)
      apply Run.by_eq
      · intro self
        conv => lhs; simp -implicitDefEqProofs (maxSteps := 300000) (disch := omega) [-getElem?_pos, -getElem?_neg, h8]
      try (with_reducible refine Run.ret ?_)
      apply zz
      refine LoopK.nm (4 - (0 + 1)) (by omega) ⟨0 + 1, by omega, rfl, by simp [hm], by simp, by simp [h7], by simp [h2], by simp [h4], hkp.upded (Nat.le_refl _) _, by simpa using hnx, ?_, ?_⟩
      · simp [mixL, Mass.add]
      · simp -implicitDefEqProofs (disch := omega) [hget2]
  · apply zz
    refine Cd.ra (h := ?_)
    apply Run.by_eq
    · intro self
      conv => lhs; simp -implicitDefEqProofs (maxSteps := 300000) (disch := omega) [-getElem?_pos, -getElem?_neg, h8]
    try (with_reducible refine Run.ret ?_)
    apply zz
    apply Cd.ite rfl
    · conv => lhs; simp -implicitDefEqProofs (maxSteps := 300000) (disch := omega) [-getElem?_pos, -getElem?_neg]
    all_goals intro c0
    all_goals try (cases c0; done)
    all_goals try simp only [Bool.not_eq_true', Bool.not_eq_false', decide_eq_true_eq, decide_eq_false_iff_not] at c0
    all_goals apply zz
    · apply zz
      refine Cd.ra (h := ?_)
      apply Run.by_eq
      · intro self
        conv => lhs; simp -implicitDefEqProofs (maxSteps := 300000) (disch := omega) [-getElem?_pos, -getElem?_neg, h8, h7]
      try (with_reducible refine Run.ret ?_)
      apply zz
      refine Cd.ra (h := ?_)
      apply Run.by_eq
      · intro self
        conv => lhs; simp -implicitDefEqProofs (maxSteps := 300000) (disch := omega) [-getElem?_pos, -getElem?_neg, h2, hget]
      try (with_reducible refine Run.ret ?_)
      apply zz
      refine Cd.ra (h := ?_)
      apply Run.by_eq
      · intro self
        conv => lhs; simp -implicitDefEqProofs (maxSteps := 300000) (disch := omega) [-getElem?_pos, -getElem?_neg, h8]
      try (with_reducible refine Run.ret ?_)
      apply zz
      refine LoopK.nm (4 - (1 + 1)) (by omega) ⟨1 + 1, by omega, rfl, by simp [hm], by simp, by simp [h7], by simp [h2], by simp [h4], hkp.upded (Nat.le_refl _) _, by simpa using hnx, ?_, ?_⟩
      · simp [mixL, Mass.add]
      · simp -implicitDefEqProofs (disch := omega) [hget2]
  · apply zz
    refine Cd.ra (h := ?_)
    apply Run.by_eq
    · intro self
      conv => lhs; simp -implicitDefEqProofs (maxSteps := 300000) (disch := omega) [-getElem?_pos, -getElem?_neg, h8]
    try (with_reducible refine Run.ret ?_)
    apply zz
    apply Cd.ite rfl
    · conv => lhs; simp -implicitDefEqProofs (maxSteps := 300000) (disch := omega) [-getElem?_pos, -getElem?_neg]
    all_goals intro c0
    all_goals try (cases c0; done)
    all_goals try simp only [Bool.not_eq_true', Bool.not_eq_false', decide_eq_true_eq, decide_eq_false_iff_not] at c0
    all_goals apply zz
    · apply zz
      refine Cd.ra (h := ?_)
      apply Run.by_eq
      · intro self
        conv => lhs; simp -implicitDefEqProofs (maxSteps := 300000) (disch := omega) [-getElem?_pos, -getElem?_neg, h8, h7]
      try (with_reducible refine Run.ret ?_)
      apply zz
      refine Cd.ra (h := ?_)
      apply Run.by_eq
      · intro self
        conv => lhs; simp -implicitDefEqProofs (maxSteps := 300000) (disch := omega) [-getElem?_pos, -getElem?_neg, h2, hget]
      try (with_reducible refine Run.ret ?_)
      apply zz
      refine Cd.ra (h := ?_)
      apply Run.by_eq
      · intro self
        conv => lhs; simp -implicitDefEqProofs (maxSteps := 300000) (disch := omega) [-getElem?_pos, -getElem?_neg, h8]
      try (with_reducible refine Run.ret ?_)
      apply zz
      refine LoopK.nm (4 - (2 + 1)) (by omega) ⟨2 + 1, by omega, rfl, by simp [hm], by simp, by simp [h7], by simp [h2], by simp [h4], hkp.upded (Nat.le_refl _) _, by simpa using hnx, ?_, ?_⟩
      · simp [mixL, Mass.add]
      · simp -implicitDefEqProofs (disch := omega) [hget2]
  · apply zz
    refine Cd.ra (h := ?_)
    apply Run.by_eq
    · intro self
      conv => lhs; simp -implicitDefEqProofs (maxSteps := 300000) (disch := omega) [-getElem?_pos, -getElem?_neg, h8]
    try (with_reducible refine Run.ret ?_)
    apply zz
    apply Cd.ite rfl
    · conv => lhs; simp -implicitDefEqProofs (maxSteps := 300000) (disch := omega) [-getElem?_pos, -getElem?_neg]
    all_goals intro c0
    all_goals try (cases c0; done)
    all_goals try simp only [Bool.not_eq_true', Bool.not_eq_false', decide_eq_true_eq, decide_eq_false_iff_not] at c0
    all_goals apply zz
    · apply zz
      refine Cd.ra (h := ?_)
      apply Run.by_eq
      · intro self
        conv => lhs; simp -implicitDefEqProofs (maxSteps := 300000) (disch := omega) [-getElem?_pos, -getElem?_neg, h8, h7]
      try (with_reducible refine Run.ret ?_)
      apply zz
      refine Cd.ra (h := ?_)
      apply Run.by_eq
      · intro self
        conv => lhs; simp -implicitDefEqProofs (maxSteps := 300000) (disch := omega) [-getElem?_pos, -getElem?_neg, h2, hget]
      try (with_reducible refine Run.ret ?_)
      apply zz
      refine Cd.ra (h := ?_)
      apply Run.by_eq
      · intro self
        conv => lhs; simp -implicitDefEqProofs (maxSteps := 300000) (disch := omega) [-getElem?_pos, -getElem?_neg, h8]
      try (with_reducible refine Run.ret ?_)
      apply zz
      refine LoopK.nm (4 - (3 + 1)) (by omega) ⟨3 + 1, by omega, rfl, by simp [hm], by simp, by simp [h7], by simp [h2], by simp [h4], hkp.upded (Nat.le_refl _) _, by simpa using hnx, ?_, ?_⟩
      · simp [mixL, Mass.add]
      · simp -implicitDefEqProofs (disch := omega) [hget2]
  · apply zz
    refine Cd.ra (h := ?_)
    apply Run.by_eq
    · intro self
      conv => lhs; simp -implicitDefEqProofs (maxSteps := 300000) (disch := omega) [-getElem?_pos, -getElem?_neg, h8]
    try (with_reducible refine Run.ret ?_)
    apply zz
    apply Cd.ite rfl
    · conv => lhs; simp -implicitDefEqProofs (maxSteps := 300000) (disch := omega) [-getElem?_pos, -getElem?_neg]
    all_goals intro c0
    all_goals try (cases c0; done)
    all_goals try simp only [Bool.not_eq_true', Bool.not_eq_false', decide_eq_true_eq, decide_eq_false_iff_not] at c0
    all_goals apply zz
    apply zz
    refine Cd.ra (h := ?_)
    apply Run.by_eq
    · intro self
      conv => lhs; simp -implicitDefEqProofs (maxSteps := 300000) (disch := omega) [-getElem?_pos, -getElem?_neg, h2, hget, h4, hget2]
    try (with_reducible refine Run.ret ?_)
    apply zz
    apply Leave.mk (by first | exact .inl rfl | exact .inr rfl) (by simp only [Fr.marks_put, fr0_marks, hm, h4])
    · conv => lhs; simp -implicitDefEqProofs (disch := omega) [Try.results61, hm, h4]
    exact ⟨rfl, hkp.upded (by omega) _⟩
set_option maxRecDepth 100000 in
set_option maxHeartbeats 1000000 in
theorem minus_ev (m p : Mass) (s : St) (hb : (m.sub p).le 4611686018427387904) : Ev TT 62 [m.v, p.v] s fun v s' => v = (m.sub p).v ∧ Keep s s' := by
  obtain ⟨⟨a1, a2⟩, ⟨b1, b2⟩, ⟨c1, c2⟩, d1, d2⟩ := hb
  simp only [Mass.sub] at a1 a2 b1 b2 c1 c2 d1 d2
  unfold Mass.v
  refine Ev.intro (fn := Try.f62) rfl (by kernel_rfl) rfl rfl ?_
  apply zz
  refine Cd.ra (h := ?_)
  apply Run.by_eq
  · intro self
    conv => lhs; simp -implicitDefEqProofs (maxSteps := 300000) (disch := omega) [-getElem?_pos, -getElem?_neg]
  try (with_reducible refine Run.ret ?_)
  apply zz
  refine Cd.ra (h := ?_)
  apply Run.by_eq
  · intro self
    conv => lhs; simp -implicitDefEqProofs (maxSteps := 300000) (disch := omega) [-getElem?_pos, -getElem?_neg]
  try (with_reducible refine Run.ret ?_)
  apply zz
  refine Cd.inv (fun w f s' => ∃ k : Nat, k ≤ 4 ∧ w = 4 - k ∧ f.marks = [] ∧ f.get 8 = .int .i64 k ∧ f.get 7 = .agg [.int .i64 p.a, .int .i64 p.b, .int .i64 p.c, .int .i64 p.d].toArray ∧ f.get 2 = .pointer (some ⟨s.next, 0, none⟩) ∧ f.get 4 = .pointer (some ⟨s.next + 1 + 1, 0, none⟩) ∧ Keep s s' ∧ s.next + 1 + 1 < s'.next ∧ s'.heap.get s.next = some (.cells (mixL k (m.sub p) m) none) ∧ s'.heap.get (s.next + 1 + 1) = some (.cells [.int .i64 0, .int .i64 0, .int .i64 0, .int .i64 0] none)) 4 ?_ ?_
  · exact ⟨0, by omega, rfl, by simp, by simp, by simp, by simp, by simp, (((Keep.refl _).pushed _).pushed _).pushed _, by simp, by simp -implicitDefEqProofs (disch := omega) [mixL], by simp⟩
  rintro w f s' ⟨k, hk, rfl, hm, h8, h7, h2, h4, hkp, hnx, hget, hget2⟩
  have hkpa := hkp.1
  have hk5 : k = 0 ∨ k = 1 ∨ k = 2 ∨ k = 3 ∨ k = 4 := by omega
  rcases hk5 with rfl | rfl | rfl | rfl | rfl
  all_goals simp only [mixL, Mass.sub, Nat.lt_irrefl, if_false, Nat.reduceLT, if_true] at hget
  · apply zz
    refine Cd.ra (h := ?_)
    apply Run.by_eq
    · intro self
      conv => lhs; simp -implicitDefEqProofs (maxSteps := 300000) (disch := omega) [-getElem?_pos, -getElem?_neg, h8]
    try (with_reducible refine Run.ret ?_)
    apply zz
    apply Cd.ite rfl
    · conv => lhs; simp -implicitDefEqProofs (maxSteps := 300000) (disch := omega) [-getElem?_pos, -getElem?_neg]
    all_goals intro c0
    all_goals try (cases c0; done)
    all_goals try simp only [Bool.not_eq_true', Bool.not_eq_false', decide_eq_true_eq, decide_eq_false_iff_not] at c0
    all_goals apply zz
    · apply zz
      refine Cd.ra (h := ?_)
      apply Run.by_eq
      · intro self
        conv => lhs; simp -implicitDefEqProofs (maxSteps := 300000) (disch := omega) [-getElem?_pos, -getElem?_neg, h8, h7]
      try (with_reducible refine Run.ret ?_)
      apply zz
      refine Cd.ra (h := ?_)
      apply Run.by_eq
      · intro self
        conv => lhs; simp -implicitDefEqProofs (maxSteps := 300000) (disch := omega) [-getElem?_pos, -getElem?_neg, h2, hget]
      try (with_reducible refine Run.ret ?_)
      apply zz
      refine Cd.ra (h := ?_)
      apply Run.by_eq
      · intro self
        conv => lhs; simp -implicitDefEqProofs (maxSteps := 300000) (disch := omega) [-getElem?_pos, -getElem?_neg, h8]
      try (with_reducible refine Run.ret ?_)
      apply zz
      refine LoopK.nm (4 - (0 + 1)) (by omega) ⟨0 + 1, by omega, rfl, by simp [hm], by simp, by simp [h7], by simp [h2], by simp [h4], hkp.upded (Nat.le_refl _) _, by simpa using hnx, ?_, ?_⟩
      · simp [mixL, Mass.sub]
      · simp -implicitDefEqProofs (disch := omega) [hget2]
  · apply zz
    refine Cd.ra (h := ?_)
    apply Run.by_eq
    · intro self
      conv => lhs; simp -implicitDefEqProofs (maxSteps := 300000) (disch := omega) [-getElem?_pos, -getElem?_neg, h8]
    try (with_reducible refine Run.ret ?_)
    apply zz
    apply Cd.ite rfl
    · conv => lhs; simp -implicitDefEqProofs (maxSteps := 300000) (disch := omega) [-getElem?_pos, -getElem?_neg]
    all_goals intro c0
    all_goals try (cases c0; done)
    all_goals try simp only [Bool.not_eq_true', Bool.not_eq_false', decide_eq_true_eq, decide_eq_false_iff_not] at c0
    all_goals apply zz
    · apply zz
      refine Cd.ra (h := ?_)
      apply Run.by_eq
      · intro self
        conv => lhs; simp -implicitDefEqProofs (maxSteps := 300000) (disch := omega) [-getElem?_pos, -getElem?_neg, h8, h7]
      try (with_reducible refine Run.ret ?_)
      apply zz
      refine Cd.ra (h := ?_)
      apply Run.by_eq
      · intro self
        conv => lhs; simp -implicitDefEqProofs (maxSteps := 300000) (disch := omega) [-getElem?_pos, -getElem?_neg, h2, hget]
      try (with_reducible refine Run.ret ?_)
      apply zz
      refine Cd.ra (h := ?_)
      apply Run.by_eq
      · intro self
        conv => lhs; simp -implicitDefEqProofs (maxSteps := 300000) (disch := omega) [-getElem?_pos, -getElem?_neg, h8]
      try (with_reducible refine Run.ret ?_)
      apply zz
      refine LoopK.nm (4 - (1 + 1)) (by omega) ⟨1 + 1, by omega, rfl, by simp [hm], by simp, by simp [h7], by simp [h2], by simp [h4], hkp.upded (Nat.le_refl _) _, by simpa using hnx, ?_, ?_⟩
      · simp [mixL, Mass.sub]
      · simp -implicitDefEqProofs (disch := omega) [hget2]
  · apply zz
    refine Cd.ra (h := ?_)
    apply Run.by_eq
    · intro self
      conv => lhs; simp -implicitDefEqProofs (maxSteps := 300000) (disch := omega) [-getElem?_pos, -getElem?_neg, h8]
    try (with_reducible refine Run.ret ?_)
    apply zz
    apply Cd.ite rfl
    · conv => lhs; simp -implicitDefEqProofs (maxSteps := 300000) (disch := omega) [-getElem?_pos, -getElem?_neg]
    all_goals intro c0
    all_goals try (cases c0; done)
    all_goals try simp only [Bool.not_eq_true', Bool.not_eq_false', decide_eq_true_eq, decide_eq_false_iff_not] at c0
    all_goals apply zz
    · apply zz
      refine Cd.ra (h := ?_)
      apply Run.by_eq
      · intro self
        conv => lhs; simp -implicitDefEqProofs (maxSteps := 300000) (disch := omega) [-getElem?_pos, -getElem?_neg, h8, h7]
      try (with_reducible refine Run.ret ?_)
      apply zz
      refine Cd.ra (h := ?_)
      apply Run.by_eq
      · intro self
        conv => lhs; simp -implicitDefEqProofs (maxSteps := 300000) (disch := omega) [-getElem?_pos, -getElem?_neg, h2, hget]
      try (with_reducible refine Run.ret ?_)
      apply zz
      refine Cd.ra (h := ?_)
      apply Run.by_eq
      · intro self
        conv => lhs; simp -implicitDefEqProofs (maxSteps := 300000) (disch := omega) [-getElem?_pos, -getElem?_neg, h8]
      try (with_reducible refine Run.ret ?_)
      apply zz
      refine LoopK.nm (4 - (2 + 1)) (by omega) ⟨2 + 1, by omega, rfl, by simp [hm], by simp, by simp [h7], by simp [h2], by simp [h4], hkp.upded (Nat.le_refl _) _, by simpa using hnx, ?_, ?_⟩
      · simp [mixL, Mass.sub]
      · simp -implicitDefEqProofs (disch := omega) [hget2]
  · apply zz
    refine Cd.ra (h := ?_)
    apply Run.by_eq
    · intro self
      conv => lhs; simp -implicitDefEqProofs (maxSteps := 300000) (disch := omega) [-getElem?_pos, -getElem?_neg, h8]
    try (with_reducible refine Run.ret ?_)
    apply zz
    apply Cd.ite rfl
    · conv => lhs; simp -implicitDefEqProofs (maxSteps := 300000) (disch := omega) [-getElem?_pos, -getElem?_neg]
    all_goals intro c0
    all_goals try (cases c0; done)
    all_goals try simp only [Bool.not_eq_true', Bool.not_eq_false', decide_eq_true_eq, decide_eq_false_iff_not] at c0
    all_goals apply zz
    · apply zz
      refine Cd.ra (h := ?_)
      apply Run.by_eq
      · intro self
        conv => lhs; simp -implicitDefEqProofs (maxSteps := 300000) (disch := omega) [-getElem?_pos, -getElem?_neg, h8, h7]
      try (with_reducible refine Run.ret ?_)
      apply zz
      refine Cd.ra (h := ?_)
      apply Run.by_eq
      · intro self
        conv => lhs; simp -implicitDefEqProofs (maxSteps := 300000) (disch := omega) [-getElem?_pos, -getElem?_neg, h2, hget]
      try (with_reducible refine Run.ret ?_)
      apply zz
      refine Cd.ra (h := ?_)
      apply Run.by_eq
      · intro self
        conv => lhs; simp -implicitDefEqProofs (maxSteps := 300000) (disch := omega) [-getElem?_pos, -getElem?_neg, h8]
      try (with_reducible refine Run.ret ?_)
      apply zz
      refine LoopK.nm (4 - (3 + 1)) (by omega) ⟨3 + 1, by omega, rfl, by simp [hm], by simp, by simp [h7], by simp [h2], by simp [h4], hkp.upded (Nat.le_refl _) _, by simpa using hnx, ?_, ?_⟩
      · simp [mixL, Mass.sub]
      · simp -implicitDefEqProofs (disch := omega) [hget2]
  · apply zz
    refine Cd.ra (h := ?_)
    apply Run.by_eq
    · intro self
      conv => lhs; simp -implicitDefEqProofs (maxSteps := 300000) (disch := omega) [-getElem?_pos, -getElem?_neg, h8]
    try (with_reducible refine Run.ret ?_)
    apply zz
    apply Cd.ite rfl
    · conv => lhs; simp -implicitDefEqProofs (maxSteps := 300000) (disch := omega) [-getElem?_pos, -getElem?_neg]
    all_goals intro c0
    all_goals try (cases c0; done)
    all_goals try simp only [Bool.not_eq_true', Bool.not_eq_false', decide_eq_true_eq, decide_eq_false_iff_not] at c0
    all_goals apply zz
    apply zz
    refine Cd.ra (h := ?_)
    apply Run.by_eq
    · intro self
      conv => lhs; simp -implicitDefEqProofs (maxSteps := 300000) (disch := omega) [-getElem?_pos, -getElem?_neg, h2, hget, h4, hget2]
    try (with_reducible refine Run.ret ?_)
    apply zz
    apply Leave.mk (by first | exact .inl rfl | exact .inr rfl) (by simp only [Fr.marks_put, fr0_marks, hm, h4])
    · conv => lhs; simp -implicitDefEqProofs (disch := omega) [Try.results62, hm, h4]
    exact ⟨rfl, hkp.upded (by omega) _⟩
end Go.Proofs.Ytjehpgflhgpalaa
namespace Go.Proofs.Ytjehpgflhgpalaa
open Go Kern
def Mass.zero : Mass := ⟨0, 0, 0, 0⟩
theorem Mass.le.add {m p : Mass} {A B : Int} (h : m.le A) (k : p.le B) : (m.add p).le (A + B) := by
  unfold Mass.le Mass.add at *; simp only []; omega
theorem Mass.le.sub {m p : Mass} {A B : Int} (h : m.le A) (k : p.le B) : (m.sub p).le (A + B) := by
  unfold Mass.le Mass.sub at *; simp only []; omega
theorem Mass.le.mono {m : Mass} {A B : Int} (h : m.le A) (k : A ≤ B) : m.le B := by
  unfold Mass.le at *; omega
theorem Mass.add_sub (m p : Mass) : (m.add p).sub p = m := by
  unfold Mass.add Mass.sub; cases m; simp
def excStep (xs : List Int) (acc : Mass) (f : FlowD) : Mass :=
  if f.me then (if f.fr ∈ xs then (if f.to ∈ xs then acc.add f.m else acc).sub f.m else if f.to ∈ xs then acc.add f.m else acc) else acc
def excM (xs : List Int) (fs : List FlowD) : Mass := fs.foldl (excStep xs) Mass.zero
theorem excStep_le {xs : List Int} {acc : Mass} {f : FlowD} {A B : Int} (h : acc.le A) (hB : 0 ≤ B) (hf : f.me = true → f.m.le B) : (excStep xs acc f).le (A + B) := by
  unfold excStep
  by_cases hm : f.me = true
  · rw [if_pos hm]
    by_cases h1 : f.fr ∈ xs <;> by_cases h2 : f.to ∈ xs <;> simp only [h1, h2, if_true, if_false]
    · rw [Mass.add_sub]; exact h.mono (by omega)
    · exact h.sub (hf hm)
    · exact h.add (hf hm)
    · exact h.mono (by omega)
  · rw [if_neg hm]; exact h.mono (by omega)
theorem fold_take {α β : Type} (g : β → α → β) (b : β) (l : List α) {k : Nat} {x : α} (h : l[k]? = some x) : (l.take (k + 1)).foldl g b = g ((l.take k).foldl g b) x := by
  rw [List.take_add_one, h]; simp
theorem exc_bound {xs : List Int} {fs : List FlowD} {B : Int} (hB : 0 ≤ B) (hf : ∀ f ∈ fs, f.me = true → f.m.le B) : ∀ k : Nat, ((fs.take k).foldl (excStep xs) Mass.zero).le (k * B)
  | 0 => by simp [Mass.le, Mass.zero]
  | k + 1 => by
    cases hk : fs[k]? with
    | none =>
      have : fs.take (k + 1) = fs.take k := by
        rw [List.getElem?_eq_none_iff] at hk
        rw [List.take_of_length_le hk, List.take_of_length_le (by omega)]
      rw [this]
      exact (exc_bound hB hf k).mono (by push_cast; rw [Int.add_mul]; omega)
    | some f =>
      rw [fold_take _ _ _ hk]
      have := excStep_le (xs := xs) (exc_bound (xs := xs) hB hf k) hB (hf f (List.mem_of_getElem? hk))
      exact this.mono (by push_cast; rw [Int.add_mul]; omega)
set_option maxRecDepth 100000 in
set_option maxHeartbeats 2000000 in
theorem excess_ev (u : Int) (v w : Value) (fs : List FlowD) (xs : List Int) (s : St) (hf : FlAt s v fs) (hx : IntsAt s w xs) (hl : fs.length ≤ 1000) (hlx : xs.length ≤ 1000000)
    (hB : ∀ f ∈ fs, f.me = true → f.m.le 1000000000000) :
    Ev TT 41 [plantV u v, w] s fun r s' => r = (excM xs fs).v ∧ Keep s s' := by
  obtain ⟨a, c, rfl⟩ := hf.shape
  rw [List.length_map] at hf ⊢
  unfold plantV
  have hbd := exc_bound (xs := xs) (fs := fs) (B := 1000000000000) (by omega) hB
  refine Ev.intro (fn := Try.f41) rfl (by kernel_rfl) rfl rfl ?_
  apply zz
  refine Cd.ra (h := ?_)
  apply Run.by_eq
  · intro self
    conv => lhs; simp -implicitDefEqProofs (maxSteps := 300000) (disch := omega) [-getElem?_pos, -getElem?_neg]
  try (with_reducible refine Run.ret ?_)
  apply zz
  refine Cd.ra (h := ?_)
  apply Run.by_eq
  · intro self
    conv => lhs; simp -implicitDefEqProofs (maxSteps := 300000) (disch := omega) [-getElem?_pos, -getElem?_neg]
  try (with_reducible refine Run.ret ?_)
  apply zz
  refine Cd.ra (h := ?_)
  apply Run.by_eq
  · intro self
    conv => lhs; simp -implicitDefEqProofs (maxSteps := 300000) (disch := omega) [-getElem?_pos, -getElem?_neg]
  try (with_reducible refine Run.ret ?_)
  apply zz
  refine Cd.inv (fun z f s' => ∃ k : Nat, k ≤ fs.length ∧ z = fs.length - k ∧ f.marks = [] ∧ f.get 11 = .int .i64 k ∧ f.get 10 = .int .i64 fs.length ∧ f.get 9 = .slice a fs.length c ∧ f.get 1 = w ∧ f.get 4 = .pointer (some ⟨s.next + 1, 0, none⟩) ∧ f.get 5 = .pointer (some ⟨s.next + 1 + 1, 0, none⟩) ∧ Keep s s' ∧ s.next + 1 + 1 < s'.next ∧ s'.heap.get (s.next + 1) = some (.cells Mass.zero.cs none) ∧ s'.heap.get (s.next + 1 + 1) = some (.cells ((fs.take k).foldl (excStep xs) Mass.zero).cs none)) fs.length ?_ ?_
  · exact ⟨0, by omega, rfl, by simp, by simp, by simp, by simp, by simp, by simp, by simp, (((Keep.refl _).pushed _).pushed _).pushed _, by simp, by simp [Mass.zero, Mass.cs], by simp [Mass.zero, Mass.cs]⟩
  rintro z f s' ⟨k, hk, rfl, hm, h11, h10, h9, h1, h4, h5, hkp, hnx, hg1, hg2⟩
  have hkpa := hkp.1
  have hkpb := hkp.2
  by_cases hlt : k < fs.length
  · obtain ⟨g, hg⟩ : ∃ g, fs[k]? = some g := ⟨fs[k], by simp [hlt]⟩
    have hnext := fold_take (excStep xs) Mass.zero fs hg
    have hb0 := hbd k
    generalize (fs.take k).foldl (excStep xs) Mass.zero = acc at hnext hb0 hg2
    have hgB := hB g (List.mem_of_getElem? hg)
    have hkk : (k : Int) * 1000000000000 ≤ 1000000000000000 := by omega
    obtain ⟨b, off, o, cs, gg, rfl, hb, ho, hc, ht⟩ := FlAt.at (hf.keep hkp) hg
    obtain ⟨g0, g1, gm, m⟩ := g
    rw [FlowD.cs] at ht
    simp only [Mass.cs] at hg1 hg2 hgB ht
    apply zz
    refine Cd.ra (h := ?_)
    apply Run.by_eq
    · intro self
      conv => lhs; simp -implicitDefEqProofs (maxSteps := 300000) (disch := omega) [-getElem?_pos, -getElem?_neg, h11, h10]
    try (with_reducible refine Run.ret ?_)
    apply zz
    apply Cd.ite rfl
    · conv => lhs; simp -implicitDefEqProofs (maxSteps := 300000) (disch := omega) [-getElem?_pos, -getElem?_neg]
    all_goals intro c0
    all_goals try (cases c0; done)
    all_goals try simp only [Bool.not_eq_true', Bool.not_eq_false', decide_eq_true_eq, decide_eq_false_iff_not] at c0
    all_goals apply zz
    · apply zz
      refine Cd.ra (h := ?_)
      apply Run.by_eq
      · intro self
        conv => lhs; simp -implicitDefEqProofs (maxSteps := 300000) (disch := omega) [-getElem?_pos, -getElem?_neg, h11, h9, ho, hc, ht, hlt]
      try (with_reducible refine Run.ret ?_)
      apply zz
      refine Cd.ra (h := ?_)
      apply Run.by_eq
      · intro self
        conv => lhs; simp -implicitDefEqProofs (maxSteps := 300000) (disch := omega) [-getElem?_pos, -getElem?_neg]
      try (with_reducible refine Run.ret ?_)
      apply zz
      cases gm with
      | false =>
        apply zz
        apply Cd.ite rfl
        · conv => lhs; simp -implicitDefEqProofs (maxSteps := 300000) (disch := omega) [-getElem?_pos, -getElem?_neg]
        all_goals intro c1
        all_goals try (cases c1; done)
        all_goals try simp only [Bool.not_eq_true', Bool.not_eq_false', decide_eq_true_eq, decide_eq_false_iff_not] at c1
        all_goals apply zz
        apply zz
        refine Cd.ra (h := ?_)
        apply Run.by_eq
        · intro self
          conv => lhs; simp -implicitDefEqProofs (maxSteps := 300000) (disch := omega) [-getElem?_pos, -getElem?_neg, h11]
        try (with_reducible refine Run.ret ?_)
        apply zz
        refine LoopK.nm (fs.length - (k + 1)) (by omega) ⟨k + 1, by omega, rfl, by simp [hm], by simp, by simp [h10], by simp [h9], by simp [h1], by simp [h4], by simp [h5], ?_, by simp; omega, ?_, ?_⟩
        · exact ⟨by (try simp only [pushed_next', upded_next']); omega, fun i hi => by simp -implicitDefEqProofs (disch := omega) [hkpb]⟩
        · simp -implicitDefEqProofs (disch := omega) [hg1, Mass.cs]
        · rw [hnext]
          simp -implicitDefEqProofs (disch := omega) [hg2, Mass.cs, excStep]
      | true =>
        apply zz
        apply Cd.ite rfl
        · conv => lhs; simp -implicitDefEqProofs (maxSteps := 300000) (disch := omega) [-getElem?_pos, -getElem?_neg]
        all_goals intro c1
        all_goals try (cases c1; done)
        all_goals try simp only [Bool.not_eq_true', Bool.not_eq_false', decide_eq_true_eq, decide_eq_false_iff_not] at c1
        all_goals apply zz
        apply zz
        refine Cd.ra (h := ?_)
        apply Run.by_eq
        · intro self
          conv => lhs; simp -implicitDefEqProofs (maxSteps := 300000) (disch := omega) [-getElem?_pos, -getElem?_neg, h1]
        try (with_reducible refine Run.ret ?_)
        apply zz
        refine Run.call ((contains_ev g1 w xs _ (hx.keep ⟨by (try simp only [pushed_next', upded_next']); omega, fun i hi => by simp -implicitDefEqProofs (disch := omega) [hkpb]⟩) hlx).mono fun v wq hv => ?_)
        obtain ⟨rfl, q⟩ := hv
        have qa := q.1
        have qb := q.2
        try simp only [pushed_next', upded_next'] at qa qb
        apply Run.by_eq
        · intro self
          conv => lhs; simp -implicitDefEqProofs (maxSteps := 300000) (disch := omega) [-getElem?_pos, -getElem?_neg]
        try (with_reducible refine Run.ret ?_)
        apply zz
        by_cases m1 : g1 ∈ xs
        · apply zz
          apply Cd.ite rfl
          · conv => lhs; simp -implicitDefEqProofs (maxSteps := 300000) (disch := omega) [-getElem?_pos, -getElem?_neg, m1]
          all_goals intro c2
          all_goals try (cases c2; done)
          all_goals try simp only [Bool.not_eq_true', Bool.not_eq_false', decide_eq_true_eq, decide_eq_false_iff_not] at c2
          all_goals apply zz
          have hadd := (hb0.add (hgB rfl)).mono (show (k : Int) * 1000000000000 + 1000000000000 ≤ 4611686018427387904 by omega)
          apply zz
          refine Cd.ra (h := ?_)
          apply Run.by_eq
          · intro self
            conv => lhs; simp -implicitDefEqProofs (maxSteps := 300000) (disch := omega) [-getElem?_pos, -getElem?_neg, qb, h5, hg2]
          try (with_reducible refine Run.ret ?_)
          apply zz
          refine Run.call ((plus_ev acc m _ hadd).mono fun v wp hv => ?_)
          obtain ⟨rfl, p⟩ := hv
          have pa := p.1
          have pb := p.2
          try simp only [pushed_next', upded_next'] at pa pb
          apply Run.by_eq
          · intro self
            conv => lhs; simp -implicitDefEqProofs (maxSteps := 300000) (disch := omega) [-getElem?_pos, -getElem?_neg, qb, h5, hg2, pb, Mass.v]
          try (with_reducible refine Run.ret ?_)
          apply zz
          refine Cd.ra (h := ?_)
          apply Run.by_eq
          · intro self
            conv => lhs; simp -implicitDefEqProofs (maxSteps := 300000) (disch := omega) [-getElem?_pos, -getElem?_neg, h1, qb, pb]
          try (with_reducible refine Run.ret ?_)
          apply zz
          refine Run.call ((contains_ev g0 w xs _ (hx.keep ⟨by (try simp only [pushed_next', upded_next']); omega, fun i hi => by simp -implicitDefEqProofs (disch := omega) [hkpb, pb, qb]⟩) hlx).mono fun v wr hv => ?_)
          obtain ⟨rfl, r⟩ := hv
          have ra := r.1
          have rb := r.2
          try simp only [pushed_next', upded_next'] at ra rb
          apply Run.by_eq
          · intro self
            conv => lhs; simp -implicitDefEqProofs (maxSteps := 300000) (disch := omega) [-getElem?_pos, -getElem?_neg]
          try (with_reducible refine Run.ret ?_)
          apply zz
          by_cases m0 : g0 ∈ xs
          · apply zz
            apply Cd.ite rfl
            · conv => lhs; simp -implicitDefEqProofs (maxSteps := 300000) (disch := omega) [-getElem?_pos, -getElem?_neg, m0]
            all_goals intro c3
            all_goals try (cases c3; done)
            all_goals try simp only [Bool.not_eq_true', Bool.not_eq_false', decide_eq_true_eq, decide_eq_false_iff_not] at c3
            all_goals apply zz
            apply zz
            refine Cd.ra (h := ?_)
            apply Run.by_eq
            · intro self
              conv => lhs; simp -implicitDefEqProofs (maxSteps := 300000) (disch := omega) [-getElem?_pos, -getElem?_neg, qb, pb, rb, h5, hg2]
            try (with_reducible refine Run.ret ?_)
            apply zz
            refine Run.call ((minus_ev (acc.add m) m _ (by rw [Mass.add_sub]; exact hb0.mono (by omega))).mono fun v wt hv => ?_)
            obtain ⟨rfl, t⟩ := hv
            have ta := t.1
            have tb := t.2
            try simp only [pushed_next', upded_next'] at ta tb
            apply Run.by_eq
            · intro self
              conv => lhs; simp -implicitDefEqProofs (maxSteps := 300000) (disch := omega) [-getElem?_pos, -getElem?_neg, qb, pb, rb, tb, h5, hg2, Mass.v]
            try (with_reducible refine Run.ret ?_)
            apply zz
            refine Cd.ra (h := ?_)
            apply Run.by_eq
            · intro self
              conv => lhs; simp -implicitDefEqProofs (maxSteps := 300000) (disch := omega) [-getElem?_pos, -getElem?_neg, h11]
            try (with_reducible refine Run.ret ?_)
            apply zz
            refine LoopK.nm (fs.length - (k + 1)) (by omega) ⟨k + 1, by omega, rfl, by simp [hm], by simp, by simp [h10], by simp [h9], by simp [h1], by simp [h4], by simp [h5], ⟨by (try simp only [pushed_next', upded_next']); omega, fun i hi => by simp -implicitDefEqProofs (disch := omega) [hkpb, pb, qb, rb, tb]⟩, by (try simp only [pushed_next', upded_next']); omega, ?_, ?_⟩
            · simp -implicitDefEqProofs (disch := omega) [hg1, Mass.cs, qb, pb, rb, tb]
            · rw [hnext]
              simp -implicitDefEqProofs (disch := omega) [hg2, Mass.cs, excStep, m0, m1]
          · apply zz
            apply Cd.ite rfl
            · conv => lhs; simp -implicitDefEqProofs (maxSteps := 300000) (disch := omega) [-getElem?_pos, -getElem?_neg, m0]
            all_goals intro c3
            all_goals try (cases c3; done)
            all_goals try simp only [Bool.not_eq_true', Bool.not_eq_false', decide_eq_true_eq, decide_eq_false_iff_not] at c3
            all_goals apply zz
            apply zz
            refine Cd.ra (h := ?_)
            apply Run.by_eq
            · intro self
              conv => lhs; simp -implicitDefEqProofs (maxSteps := 300000) (disch := omega) [-getElem?_pos, -getElem?_neg, h11]
            try (with_reducible refine Run.ret ?_)
            apply zz
            refine LoopK.nm (fs.length - (k + 1)) (by omega) ⟨k + 1, by omega, rfl, by simp [hm], by simp, by simp [h10], by simp [h9], by simp [h1], by simp [h4], by simp [h5], ⟨by (try simp only [pushed_next', upded_next']); omega, fun i hi => by simp -implicitDefEqProofs (disch := omega) [hkpb, pb, qb, rb]⟩, by (try simp only [pushed_next', upded_next']); omega, ?_, ?_⟩
            · simp -implicitDefEqProofs (disch := omega) [hg1, Mass.cs, qb, pb, rb]
            · rw [hnext]
              simp -implicitDefEqProofs (disch := omega) [hg2, Mass.cs, excStep, m0, m1, qb, pb, rb]
        · apply zz
          apply Cd.ite rfl
          · conv => lhs; simp -implicitDefEqProofs (maxSteps := 300000) (disch := omega) [-getElem?_pos, -getElem?_neg, m1]
          all_goals intro c2
          all_goals try (cases c2; done)
          all_goals try simp only [Bool.not_eq_true', Bool.not_eq_false', decide_eq_true_eq, decide_eq_false_iff_not] at c2
          all_goals apply zz
          apply zz
          refine Cd.ra (h := ?_)
          apply Run.by_eq
          · intro self
            conv => lhs; simp -implicitDefEqProofs (maxSteps := 300000) (disch := omega) [-getElem?_pos, -getElem?_neg, h1, qb]
          try (with_reducible refine Run.ret ?_)
          apply zz
          refine Run.call ((contains_ev g0 w xs _ (hx.keep ⟨by (try simp only [pushed_next', upded_next']); omega, fun i hi => by simp -implicitDefEqProofs (disch := omega) [hkpb, qb]⟩) hlx).mono fun v wr hv => ?_)
          obtain ⟨rfl, r⟩ := hv
          have ra := r.1
          have rb := r.2
          try simp only [pushed_next', upded_next'] at ra rb
          apply Run.by_eq
          · intro self
            conv => lhs; simp -implicitDefEqProofs (maxSteps := 300000) (disch := omega) [-getElem?_pos, -getElem?_neg]
          try (with_reducible refine Run.ret ?_)
          apply zz
          by_cases m0 : g0 ∈ xs
          · apply zz
            apply Cd.ite rfl
            · conv => lhs; simp -implicitDefEqProofs (maxSteps := 300000) (disch := omega) [-getElem?_pos, -getElem?_neg, m0]
            all_goals intro c3
            all_goals try (cases c3; done)
            all_goals try simp only [Bool.not_eq_true', Bool.not_eq_false', decide_eq_true_eq, decide_eq_false_iff_not] at c3
            all_goals apply zz
            have hsub := (hb0.sub (hgB rfl)).mono (show (k : Int) * 1000000000000 + 1000000000000 ≤ 4611686018427387904 by omega)
            apply zz
            refine Cd.ra (h := ?_)
            apply Run.by_eq
            · intro self
              conv => lhs; simp -implicitDefEqProofs (maxSteps := 300000) (disch := omega) [-getElem?_pos, -getElem?_neg, qb, rb, h5, hg2]
            try (with_reducible refine Run.ret ?_)
            apply zz
            refine Run.call ((minus_ev acc m _ hsub).mono fun v wt hv => ?_)
            obtain ⟨rfl, t⟩ := hv
            have ta := t.1
            have tb := t.2
            try simp only [pushed_next', upded_next'] at ta tb
            apply Run.by_eq
            · intro self
              conv => lhs; simp -implicitDefEqProofs (maxSteps := 300000) (disch := omega) [-getElem?_pos, -getElem?_neg, qb, rb, tb, h5, hg2, Mass.v]
            try (with_reducible refine Run.ret ?_)
            apply zz
            refine Cd.ra (h := ?_)
            apply Run.by_eq
            · intro self
              conv => lhs; simp -implicitDefEqProofs (maxSteps := 300000) (disch := omega) [-getElem?_pos, -getElem?_neg, h11]
            try (with_reducible refine Run.ret ?_)
            apply zz
            refine LoopK.nm (fs.length - (k + 1)) (by omega) ⟨k + 1, by omega, rfl, by simp [hm], by simp, by simp [h10], by simp [h9], by simp [h1], by simp [h4], by simp [h5], ⟨by (try simp only [pushed_next', upded_next']); omega, fun i hi => by simp -implicitDefEqProofs (disch := omega) [hkpb, qb, rb, tb]⟩, by (try simp only [pushed_next', upded_next']); omega, ?_, ?_⟩
            · simp -implicitDefEqProofs (disch := omega) [hg1, Mass.cs, qb, rb, tb]
            · rw [hnext]
              simp -implicitDefEqProofs (disch := omega) [hg2, Mass.cs, excStep, m0, m1]
          · apply zz
            apply Cd.ite rfl
            · conv => lhs; simp -implicitDefEqProofs (maxSteps := 300000) (disch := omega) [-getElem?_pos, -getElem?_neg, m0]
            all_goals intro c3
            all_goals try (cases c3; done)
            all_goals try simp only [Bool.not_eq_true', Bool.not_eq_false', decide_eq_true_eq, decide_eq_false_iff_not] at c3
            all_goals apply zz
            apply zz
            refine Cd.ra (h := ?_)
            apply Run.by_eq
            · intro self
              conv => lhs; simp -implicitDefEqProofs (maxSteps := 300000) (disch := omega) [-getElem?_pos, -getElem?_neg, h11]
            try (with_reducible refine Run.ret ?_)
            apply zz
            refine LoopK.nm (fs.length - (k + 1)) (by omega) ⟨k + 1, by omega, rfl, by simp [hm], by simp, by simp [h10], by simp [h9], by simp [h1], by simp [h4], by simp [h5], ⟨by (try simp only [pushed_next', upded_next']); omega, fun i hi => by simp -implicitDefEqProofs (disch := omega) [hkpb, qb, rb]⟩, by (try simp only [pushed_next', upded_next']); omega, ?_, ?_⟩
            · simp -implicitDefEqProofs (disch := omega) [hg1, Mass.cs, qb, rb]
            · rw [hnext]
              simp -implicitDefEqProofs (disch := omega) [hg2, Mass.cs, excStep, m0, m1, qb, rb]
    · simp at c0; omega
  · obtain rfl : k = fs.length := by omega
    rw [List.take_length] at hg2
    simp only [Mass.cs] at hg1 hg2
    apply zz
    refine Cd.ra (h := ?_)
    apply Run.by_eq
    · intro self
      conv => lhs; simp -implicitDefEqProofs (maxSteps := 300000) (disch := omega) [-getElem?_pos, -getElem?_neg, h11, h10]
    try (with_reducible refine Run.ret ?_)
    apply zz
    apply Cd.ite rfl
    · conv => lhs; simp -implicitDefEqProofs (maxSteps := 300000) (disch := omega) [-getElem?_pos, -getElem?_neg]
    all_goals intro c0
    all_goals try (cases c0; done)
    all_goals try simp only [Bool.not_eq_true', Bool.not_eq_false', decide_eq_true_eq, decide_eq_false_iff_not] at c0
    all_goals apply zz
    apply zz
    refine Cd.ra (h := ?_)
    apply Run.by_eq
    · intro self
      conv => lhs; simp -implicitDefEqProofs (maxSteps := 300000) (disch := omega) [-getElem?_pos, -getElem?_neg, h4, h5, hg1, hg2]
    try (with_reducible refine Run.ret ?_)
    apply zz
    apply Leave.mk (by first | exact .inl rfl | exact .inr rfl) (by simp only [Fr.marks_put, fr0_marks, hm, h4])
    · conv => lhs; simp -implicitDefEqProofs (disch := omega) [Try.results41, hm, h4]
    refine ⟨rfl, ?_⟩
    exact ⟨by (try simp only [pushed_next', upded_next']); omega, fun i hi => by simp -implicitDefEqProofs (disch := omega) [hkpb]⟩
end Go.Proofs.Ytjehpgflhgpalaa
namespace Go.Proofs.Ytjehpgflhgpalaa
open Go Kern
/-- The first number that is not nought, of n from i on. -/
def firstNZ (g : Nat → Int) : Nat → Nat → Int
  | 0, _ => 0
  | n + 1, i => if g i = 0 then firstNZ g n (i + 1) else g i
def unitAt (u : Int) (xs : List Int) (k : Nat) : Int :=
  if !unitB u (xs.getD k 0) then 17 else if 0 < k ∧ xs.getD k 0 ≤ xs.getD (k - 1) 0 then 7 else 0
def unitsErr (u : Int) (fs : List FlowD) (xs : List Int) : Int :=
  if checkErr u fs ≠ 0 then checkErr u fs else if xs.length = 0 then 4 else firstNZ (unitAt u xs) xs.length 0
def excV (u : Int) (fs : List FlowD) (xs : List Int) : Mass := if unitsErr u fs xs = 0 then excM xs fs else Mass.zero
theorem eachB_le {m : Mass} {B : Int} (h : eachB m 0 B = true) : m.le B := by
  simp only [eachB, isB, Bool.and_eq_true, decide_eq_true_eq] at h
  unfold Mass.le; omega
theorem flowErr_ok {u : Int} {f : FlowD} (h : flowErr u f = 0) : endB u f.fr = true ∧ endB u f.to = true ∧ f.fr ≠ f.to ∧ (f.me = true → eachB f.m 0 1000000000 = true) := by
  unfold flowErr at h
  split at h
  · cases h
  · rename_i h1
    split at h
    · cases h
    · rename_i h2
      split at h
      · cases h
      · rename_i h3
        simp at h1 h3
        exact ⟨h1.1, h1.2, h2, h3⟩
theorem firstErr_all {u : Int} : ∀ {fs : List FlowD}, firstErr u fs = 0 → ∀ f ∈ fs, flowErr u f = 0
  | [], _, f, h => by cases h
  | g :: r, h, f, hf => by
    unfold firstErr at h
    split at h
    · rename_i h0
      cases hf with
      | head => exact h0
      | tail _ hf => exact firstErr_all h f hf
    · rename_i h0; exact absurd h h0
theorem checkErr_ok {u : Int} {fs : List FlowD} (h : checkErr u fs = 0) : 1 ≤ u ∧ u ≤ 8 ∧ fs.length ≤ 20 ∧ ∀ f ∈ fs, flowErr u f = 0 := by
  unfold checkErr at h
  split at h
  · cases h
  · split at h
    · cases h
    · exact ⟨by omega, by omega, by omega, firstErr_all h⟩
theorem checkErr_le {u : Int} {fs : List FlowD} (h : checkErr u fs = 0) : ∀ f ∈ fs, f.me = true → f.m.le 1000000000000 := fun f hf hm =>
  (eachB_le ((flowErr_ok ((checkErr_ok h).2.2.2 f hf)).2.2.2 hm)).mono (by omega)
end Go.Proofs.Ytjehpgflhgpalaa
namespace Go.Proofs.Ytjehpgflhgpalaa
open Go Kern
def Mass.tim (t : Int) (p : Mass) : Mass := ⟨t * p.a, t * p.b, t * p.c, t * p.d⟩
end Go.Proofs.Ytjehpgflhgpalaa
namespace Go.Proofs.Ytjehpgflhgpalaa
open Go Kern
abbrev BoolsAt (s : St) (v : Value) (bs : List Bool) : Prop := SlAt 1 s v (bs.map fun b => [.bool b])
theorem BoolsAt.at {s : St} {a : Option Addr} {m c : Nat} {bs : List Bool} (h : BoolsAt s (.slice a m c) bs) {k : Nat} {x : Bool} (hk : bs[k]? = some x) :
    ∃ b off o cs g, a = some ⟨b, off, none⟩ ∧ b < s.next ∧ s.heap.get b = some o ∧ cellsOf o = some (cs, g) ∧ cs[off + k]? = some (.bool x) := by
  obtain ⟨b, off, o, cs, g, h1, h2, h3, h4, h5⟩ := SlAt.at h (k := k) (e := [.bool x]) (by rw [List.getElem?_map, hk]; rfl)
  refine ⟨b, off, o, cs, g, h1, h2, h3, h4, ?_⟩
  have := takeL_one h5
  rw [List.getElem?_drop, Nat.mul_one] at this
  exact this
end Go.Proofs.Ytjehpgflhgpalaa
namespace Go.Proofs.Ytjehpgflhgpalaa
open Go Kern
def inL (n : Nat) (ys : List Int) : List Bool := (List.range n).map fun i : Nat => decide ((i : Int) - 1 ∈ ys)
end Go.Proofs.Ytjehpgflhgpalaa
namespace Go.Proofs.Ytjehpgflhgpalaa
open Go Kern
theorem ends_in {u : Int} {fs : List FlowD} (h : checkErr u fs = 0) : ∀ f ∈ fs, (-1 ≤ f.fr ∧ f.fr < u) ∧ (-1 ≤ f.to ∧ f.to < u) := fun f hf => by
  obtain ⟨h1, _, _, h2⟩ := checkErr_ok h
  obtain ⟨a, b, _, _⟩ := flowErr_ok (h2 f hf)
  simp only [endB, unitB, Bool.or_eq_true, Bool.and_eq_true, decide_eq_true_eq] at a b
  omega
def okC (c i : Nat) : Bool := decide (97 ≤ c ∧ c ≤ 122) || (decide (48 ≤ c ∧ c ≤ 57) && !decide (i = 0))
def nameL (l : List UInt8) : Bool := decide (1 ≤ l.length) && (decide (l.length ≤ 10) && (List.range l.length).all fun i => okC (l.getD i 0).toNat i)
end Go.Proofs.Ytjehpgflhgpalaa
namespace Go.Proofs.Ytjehpgflhgpalaa
open Go Kern
/-- What a map of links says: who stands above whom leads to one of which there is none above. -/
def Forest (es : List (Int × Int)) (rt : Int → Int) : Prop :=
  (∀ x, lookI es x = none → rt x = x) ∧ (∀ x y, lookI es x = some y → rt x = rt y) ∧ (∀ x, lookI es (rt x) = none) ∧ ∃ d : Int → Nat, ∀ x y, lookI es x = some y → d y < d x
def uni (rt : Int → Int) (a b : Int) : Int → Int := if rt a = rt b then rt else fun x => if rt x = rt a then rt b else rt x
theorem Forest.empty : Forest [] id := ⟨fun _ _ => rfl, fun x y h => by simp [lookI] at h, fun _ => rfl, fun _ => 0, fun x y h => by simp [lookI] at h⟩
theorem lookI_append (es : List (Int × Int)) (a b x : Int) : lookI (es ++ [(a, b)]) x = match lookI es x with | some y => some y | none => if a = x then some b else none := by
  unfold lookI
  rw [List.find?_append]
  cases h : es.find? (fun p => p.1 == x) with
  | some p => simp
  | none =>
    by_cases e : a = x
    · simp [e]
    · simp [e]
theorem Forest.join {es : List (Int × Int)} {rt : Int → Int} (h : Forest es rt) {a b : Int} (hne : rt a ≠ rt b) : Forest (es ++ [(rt a, rt b)]) (uni rt a b) := by
  obtain ⟨h1, h2, h3, d, h4⟩ := h
  have hrr : ∀ x, rt (rt x) = rt x := fun x => h1 _ (h3 x)
  unfold uni
  rw [if_neg hne]
  refine ⟨fun x hx => ?_, fun x y hx => ?_, fun x => ?_, fun x => if rt x = rt a then d x + d (rt b) + 1 else d x, fun x y hx => ?_⟩
  · rw [lookI_append] at hx
    cases hl : lookI es x with
    | some y => rw [hl] at hx; cases hx
    | none =>
      rw [hl] at hx
      by_cases e : rt a = x
      · simp [e] at hx
      · simp only []
        rw [h1 x hl, if_neg (fun q => e q.symm)]
  · rw [lookI_append] at hx
    cases hl : lookI es x with
    | some z =>
      rw [hl] at hx; cases hx
      simp only [h2 x y hl]
    | none =>
      rw [hl] at hx
      by_cases e : rt a = x
      · simp [e] at hx
        subst e
        subst hx
        simp [hrr, hne.symm]
      · simp [e] at hx
  · rw [lookI_append]
    by_cases e : rt x = rt a
    · simp [e, h3 b, hne]
    · have e' : ¬ rt a = rt x := fun q => e q.symm
      simp [e, h3 x, e']
  · rw [lookI_append] at hx
    cases hl : lookI es x with
    | some z =>
      rw [hl] at hx; cases hx
      have := h4 x y hl
      simp only [h2 x y hl]
      split <;> omega
    | none =>
      rw [hl] at hx
      by_cases e : rt a = x
      · simp [e] at hx
        subst e
        subst hx
        simp [hrr, hne.symm]
        omega
      · simp [e] at hx
theorem mapL2_append : ∀ (es : List (Int × Int)) (a b : Int) (c : Nat), mapL2 (es ++ [(a, b)]) c = mapL2 es c ++ [(.int .i64 a, .int .i64 b, c + es.length)]
  | [], a, b, c => rfl
  | (x, y) :: r, a, b, c => by
    show (_ :: mapL2 (r ++ [(a, b)]) (c + 1)) = _
    rw [mapL2_append r a b (c + 1)]
    simp [mapL2, Nat.add_assoc, Nat.add_comm 1]
def HeadsAt (s : St) (r : Nat) (es : List (Int × Int)) : Prop := r < s.next ∧ s.heap.get r = some (.map (mapL2 es 0) es.length)
theorem HeadsAt.keep {s s' : St} {r : Nat} {es : List (Int × Int)} (hk : Keep s s') (h : HeadsAt s r es) : HeadsAt s' r es := ⟨Nat.lt_of_lt_of_le h.1 hk.1, (hk.2 _ h.1).trans h.2⟩
set_option maxRecDepth 100000 in
set_option maxHeartbeats 1000000 in
theorem head_ev (r : Nat) (es : List (Int × Int)) (rt : Int → Int) (x : Int) (s : St) (hm : HeadsAt s r es) (hF : Forest es rt) :
    Ev TT 67 [.agg #[.map (some r)], .int .i64 x] s fun v s' => v = .int .i64 (rt x) ∧ Keep s s' := by
  obtain ⟨hr, hg⟩ := hm
  obtain ⟨h1, h2, h3, d, h4⟩ := hF
  refine Ev.intro (fn := Try.f67) rfl (by kernel_rfl) rfl rfl ?_
  apply zz
  refine Cd.ra (h := ?_)
  apply Run.by_eq
  · intro self
    conv => lhs; simp -implicitDefEqProofs (maxSteps := 300000) (disch := omega) [-getElem?_pos, -getElem?_neg]
  try (with_reducible refine Run.ret ?_)
  apply zz
  refine Cd.inv (fun z f s' => ∃ y : Int, z = d y ∧ rt y = rt x ∧ f.marks = [] ∧ f.get 1 = .int .i64 y ∧ f.get 2 = .pointer (some ⟨s.next, 0, none⟩) ∧ s' = s.pushed (.cells [.map (some r)] none)) (d x) ?_ ?_
  · exact ⟨x, rfl, rfl, by simp, by simp, by simp, by simp⟩
  rintro z f s' ⟨y, rfl, hry, hmk, f1, f2, rfl⟩
  obtain ⟨q, hq, hq2, hq3⟩ := findK_ints y es 0 0
  cases hl : lookI es y with
  | none =>
    obtain rfl : q = none := hq3.2 hl
    apply zz
    refine Cd.ra (h := ?_)
    apply Run.by_eq
    · intro self
      conv => lhs; simp -implicitDefEqProofs (maxSteps := 300000) (disch := omega) [-getElem?_pos, -getElem?_neg, f1, f2, hg, hq]
    try (with_reducible refine Run.ret ?_)
    apply zz
    refine Cd.ra (h := ?_)
    apply Run.by_eq
    · intro self
      conv => lhs; simp -implicitDefEqProofs (maxSteps := 300000) (disch := omega) [-getElem?_pos, -getElem?_neg]
    try (with_reducible refine Run.ret ?_)
    apply zz
    apply Cd.ite rfl
    · conv => lhs; simp -implicitDefEqProofs (maxSteps := 300000) (disch := omega) [-getElem?_pos, -getElem?_neg]
    all_goals intro c0
    all_goals try (cases c0; done)
    all_goals try simp only [Bool.not_eq_true', Bool.not_eq_false', decide_eq_true_eq, decide_eq_false_iff_not] at c0
    all_goals apply zz
    apply zz
    refine Cd.ra (h := ?_)
    apply Run.by_eq
    · intro self
      conv => lhs; simp -implicitDefEqProofs (maxSteps := 300000) (disch := omega) [-getElem?_pos, -getElem?_neg, f1]
    try (with_reducible refine Run.ret ?_)
    apply zz
    apply Leave.mk (by first | exact .inl rfl | exact .inr rfl) (by simp only [Fr.marks_put, fr0_marks, hmk])
    · conv => lhs; simp -implicitDefEqProofs (disch := omega) [Try.results67, hmk]
    exact ⟨by rw [← hry, h1 y hl]; rfl, (Keep.refl _).pushed _⟩
  | some w =>
    rw [hl] at hq2
    obtain ⟨⟨i, v⟩, rfl⟩ : ∃ p, q = some p := by cases q with | none => simp at hq2 | some p => exact ⟨p, rfl⟩
    obtain rfl : v = .int .i64 w := by simpa using hq2
    apply zz
    refine Cd.ra (h := ?_)
    apply Run.by_eq
    · intro self
      conv => lhs; simp -implicitDefEqProofs (maxSteps := 300000) (disch := omega) [-getElem?_pos, -getElem?_neg, f1, f2, hg, hq]
    try (with_reducible refine Run.ret ?_)
    apply zz
    refine Cd.ra (h := ?_)
    apply Run.by_eq
    · intro self
      conv => lhs; simp -implicitDefEqProofs (maxSteps := 300000) (disch := omega) [-getElem?_pos, -getElem?_neg]
    try (with_reducible refine Run.ret ?_)
    apply zz
    apply Cd.ite rfl
    · conv => lhs; simp -implicitDefEqProofs (maxSteps := 300000) (disch := omega) [-getElem?_pos, -getElem?_neg]
    all_goals intro c0
    all_goals try (cases c0; done)
    all_goals try simp only [Bool.not_eq_true', Bool.not_eq_false', decide_eq_true_eq, decide_eq_false_iff_not] at c0
    all_goals apply zz
    apply zz
    refine Cd.ra (h := ?_)
    apply Run.by_eq
    · intro self
      conv => lhs; simp -implicitDefEqProofs (maxSteps := 300000) (disch := omega) [-getElem?_pos, -getElem?_neg]
    try (with_reducible refine Run.ret ?_)
    apply zz
    exact LoopK.nm (d w) (h4 y w hl) ⟨w, rfl, by rw [← h2 y w hl]; exact hry, by simp [hmk], by simp, by simp [f2], rfl⟩
set_option maxRecDepth 100000 in
set_option maxHeartbeats 1000000 in
theorem joined_ev (r : Nat) (es : List (Int × Int)) (rt : Int → Int) (x y : Int) (s : St) (hm : HeadsAt s r es) (hF : Forest es rt) :
    Ev TT 50 [.agg #[.map (some r)], .int .i64 x, .int .i64 y] s fun v s' => v = .bool (decide (rt x = rt y)) ∧ Keep s s' := by
  have hr := hm.1
  refine Ev.intro (fn := Try.f50) rfl (by kernel_rfl) rfl rfl ?_
  apply zz
  refine Cd.ra (h := ?_)
  apply Run.by_eq
  · intro self
    conv => lhs; simp -implicitDefEqProofs (maxSteps := 300000) (disch := omega) [-getElem?_pos, -getElem?_neg]
  try (with_reducible refine Run.ret ?_)
  apply zz
  refine Cd.drawnH (pl := [(0, 0, false, false), (1, 0, false, false), (3, 0, false, false), (4, 0, false, false), (2, 3, true, false), (5, 31, true, false), (6, 63, false, false), (7, 127, false, false)]) [false, false, true, true, false, false, false, false] (by kernel_rfl) (by decide) (by decide) (by conv => lhs; simp only [List.map_cons, List.map_nil]) (by conv => lhs; simp [strip, orderedG, flagH]) ?_
  apply Run.by_eq
  · intro self
    conv => lhs; simp -implicitDefEqProofs (maxSteps := 300000) (disch := omega) [-getElem?_pos, -getElem?_neg]
  try (with_reducible refine Run.ret ?_)
  apply zz
  refine Run.call ((head_ev r es rt x _ (hm.keep ⟨by (try simp only [pushed_next', upded_next']); omega, fun i hi => by simp -implicitDefEqProofs (disch := omega) []⟩) hF).mono fun v wq hv => ?_)
  obtain ⟨rfl, q⟩ := hv
  have qa := q.1
  have qb := q.2
  try simp only [pushed_next', upded_next'] at qa qb
  apply Run.by_eq
  · intro self
    conv => lhs; simp -implicitDefEqProofs (maxSteps := 300000) (disch := omega) [-getElem?_pos, -getElem?_neg, qb]
  try (with_reducible refine Run.ret ?_)
  apply zz
  refine Run.call ((head_ev r es rt y _ (hm.keep ⟨by (try simp only [pushed_next', upded_next']); omega, fun i hi => by simp -implicitDefEqProofs (disch := omega) [qb]⟩) hF).mono fun v wt hv => ?_)
  obtain ⟨rfl, t⟩ := hv
  have ta := t.1
  have tb := t.2
  try simp only [pushed_next', upded_next'] at ta tb
  apply Run.by_eq
  · intro self
    conv => lhs; simp -implicitDefEqProofs (maxSteps := 300000) (disch := omega) [-getElem?_pos, -getElem?_neg, qb, tb]
  try (with_reducible refine Run.ret ?_)
  apply zz
  apply Leave.mk (by first | exact .inl rfl | exact .inr rfl) (by simp only [Fr.marks_put, fr0_marks])
  · conv => lhs; simp -implicitDefEqProofs (disch := omega) [Try.results50]
  exact ⟨rfl, ⟨by (try simp only [pushed_next', upded_next']); omega, fun i hi => by simp -implicitDefEqProofs (disch := omega) [qb, tb]⟩⟩
set_option maxRecDepth 100000 in
set_option maxHeartbeats 1000000 in
theorem join_ev (r : Nat) (es : List (Int × Int)) (rt : Int → Int) (x y : Int) (s : St) (hm : HeadsAt s r es) (hF : Forest es rt) :
    Ev TT 66 [.agg #[.map (some r)], .int .i64 x, .int .i64 y] s fun v s' => v = .bool (!decide (rt x = rt y)) ∧ s.next ≤ s'.next ∧ (∀ i, i < s.next → i ≠ r → s'.heap.get i = s.heap.get i) ∧ ∃ es', HeadsAt s' r es' ∧ Forest es' (uni rt x y) := by
  have hr := hm.1
  have hg := hm.2
  refine Ev.intro (fn := Try.f66) rfl (by kernel_rfl) rfl rfl ?_
  apply zz
  refine Cd.ra (h := ?_)
  apply Run.by_eq
  · intro self
    conv => lhs; simp -implicitDefEqProofs (maxSteps := 300000) (disch := omega) [-getElem?_pos, -getElem?_neg]
  try (with_reducible refine Run.ret ?_)
  apply zz
  refine Cd.drawnH (pl := [(0, 0, false, false), (1, 0, false, false), (3, 0, false, false), (4, 0, false, false), (2, 3, true, false), (5, 31, true, false), (6, 63, false, false), (7, 127, false, false)]) [false, false, true, true, false, false, false, false] (by kernel_rfl) (by decide) (by decide) (by conv => lhs; simp only [List.map_cons, List.map_nil]) (by conv => lhs; simp [strip, orderedG, flagH]) ?_
  apply Run.by_eq
  · intro self
    conv => lhs; simp -implicitDefEqProofs (maxSteps := 300000) (disch := omega) [-getElem?_pos, -getElem?_neg]
  try (with_reducible refine Run.ret ?_)
  apply zz
  refine Run.call ((head_ev r es rt x _ (hm.keep ⟨by (try simp only [pushed_next', upded_next']); omega, fun i hi => by simp -implicitDefEqProofs (disch := omega) []⟩) hF).mono fun v wq hv => ?_)
  obtain ⟨rfl, q⟩ := hv
  have qa := q.1
  have qb := q.2
  try simp only [pushed_next', upded_next'] at qa qb
  apply Run.by_eq
  · intro self
    conv => lhs; simp -implicitDefEqProofs (maxSteps := 300000) (disch := omega) [-getElem?_pos, -getElem?_neg, qb]
  try (with_reducible refine Run.ret ?_)
  apply zz
  refine Run.call ((head_ev r es rt y _ (hm.keep ⟨by (try simp only [pushed_next', upded_next']); omega, fun i hi => by simp -implicitDefEqProofs (disch := omega) [qb]⟩) hF).mono fun v wt hv => ?_)
  obtain ⟨rfl, t⟩ := hv
  have ta := t.1
  have tb := t.2
  try simp only [pushed_next', upded_next'] at ta tb
  apply Run.by_eq
  · intro self
    conv => lhs; simp -implicitDefEqProofs (maxSteps := 300000) (disch := omega) [-getElem?_pos, -getElem?_neg, qb, tb]
  try (with_reducible refine Run.ret ?_)
  apply zz
  refine Cd.ra (h := ?_)
  apply Run.by_eq
  · intro self
    conv => lhs; simp -implicitDefEqProofs (maxSteps := 300000) (disch := omega) [-getElem?_pos, -getElem?_neg]
  try (with_reducible refine Run.ret ?_)
  apply zz
  apply Cd.ite rfl
  · conv => lhs; simp -implicitDefEqProofs (maxSteps := 300000) (disch := omega) [-getElem?_pos, -getElem?_neg]
  all_goals intro c0
  all_goals try (cases c0; done)
  all_goals try simp only [Bool.not_eq_true', Bool.not_eq_false', decide_eq_true_eq, decide_eq_false_iff_not] at c0
  all_goals apply zz
  · apply zz
    refine Cd.ra (h := ?_)
    apply Run.by_eq
    · intro self
      conv => lhs; simp -implicitDefEqProofs (maxSteps := 300000) (disch := omega) [-getElem?_pos, -getElem?_neg]
    try (with_reducible refine Run.ret ?_)
    apply zz
    apply Leave.mk (by first | exact .inl rfl | exact .inr rfl) (by simp only [Fr.marks_put, fr0_marks])
    · conv => lhs; simp -implicitDefEqProofs (disch := omega) [Try.results66]
    refine ⟨by simp [tupled, c0], by omega, fun i hi _ => ?_, es, ⟨by omega, ?_⟩, ?_⟩
    · simp -implicitDefEqProofs (disch := omega) [qb, tb]
    · simp -implicitDefEqProofs (disch := omega) [qb, tb, hg]
    · unfold uni; rw [if_pos c0]; exact hF
  · obtain ⟨f, hf, hf2, hf3⟩ := findK_ints (rt x) es 0 0
    obtain rfl : f = none := hf3.2 (hF.2.2.1 x)
    apply zz
    refine Cd.ra (h := ?_)
    apply Run.by_eq
    · intro self
      conv => lhs; simp -implicitDefEqProofs (maxSteps := 300000) (disch := omega) [-getElem?_pos, -getElem?_neg, qb, tb, hg, hf]
    try (with_reducible refine Run.ret ?_)
    apply zz
    refine Cd.ra (h := ?_)
    apply Run.by_eq
    · intro self
      conv => lhs; simp -implicitDefEqProofs (maxSteps := 300000) (disch := omega) [-getElem?_pos, -getElem?_neg]
    try (with_reducible refine Run.ret ?_)
    apply zz
    apply Leave.mk (by first | exact .inl rfl | exact .inr rfl) (by simp only [Fr.marks_put, fr0_marks])
    · conv => lhs; simp -implicitDefEqProofs (disch := omega) [Try.results66]
    refine ⟨by simp [tupled, c0], by (try simp only [upded_next']); omega, fun i hi hir => ?_, es ++ [(rt x, rt y)], ⟨by (try simp only [upded_next']); omega, ?_⟩, hF.join c0⟩
    · simp -implicitDefEqProofs (disch := omega) [qb, tb]
    · simp -implicitDefEqProofs (disch := omega) [mapL2_append]
/-- The root after all flows that are not measured, but one, from number i on. -/
def rtF (lo : Int) : List FlowD → Nat → (Int → Int) → (Int → Int)
  | [], _, rt => rt
  | f :: r, i, rt => rtF lo r (i + 1) (if f.me = false ∧ (i : Int) ≠ lo then uni rt f.fr f.to else rt)
def rtStep (lo : Int) (rt : Int → Int) (i : Nat) (f : FlowD) : Int → Int := if f.me = false ∧ (i : Int) ≠ lo then uni rt f.fr f.to else rt
theorem rtF_take (lo : Int) : ∀ (fs : List FlowD) (i : Nat) (rt : Int → Int) (k : Nat) (f : FlowD), fs[k]? = some f → rtF lo (fs.take (k + 1)) i rt = rtStep lo (rtF lo (fs.take k) i rt) (i + k) f
  | [], _, _, _, _, h => by simp at h
  | g :: r, i, rt, 0, f, h => by simp at h; subst h; simp [rtF, rtStep]
  | g :: r, i, rt, k + 1, f, h => by
    show rtF lo (r.take (k + 1)) (i + 1) _ = rtStep lo (rtF lo (r.take k) (i + 1) _) (i + (k + 1)) f
    rw [rtF_take lo r (i + 1) _ k f (by simpa using h)]
    rw [show i + 1 + k = i + (k + 1) by omega]
set_option maxRecDepth 100000 in
set_option maxHeartbeats 2000000 in
theorem joins_ev (u lo : Int) (v : Value) (fs : List FlowD) (s : St) (hf : FlAt s v fs) (hl : fs.length ≤ 1000000) :
    Ev TT 49 [plantV u v, .int .i64 lo] s fun r s' => Keep s s' ∧ ∃ b es, r = .agg #[.map (some b)] ∧ s.next ≤ b ∧ HeadsAt s' b es ∧ Forest es (rtF lo fs 0 id) := by
  obtain ⟨a, c, rfl⟩ := hf.shape
  rw [List.length_map] at hf ⊢
  unfold plantV
  refine Ev.intro (fn := Try.f49) rfl (by kernel_rfl) rfl rfl ?_
  apply zz
  refine Cd.ra (h := ?_)
  apply Run.by_eq
  · intro self
    conv => lhs; simp -implicitDefEqProofs (maxSteps := 300000) (disch := omega) [-getElem?_pos, -getElem?_neg]
  try (with_reducible refine Run.ret ?_)
  apply zz
  refine Cd.ra (h := ?_)
  apply Run.by_eq
  · intro self
    conv => lhs; simp -implicitDefEqProofs (maxSteps := 300000) (disch := omega) [-getElem?_pos, -getElem?_neg]
  try (with_reducible refine Run.ret ?_)
  apply zz
  refine Cd.ra (h := ?_)
  apply Run.by_eq
  · intro self
    conv => lhs; simp -implicitDefEqProofs (maxSteps := 300000) (disch := omega) [-getElem?_pos, -getElem?_neg]
  try (with_reducible refine Run.ret ?_)
  apply zz
  refine Cd.inv (fun z f s' => ∃ k : Nat, k ≤ fs.length ∧ z = fs.length - k ∧ f.marks = [] ∧ f.get 13 = .int .i64 k ∧ f.get 12 = .int .i64 fs.length ∧ f.get 11 = .slice a fs.length c ∧ f.get 1 = .int .i64 lo ∧ f.get 4 = .pointer (some ⟨s.next + 1, 0, none⟩) ∧ f.get 5 = .pointer (some ⟨s.next + 1 + 1 + 1, 0, none⟩) ∧ Keep s s' ∧ s.next + 1 + 1 + 1 < s'.next ∧ s'.heap.get (s.next + 1) = some (.cells [.map none] none) ∧ s'.heap.get (s.next + 1 + 1 + 1) = some (.cells [.map (some (s.next + 1 + 1))] none) ∧ ∃ es, s'.heap.get (s.next + 1 + 1) = some (.map (mapL2 es 0) es.length) ∧ Forest es (rtF lo (fs.take k) 0 id)) fs.length ?_ ?_
  · refine ⟨0, by omega, rfl, by simp, by simp, by simp, by simp, by simp, by simp, by simp, ⟨by (try simp only [pushed_next', upded_next']); omega, fun i hi => by simp -implicitDefEqProofs (disch := omega) []⟩, by simp, by simp -implicitDefEqProofs (disch := omega), by simp -implicitDefEqProofs (disch := omega), [], by simp -implicitDefEqProofs (disch := omega) [mapL2], Forest.empty⟩
  rintro z f s' ⟨k, hk, rfl, hm, h13, h12, h11, h1, h4, h5, hkp, hnx, hg1, hg3, es, hg2, hF⟩
  have hkpa := hkp.1
  have hkpb := hkp.2
  by_cases hlt : k < fs.length
  · obtain ⟨g, hg⟩ : ∃ g, fs[k]? = some g := ⟨fs[k], by simp [hlt]⟩
    have hstep := rtF_take lo fs 0 id k g hg
    rw [Nat.zero_add] at hstep
    obtain ⟨b, off, o, cs, gg, rfl, hb, ho, hc, ht⟩ := FlAt.at (hf.keep hkp) hg
    obtain ⟨g0, g1, gm, m⟩ := g
    rw [FlowD.cs] at ht
    simp only [] at ht
    apply zz
    refine Cd.ra (h := ?_)
    apply Run.by_eq
    · intro self
      conv => lhs; simp -implicitDefEqProofs (maxSteps := 300000) (disch := omega) [-getElem?_pos, -getElem?_neg, h13, h12]
    try (with_reducible refine Run.ret ?_)
    apply zz
    apply Cd.ite rfl
    · conv => lhs; simp -implicitDefEqProofs (maxSteps := 300000) (disch := omega) [-getElem?_pos, -getElem?_neg]
    all_goals intro c0
    all_goals try (cases c0; done)
    all_goals try simp only [Bool.not_eq_true', Bool.not_eq_false', decide_eq_true_eq, decide_eq_false_iff_not] at c0
    all_goals apply zz
    · apply zz
      refine Cd.ra (h := ?_)
      apply Run.by_eq
      · intro self
        conv => lhs; simp -implicitDefEqProofs (maxSteps := 300000) (disch := omega) [-getElem?_pos, -getElem?_neg, h13, h11, ho, hc, ht, hlt]
      try (with_reducible refine Run.ret ?_)
      apply zz
      by_cases hcase : gm = false ∧ (k : Int) ≠ lo
      · obtain ⟨rfl, hne⟩ := hcase
        apply zz
        refine Cd.ra (h := ?_)
        apply Run.by_eq
        · intro self
          conv => lhs; simp -implicitDefEqProofs (maxSteps := 300000) (disch := omega) [-getElem?_pos, -getElem?_neg, h1, hne]
        try (with_reducible refine Run.ret ?_)
        apply zz
        apply Cd.ite rfl
        · conv => lhs; simp -implicitDefEqProofs (maxSteps := 300000) (disch := omega) [-getElem?_pos, -getElem?_neg]
        all_goals intro c1
        all_goals try (cases c1; done)
        all_goals try simp only [Bool.not_eq_true', Bool.not_eq_false', decide_eq_true_eq, decide_eq_false_iff_not] at c1
        all_goals apply zz
        apply zz
        refine Cd.ra (h := ?_)
        apply Run.by_eq
        · intro self
          conv => lhs; simp -implicitDefEqProofs (maxSteps := 300000) (disch := omega) [-getElem?_pos, -getElem?_neg, h5, hg3]
        try (with_reducible refine Run.ret ?_)
        apply zz
        have hHA : HeadsAt ((s'.pushed (.cells [.int .i64 0, .int .i64 0, .bool false, .int .i64 0, .int .i64 0, .int .i64 0, .int .i64 0] none)).upded s'.next (.cells [.int .i64 g0, .int .i64 g1, .bool false, .int .i64 m.a, .int .i64 m.b, .int .i64 m.c, .int .i64 m.d] none)) (s.next + 1 + 1) es := ⟨by (try simp only [pushed_next', upded_next']); omega, by simp -implicitDefEqProofs (disch := omega) [hg2]⟩
        refine Run.call ((join_ev (s.next + 1 + 1) es _ g0 g1 _ hHA hF).mono fun v w1 hv => ?_)
        obtain ⟨rfl, qa, qb, es', hH', hF'⟩ := hv
        simp only [pushed_next', upded_next'] at qa qb
        apply Run.by_eq
        · intro self
          conv => lhs; simp -implicitDefEqProofs (maxSteps := 300000) (disch := omega) [-getElem?_pos, -getElem?_neg]
        try (with_reducible refine Run.ret ?_)
        apply zz
        refine Cd.ra (h := ?_)
        apply Run.by_eq
        · intro self
          conv => lhs; simp -implicitDefEqProofs (maxSteps := 300000) (disch := omega) [-getElem?_pos, -getElem?_neg, h13]
        try (with_reducible refine Run.ret ?_)
        apply zz
        refine LoopK.nm (fs.length - (k + 1)) (by omega) ⟨k + 1, by omega, rfl, by simp [hm], by simp, by simp [h12], by simp [h11], by simp [h1], by simp [h4], by simp [h5], ⟨by omega, fun i hi => by rw [qb i (by omega) (by omega)]; simp -implicitDefEqProofs (disch := omega) [hkpb]⟩, by omega, ?_, ?_, es', hH'.2, ?_⟩
        · rw [qb _ (by omega) (by omega)]; simp -implicitDefEqProofs (disch := omega) [hg1]
        · rw [qb _ (by omega) (by omega)]; simp -implicitDefEqProofs (disch := omega) [hg3]
        · rw [hstep]; unfold rtStep; rw [if_pos ⟨rfl, hne⟩]; exact hF'
      · have hstay : rtF lo (fs.take (k + 1)) 0 id = rtF lo (fs.take k) 0 id := by rw [hstep]; unfold rtStep; rw [if_neg hcase]
        have hfin : LoopK (fun z f s' => ∃ k : Nat, k ≤ fs.length ∧ z = fs.length - k ∧ f.marks = [] ∧ f.get 13 = .int .i64 k ∧ f.get 12 = .int .i64 fs.length ∧ True) 0 (fun _ _ _ => True) .ret f s' := trivial
        clear hfin
        cases gm with
        | true =>
          apply zz
          refine Cd.ra (h := ?_)
          apply Run.by_eq
          · intro self
            conv => lhs; simp -implicitDefEqProofs (maxSteps := 300000) (disch := omega) [-getElem?_pos, -getElem?_neg, h1]
          try (with_reducible refine Run.ret ?_)
          apply zz
          apply Cd.ite rfl
          · conv => lhs; simp -implicitDefEqProofs (maxSteps := 300000) (disch := omega) [-getElem?_pos, -getElem?_neg]
          all_goals intro c1
          all_goals try (cases c1; done)
          all_goals try simp only [Bool.not_eq_true', Bool.not_eq_false', decide_eq_true_eq, decide_eq_false_iff_not] at c1
          all_goals apply zz
          apply zz
          refine Cd.ra (h := ?_)
          apply Run.by_eq
          · intro self
            conv => lhs; simp -implicitDefEqProofs (maxSteps := 300000) (disch := omega) [-getElem?_pos, -getElem?_neg, h13]
          try (with_reducible refine Run.ret ?_)
          apply zz
          refine LoopK.nm (fs.length - (k + 1)) (by omega) ⟨k + 1, by omega, rfl, by simp [hm], by simp, by simp [h12], by simp [h11], by simp [h1], by simp [h4], by simp [h5], ⟨by (try simp only [pushed_next', upded_next']); omega, fun i hi => by simp -implicitDefEqProofs (disch := omega) [hkpb]⟩, by (try simp only [pushed_next', upded_next']); omega, ?_, ?_, es, ?_, ?_⟩
          · simp -implicitDefEqProofs (disch := omega) [hg1]
          · simp -implicitDefEqProofs (disch := omega) [hg3]
          · simp -implicitDefEqProofs (disch := omega) [hg2]
          · rw [hstay]; exact hF
        | false =>
          have heq : (k : Int) = lo := Classical.byContradiction fun h => hcase ⟨rfl, h⟩
          apply zz
          refine Cd.ra (h := ?_)
          apply Run.by_eq
          · intro self
            conv => lhs; simp -implicitDefEqProofs (maxSteps := 300000) (disch := omega) [-getElem?_pos, -getElem?_neg, h1, heq]
          try (with_reducible refine Run.ret ?_)
          apply zz
          apply Cd.ite rfl
          · conv => lhs; simp -implicitDefEqProofs (maxSteps := 300000) (disch := omega) [-getElem?_pos, -getElem?_neg]
          all_goals intro c1
          all_goals try (cases c1; done)
          all_goals try simp only [Bool.not_eq_true', Bool.not_eq_false', decide_eq_true_eq, decide_eq_false_iff_not] at c1
          all_goals apply zz
          apply zz
          refine Cd.ra (h := ?_)
          apply Run.by_eq
          · intro self
            conv => lhs; simp -implicitDefEqProofs (maxSteps := 300000) (disch := omega) [-getElem?_pos, -getElem?_neg, h13]
          try (with_reducible refine Run.ret ?_)
          apply zz
          refine LoopK.nm (fs.length - (k + 1)) (by omega) ⟨k + 1, by omega, rfl, by simp [hm], by simp, by simp [h12], by simp [h11], by simp [h1], by simp [h4], by simp [h5], ⟨by (try simp only [pushed_next', upded_next']); omega, fun i hi => by simp -implicitDefEqProofs (disch := omega) [hkpb]⟩, by (try simp only [pushed_next', upded_next']); omega, ?_, ?_, es, ?_, ?_⟩
          · simp -implicitDefEqProofs (disch := omega) [hg1]
          · simp -implicitDefEqProofs (disch := omega) [hg3]
          · simp -implicitDefEqProofs (disch := omega) [hg2]
          · rw [hstay]; exact hF
    · simp at c0; omega
  · obtain rfl : k = fs.length := by omega
    rw [List.take_length] at hF
    apply zz
    refine Cd.ra (h := ?_)
    apply Run.by_eq
    · intro self
      conv => lhs; simp -implicitDefEqProofs (maxSteps := 300000) (disch := omega) [-getElem?_pos, -getElem?_neg, h13, h12]
    try (with_reducible refine Run.ret ?_)
    apply zz
    apply Cd.ite rfl
    · conv => lhs; simp -implicitDefEqProofs (maxSteps := 300000) (disch := omega) [-getElem?_pos, -getElem?_neg]
    all_goals intro c0
    all_goals try (cases c0; done)
    all_goals try simp only [Bool.not_eq_true', Bool.not_eq_false', decide_eq_true_eq, decide_eq_false_iff_not] at c0
    all_goals apply zz
    apply zz
    refine Cd.ra (h := ?_)
    apply Run.by_eq
    · intro self
      conv => lhs; simp -implicitDefEqProofs (maxSteps := 300000) (disch := omega) [-getElem?_pos, -getElem?_neg, h5, hg3, h4, hg1]
    try (with_reducible refine Run.ret ?_)
    apply zz
    apply Leave.mk (by first | exact .inl rfl | exact .inr rfl) (by simp only [Fr.marks_put, fr0_marks, hm, h4])
    · conv => lhs; simp -implicitDefEqProofs (disch := omega) [Try.results49, hm, h4]
    exact ⟨⟨by (try simp only [pushed_next', upded_next']); omega, fun i hi => by simp -implicitDefEqProofs (disch := omega) [hkpb]⟩, s.next + 1 + 1, es, rfl, by omega, ⟨by (try simp only [upded_next']); omega, by simp -implicitDefEqProofs (disch := omega) [hg2]⟩, hF⟩
end Go.Proofs.Ytjehpgflhgpalaa
namespace Go.Proofs.Ytjehpgflhgpalaa
open Go Kern
/-- Those of the first j that have the root of k. -/
def clsN (rt : Int → Int) (k j : Nat) : List Int := ((List.range j).filter fun x : Nat => decide (rt x = rt k)).map fun x : Nat => (x : Int)
def isLead (rt : Int → Int) (n k : Nat) : Bool := decide ((clsN rt k n).head? = some (k : Int)) && !decide (rt k = rt (-1))
def leads (rt : Int → Int) (n k : Nat) : List Nat := (List.range k).filter (isLead rt n)
theorem clsN_succ (rt : Int → Int) (k j : Nat) : clsN rt k (j + 1) = if rt j = rt k then clsN rt k j ++ [(j : Int)] else clsN rt k j := by
  unfold clsN
  rw [List.range_succ, List.filter_append, List.map_append]
  by_cases h : rt j = rt k <;> simp [h]
theorem leads_succ (rt : Int → Int) (n k : Nat) : leads rt n (k + 1) = if isLead rt n k = true then leads rt n k ++ [k] else leads rt n k := by
  unfold leads
  rw [List.range_succ, List.filter_append]
  by_cases h : isLead rt n k = true <;> simp [h]
theorem cls_self (rt : Int → Int) {n k : Nat} (h : k < n) : clsN rt k n ≠ [] := by
  intro e
  have : (k : Int) ∈ clsN rt k n := by
    unfold clsN
    exact List.mem_map.2 ⟨k, by simp [h], rfl⟩
  rw [e] at this; cases this
theorem clsN_length (rt : Int → Int) (k j : Nat) : (clsN rt k j).length ≤ j := by
  unfold clsN
  rw [List.length_map]
  exact Nat.le_trans (List.length_filter_le _ _) (by simp)
/-- The units that are gathered, in a block of their own. -/
def OwnU (N : Nat) (s : St) (w : Value) (cs : List Int) : Prop :=
  (cs = [] ∧ w = .slice none 0 0) ∨ ∃ b, w = .slice (some ⟨b, 0, none⟩) cs.length cs.length ∧ cs ≠ [] ∧ N ≤ b ∧ b < s.next ∧ s.heap.get b = some (.cells (cs.map (Value.int .i64)) (some 1))
theorem OwnU.ints {N : Nat} {s : St} {w : Value} {cs : List Int} (h : OwnU N s w cs) : IntsAt s w cs := by
  rcases h with ⟨rfl, rfl⟩ | ⟨b, rfl, hne, h1, h2, h3⟩
  · exact .nil 0
  · have := SlAt.mk (n := 1) (s := s) (off := 0) (c := cs.length) (l := cs.map fun x => [.int .i64 x]) h2 h3 rfl (fun i e he => ?_)
    · rw [List.length_map] at this; exact this
    · rw [List.getElem?_map] at he
      cases hb : cs[i]? with
      | none => rw [hb] at he; cases he
      | some y =>
        rw [hb] at he; cases he
        rw [Nat.zero_add, Nat.mul_one]
        have hd : (cs.map (Value.int .i64)).drop i = .int .i64 y :: (cs.map (Value.int .i64)).drop (i + 1) := by
          rw [List.drop_eq_getElem_cons (by simpa using (List.getElem?_eq_some_iff.1 hb).1)]
          have := (List.getElem?_eq_some_iff.1 hb).2
          simp [this]
        rw [hd]; rfl
end Go.Proofs.Ytjehpgflhgpalaa
namespace Go.Proofs.Ytjehpgflhgpalaa
open Go Kern
set_option maxRecDepth 100000 in
theorem parts_ev (u : Int) (v : Value) (s : St) : Ev TT 38 [plantV u v] s fun r s' => Keep s s' ∧ ∃ bp, r = .func (.func 59) #[] #[.pointer (some ⟨bp, 0, none⟩)] ∧ s.next ≤ bp ∧ bp < s'.next ∧ s'.heap.get bp = some (.cells [.int .i64 u, v] none) := by
  unfold plantV
  refine Ev.intro (fn := Try.f38) rfl (by kernel_rfl) rfl rfl ?_
  apply zz
  refine Cd.ra (h := ?_)
  apply Run.by_eq
  · intro self
    conv => lhs; simp -implicitDefEqProofs (maxSteps := 300000) (disch := omega) [-getElem?_pos, -getElem?_neg]
  try (with_reducible refine Run.ret ?_)
  apply zz
  refine Cd.ra (h := ?_)
  apply Run.by_eq
  · intro self
    conv => lhs; simp -implicitDefEqProofs (maxSteps := 300000) (disch := omega) [-getElem?_pos, -getElem?_neg]
  try (with_reducible refine Run.ret ?_)
  apply zz
  apply Leave.mk (by first | exact .inl rfl | exact .inr rfl) (by simp only [Fr.marks_put, fr0_marks])
  · conv => lhs; simp -implicitDefEqProofs (disch := omega) [Try.results38]
  exact ⟨(Keep.refl _).pushed _, s.next, rfl, Nat.le_refl _, by simp, by simp⟩
def idxR (rt : Int → Int) (r : Int) : List Nat → Int → Int
  | [], _ => -1
  | l :: t, i => if rt l = r then i else idxR rt r t (i + 1)
def partAt (rt : Int → Int) (n k x : Nat) : Int := idxR rt (rt x) (leads rt n k) 0
def partL (rt : Int → Int) (n k : Nat) : List Int := (List.range n).map (partAt rt n k)
theorem mem_cls {rt : Int → Int} {n k : Nat} {x : Nat} (hx : x < n) : (x : Int) ∈ clsN rt k n ↔ rt x = rt k := by
  unfold clsN
  constructor
  · intro h
    obtain ⟨y, hy, e⟩ := List.mem_map.1 h
    have : y = x := by omega
    subst this
    simpa using (List.mem_filter.1 hy).2
  · intro h
    exact List.mem_map.2 ⟨x, by simp [hx, h], rfl⟩
theorem Fr.get_mk (f : Fr) (m : List Nat) (t : Tmp) : Fr.get ⟨f.tmps, m⟩ t = f.get t := rfl
theorem ints_of_cells {s : St} {b c : Nat} {xs : List Int} {g : Option Nat} (h2 : b < s.next) (h3 : s.heap.get b = some (.cells (xs.map (Value.int .i64)) g)) : IntsAt s (.slice (some ⟨b, 0, none⟩) xs.length c) xs := by
  have := SlAt.mk (n := 1) (s := s) (off := 0) (c := c) (l := xs.map fun x => [.int .i64 x]) h2 h3 rfl (fun i e he => ?_)
  · rw [List.length_map] at this; exact this
  · rw [List.getElem?_map] at he
    cases hb : xs[i]? with
    | none => rw [hb] at he; cases he
    | some y =>
      rw [hb] at he; cases he
      rw [Nat.zero_add, Nat.mul_one]
      have hd : (xs.map (Value.int .i64)).drop i = .int .i64 y :: (xs.map (Value.int .i64)).drop (i + 1) := by
        rw [List.drop_eq_getElem_cons (by simpa using (List.getElem?_eq_some_iff.1 hb).1)]
        have := (List.getElem?_eq_some_iff.1 hb).2
        simp [this]
      rw [hd]; rfl
def partsErrL (u : Int) (fs : List FlowD) : List Int := if checkErr u fs = 0 then partL (rtF (-1) fs 0 id) u.toNat u.toNat else []
end Go.Proofs.Ytjehpgflhgpalaa
namespace Go.Proofs.Ytjehpgflhgpalaa
open Go Kern
theorem takeL_append {α : Type} : ∀ (a b : List α), takeL a.length (a ++ b) = some a
  | [], b => rfl
  | x :: a, b => by show ob (takeL a.length (a ++ b)) (fun r => some (x :: r)) = _; rw [takeL_append a b]; rfl
theorem drop_flat {α : Type} {n : Nat} : ∀ {l : List (List α)} {i : Nat} {e : List α}, (∀ x ∈ l, x.length = n) → l[i]? = some e → takeL n (l.flatten.drop (i * n)) = some e
  | [], i, e, _, h => by simp at h
  | x :: r, 0, e, hl, h => by
    simp at h; subst h
    rw [Nat.zero_mul, List.drop_zero, List.flatten_cons, ← hl x (.head _)]
    exact takeL_append _ _
  | x :: r, i + 1, e, hl, h => by
    have hx := hl x (.head _)
    rw [List.flatten_cons, show (i + 1) * n = x.length + i * n by rw [Nat.add_mul, hx]; omega, ← List.drop_drop, List.drop_left]
    exact drop_flat (fun y hy => hl y (.tail _ hy)) (by simpa using h)
theorem sl_of_cells {n : Nat} {s : St} {b c : Nat} {l : List (List Value)} {g : Option Nat} (h2 : b < s.next) (hl : ∀ x ∈ l, x.length = n) (h3 : s.heap.get b = some (.cells l.flatten g)) : SlAt n s (.slice (some ⟨b, 0, none⟩) l.length c) l :=
  SlAt.mk h2 h3 rfl fun i e he => by rw [Nat.zero_add]; exact drop_flat hl he
def flatF (fs : List FlowD) : List Value := (fs.map FlowD.cs).flatten
theorem flatF_snoc (fs : List FlowD) (f : FlowD) : flatF (fs ++ [f]) = flatF fs ++ f.cs := by simp [flatF]
theorem flatF_length (fs : List FlowD) : (flatF fs).length = fs.length * 7 := by
  induction fs with
  | nil => rfl
  | cons f r ih =>
    have : flatF (f :: r) = f.cs ++ flatF r := by simp [flatF]
    rw [this, List.length_append, ih, List.length_cons]
    simp [FlowD.cs]; omega
def OwnF (N : Nat) (s : St) (w : Value) (fs : List FlowD) : Prop :=
  (fs = [] ∧ w = .slice none 0 0) ∨ ∃ b, w = .slice (some ⟨b, 0, none⟩) fs.length fs.length ∧ fs ≠ [] ∧ N ≤ b ∧ b < s.next ∧ s.heap.get b = some (.cells (flatF fs) (some 7))
theorem OwnF.flows {N : Nat} {s : St} {w : Value} {fs : List FlowD} (h : OwnF N s w fs) : FlAt s w fs := by
  rcases h with ⟨rfl, rfl⟩ | ⟨b, rfl, hne, h1, h2, h3⟩
  · exact .nil 0
  · have := sl_of_cells (n := 7) (c := fs.length) (l := fs.map FlowD.cs) h2 (fun x hx => by obtain ⟨f, _, rfl⟩ := List.mem_map.1 hx; rfl) h3
    rw [List.length_map] at this; exact this
end Go.Proofs.Ytjehpgflhgpalaa
namespace Go.Proofs.Ytjehpgflhgpalaa
open Go Kern
theorem takeL_at {α : Type} : ∀ {n : Nat} {l r : List α} {i : Nat}, takeL n l = some r → i < n → l[i]? = r[i]?
  | 0, _, _, _, _, h => by omega
  | n + 1, [], r, _, h, _ => by cases h
  | n + 1, x :: l, r, i, h, hi => by
    obtain ⟨t, h1, h2⟩ := ob_eq (show ob (takeL n l) (fun t => some (x :: t)) = some r from h)
    cases h2
    cases i with
    | zero => rfl
    | succ i => simpa using takeL_at h1 (by omega)
section
variable {T : Tab} {self : Self} {f : Fr} {s : St} {ρ : Env} {H : Tree AObj}
@[simp] theorem act_max2 (x y : Operand) (tys : Array TypeId) : actO T self (.call ⟨.builtin .max, #[x, y], tys⟩) f s = pureR (vExt true x [y] f.eval s.heap) s := rfl
@[simp] theorem act_min2 (x y : Operand) (tys : Array TypeId) : actO T self (.call ⟨.builtin .min, #[x, y], tys⟩) f s = pureR (vExt false x [y] f.eval s.heap) s := rfl
@[simp] theorem vExt_one (mx : Bool) (x y : Operand) : vExt mx x [y] ρ H = ext2 mx (ρ x) (ρ y) := by
  show ob (ext2 mx (ρ x) (ρ y)) some = _
  cases ext2 mx (ρ x) (ρ y) <;> rfl
@[simp] theorem ext2_max (k : IntKind) (a b : Int) : ext2 true (.int k a) (.int k b) = some (.int k (max a b)) := by
  show some (Value.int k (bt (bt true (intLt a b) (intLt b a)) b a)) = _
  rw [intLt_eq, bt_true]
  by_cases h : a < b
  · rw [decide_eq_true h, bt_true, show max a b = b by omega]
  · rw [decide_eq_false h, bt_false, show max a b = a by omega]
@[simp] theorem ext2_min (k : IntKind) (a b : Int) : ext2 false (.int k a) (.int k b) = some (.int k (min a b)) := by
  show some (Value.int k (bt (bt false (intLt a b) (intLt b a)) b a)) = _
  rw [intLt_eq b a, bt_false]
  by_cases h : b < a
  · rw [decide_eq_true h, bt_true, show min a b = b by omega]
  · rw [decide_eq_false h, bt_false, show min a b = a by omega]
end
def relab (h : Nat → Int) (a b : Int) : Nat → Int := fun x => if h x = max a b then min a b else h x
def labStep (lo : Int) (h : Nat → Int) (i : Nat) (f : FlowD) : Nat → Int :=
  if f.me = true ∨ (i : Int) = lo then h else relab h (h (f.fr + 1).toNat) (h (f.to + 1).toNat)
def labF (lo : Int) : List FlowD → Nat → (Nat → Int) → (Nat → Int)
  | [], _, h => h
  | f :: r, i, h => labF lo r (i + 1) (labStep lo h i f)
def cellsF (m : Nat) (h : Nat → Int) : List Value := (List.range m).map fun x : Nat => Value.int .i64 (h x)
end Go.Proofs.Ytjehpgflhgpalaa
namespace Go.Proofs.Ytjehpgflhgpalaa
open Go Kern
def Same (n : Nat) (rt : Int → Int) (h : Nat → Int) : Prop :=
  (∀ i, i ≤ n → 0 ≤ h i ∧ h i ≤ i ∧ h (h i).toNat = h i) ∧ ∀ i j, i ≤ n → j ≤ n → (h i = h j ↔ rt ((i : Int) - 1) = rt ((j : Int) - 1))
theorem Same.init (n : Nat) : Same n id fun x => x :=
  ⟨fun i hi => ⟨by dsimp only; omega, by dsimp only; omega, by dsimp only; omega⟩, fun i j _ _ => by simp only [id]; omega⟩
theorem Same.step {n : Nat} {rt : Int → Int} {h : Nat → Int} (hs : Same n rt h) {x y : Int} (hx : -1 ≤ x ∧ x < n) (hy : -1 ≤ y ∧ y < n) : Same n (uni rt x y) (relab h (h (x + 1).toNat) (h (y + 1).toNat)) := by
  obtain ⟨h1, h2⟩ := hs
  have px : (x + 1).toNat ≤ n := by omega
  have py : (y + 1).toNat ≤ n := by omega
  have ex : (((x + 1).toNat : Nat) : Int) - 1 = x := by omega
  have ey : (((y + 1).toNat : Nat) : Int) - 1 = y := by omega
  have hab := h2 _ _ px py
  rw [ex, ey] at hab
  have ha := h1 _ px
  have hb := h1 _ py
  have ca : ∀ i, i ≤ n → (h i = h (x + 1).toNat ↔ rt ((i : Int) - 1) = rt x) := fun i hi => by have := h2 i _ hi px; rw [ex] at this; exact this
  have cb : ∀ i, i ≤ n → (h i = h (y + 1).toNat ↔ rt ((i : Int) - 1) = rt y) := fun i hi => by have := h2 i _ hi py; rw [ey] at this; exact this
  generalize h (x + 1).toNat = A at *
  generalize h (y + 1).toNat = B at *
  unfold uni relab
  by_cases hr : rt x = rt y
  · have hAB : A = B := hab.2 hr
    subst hAB
    rw [if_pos hr]
    have hid : (fun z => if h z = max A A then min A A else h z) = h := by funext z; by_cases e : h z = A <;> simp [e]
    rw [hid]
    exact ⟨h1, h2⟩
  · have hAB : A ≠ B := fun e => hr (hab.1 e)
    rw [if_neg hr]
    refine ⟨fun i hi => ?_, fun i j hi hj => ?_⟩
    · obtain ⟨b1, b2, b3⟩ := h1 i hi
      by_cases e : h i = max A B
      · simp only [e, if_true]
        refine ⟨by omega, by omega, ?_⟩
        have hm : h (min A B).toNat = min A B := by
          by_cases q : A ≤ B
          · rw [show min A B = A by omega]; exact ha.2.2
          · rw [show min A B = B by omega]; exact hb.2.2
        rw [hm, if_neg (by omega)]
      · simp only [e, if_false]
        exact ⟨b1, b2, by rw [b3, if_neg e]⟩
    · have hij := h2 i j hi hj
      have ci := ca i hi
      have cj := ca j hj
      have di := cb i hi
      have dj := cb j hj
      have hry : rt y ≠ rt x := fun e => hr e.symm
      by_cases i1 : rt ((i : Int) - 1) = rt x
      · have hi1 := ci.2 i1
        by_cases j1 : rt ((j : Int) - 1) = rt x
        · have hj1 := cj.2 j1
          simp [i1, j1, hi1, hj1]
        · have hj1 : h j ≠ A := fun e => j1 (cj.1 e)
          by_cases j2 : rt ((j : Int) - 1) = rt y
          · have hj2 := dj.2 j2
            simp only [i1, if_true, j2, hry, if_false, hi1, hj2, iff_true]
            by_cases q : A ≤ B
            · rw [if_neg (by omega), if_pos (by omega)]; omega
            · rw [if_pos (by omega), if_neg (by omega)]; omega
          · have hj2 : h j ≠ B := fun e => j2 (dj.1 e)
            simp only [i1, if_true, j1, if_false, hi1]
            rw [if_neg (show ¬ h j = max A B by omega)]
            constructor
            · intro e; split at e <;> omega
            · intro e; exact absurd e.symm j2
      · have hi1 : h i ≠ A := fun e => i1 (ci.1 e)
        by_cases i2 : rt ((i : Int) - 1) = rt y
        · have hi2 := di.2 i2
          by_cases j1 : rt ((j : Int) - 1) = rt x
          · have hj1 := cj.2 j1
            simp only [i2, hry, if_false, j1, if_true, hi2, hj1, iff_true]
            by_cases q : A ≤ B
            · rw [if_pos (by omega), if_neg (by omega)]; omega
            · rw [if_neg (by omega), if_pos (by omega)]; omega
          · have hj1 : h j ≠ A := fun e => j1 (cj.1 e)
            by_cases j2 : rt ((j : Int) - 1) = rt y
            · have hj2 := dj.2 j2
              simp [i2, j2, hi2, hj2]
            · have hj2 : h j ≠ B := fun e => j2 (dj.1 e)
              simp only [i2, hry, if_false, j1, hi2]
              rw [if_neg (show ¬ h j = max A B by omega)]
              constructor
              · intro e; split at e <;> omega
              · intro e; exact absurd e.symm j2
        · have hi2 : h i ≠ B := fun e => i2 (di.1 e)
          simp only [i1, if_false]
          rw [if_neg (show ¬ h i = max A B by omega)]
          by_cases j1 : rt ((j : Int) - 1) = rt x
          · have hj1 := cj.2 j1
            simp only [j1, if_true, hj1]
            constructor
            · intro e; split at e <;> omega
            · intro e; exact absurd e i2
          · have hj1 : h j ≠ A := fun e => j1 (cj.1 e)
            simp only [j1, if_false]
            by_cases j2 : rt ((j : Int) - 1) = rt y
            · have hj2 := dj.2 j2
              rw [hj2]
              constructor
              · intro e; split at e <;> omega
              · intro e; exact absurd (e.trans j2) i2
            · have hj2 : h j ≠ B := fun e => j2 (dj.1 e)
              rw [if_neg (show ¬ h j = max A B by omega)]
              exact hij
theorem Same.flows {n : Nat} {lo : Int} : ∀ {fs : List FlowD} {i : Nat} {rt : Int → Int} {h : Nat → Int}, Same n rt h → (∀ f ∈ fs, (-1 ≤ f.fr ∧ f.fr < n) ∧ (-1 ≤ f.to ∧ f.to < n)) → Same n (rtF lo fs i rt) (labF lo fs i h)
  | [], _, _, _, hs, _ => hs
  | f :: r, i, rt, h, hs, hf => by
    have h0 := hf f (.head _)
    show Same n (rtF lo r (i + 1) _) (labF lo r (i + 1) _)
    refine Same.flows ?_ fun g hg => hf g (.tail _ hg)
    unfold labStep
    by_cases hm : f.me = false ∧ (i : Int) ≠ lo
    · rw [if_pos hm, if_neg (by rw [hm.1]; simp; exact hm.2)]
      exact hs.step h0.1 h0.2
    · rw [if_neg hm, if_pos (by cases hme : f.me <;> simp_all)]
      exact hs
def refO (L : Nat → Int) : Nat → List Int × Int
  | 0 => ([], 0)
  | x + 1 => if L (x + 1) = 0 then ((refO L x).1 ++ [-1], (refO L x).2) else if L (x + 1) = (x : Int) + 1 then ((refO L x).1 ++ [(refO L x).2], (refO L x).2 + 1) else ((refO L x).1 ++ [(refO L x).1.getD (L (x + 1) - 1).toNat 0], (refO L x).2)
theorem isLead_of {rt : Int → Int} {n k : Nat} (hk : k < n) (h : ∀ l : Nat, l < k → rt l ≠ rt k) (ho : rt k ≠ rt (-1)) : isLead rt n k = true := by
  unfold isLead
  rw [Bool.and_eq_true, decide_eq_true_eq]
  refine ⟨?_, by simpa using ho⟩
  unfold clsN
  have hsplit : List.range n = List.range k ++ k :: (List.range n).drop (k + 1) := by
    have h1 : (List.range n).drop k = k :: (List.range n).drop (k + 1) := by
      rw [List.drop_eq_getElem_cons (by simpa using hk)]
      simp
    rw [← h1]
    have h2 : List.range k = (List.range n).take k := by rw [List.take_range, show min k n = k by omega]
    rw [h2, List.take_append_drop]
  rw [hsplit, List.filter_append]
  have : (List.range k).filter (fun x : Nat => decide (rt x = rt k)) = [] := by
    rw [List.filter_eq_nil_iff]
    intro l hl
    simpa using h l (by simpa using hl)
  rw [this]
  simp
end Go.Proofs.Ytjehpgflhgpalaa
namespace Go.Proofs.Ytjehpgflhgpalaa
open Go Kern
set_option maxRecDepth 100000 in
set_option maxHeartbeats 4000000 in
theorem iterJ_ev (n : Nat) (v yv : Value) (fs : List FlowD) (bp : Nat) (s : St) (X : Nat → Prop) (J : Nat → St → Prop) (B : Nat → St → Prop) (hn : n ≤ 8) (hf : FlAt s v fs) (hl : fs.length ≤ 1000000)
    (hbp : bp < s.next) (hgp : s.heap.get bp = some (.cells [.int .i64 n, v] none)) (hX : ∀ i, X i → i < s.next) (hXp : ¬ X bp) (hJ0 : J 0 s)
    (hJs : ∀ k s1 s2, J k s1 → s1.next ≤ s2.next → (∀ i, i < s.next → s2.heap.get i = s1.heap.get i) → J k s2)
    (hskip : ∀ k s1, k < n → isLead (rtF (-1) fs 0 id) n k = false → J k s1 → J (k + 1) s1)
    (hyield : ∀ k s1 w, k < n → isLead (rtF (-1) fs 0 id) n k = true → J k s1 → s.next ≤ s1.next → IntsAt s1 w (clsN (rtF (-1) fs 0 id) k n) → (∃ bw, s.next ≤ bw ∧ w = .slice (some ⟨bw, 0, none⟩) (clsN (rtF (-1) fs 0 id) k n).length (clsN (rtF (-1) fs 0 id) k n).length) →
      Evn TT (fun self => callV self yv [.int .i64 (leads (rtF (-1) fs 0 id) n k).length, w] s1) fun p => ((p.1 = .bool true ∧ J (k + 1) p.2) ∨ (p.1 = .bool false ∧ B k p.2)) ∧ s1.next ≤ p.2.next ∧ ∀ i, i < s1.next → ¬ X i → p.2.heap.get i = s1.heap.get i) :
    Ev TT 59 [yv, .pointer (some ⟨bp, 0, none⟩)] s fun _ s' => (J n s' ∨ ∃ k, k < n ∧ isLead (rtF (-1) fs 0 id) n k = true ∧ B k s') ∧ s.next ≤ s'.next ∧ ∀ i, i < s.next → ¬ X i → s'.heap.get i = s.heap.get i := by
  refine Ev.intro (fn := Try.f59) rfl (by kernel_rfl) rfl rfl ?_
  apply zz
  refine Cd.ra (h := ?_)
  apply Run.by_eq
  · intro self
    conv => lhs; simp -implicitDefEqProofs (maxSteps := 300000) (disch := omega) [-getElem?_pos, -getElem?_neg, hgp]
  try (with_reducible refine Run.ret ?_)
  apply zz
  refine Run.call ((joins_ev n (-1) v fs _ hf hl).mono fun r w1 hv => ?_)
  obtain ⟨hk1, b, es, rfl, hbs, hH, hF⟩ := hv
  generalize rtF (-1) fs 0 id = rt at *
  have k1a := hk1.1
  have k1b := hk1.2
  have hHl := hH.1
  apply Run.by_eq
  · intro self
    conv => lhs; simp -implicitDefEqProofs (maxSteps := 300000) (disch := omega) [-getElem?_pos, -getElem?_neg]
  try (with_reducible refine Run.ret ?_)
  apply zz
  refine Cd.ra (h := ?_)
  apply Run.by_eq
  · intro self
    conv => lhs; simp -implicitDefEqProofs (maxSteps := 300000) (disch := omega) [-getElem?_pos, -getElem?_neg]
  try (with_reducible refine Run.ret ?_)
  apply zz
  refine Cd.ra (h := ?_)
  apply Run.by_eq
  · intro self
    conv => lhs; simp -implicitDefEqProofs (maxSteps := 300000) (disch := omega) [-getElem?_pos, -getElem?_neg, k1b, hgp]
  try (with_reducible refine Run.ret ?_)
  apply zz
  refine Cd.inv (fun z f s' => ∃ k : Nat, k ≤ n ∧ z = n - k ∧ f.marks = [] ∧ f.get 12 = .int .i64 k ∧ f.get 11 = .int .i64 n ∧ f.get 0 = yv ∧ f.get 1 = .pointer (some ⟨bp, 0, none⟩) ∧ f.get 3 = .pointer (some ⟨w1.next, 0, none⟩) ∧ f.get 4 = .int .i64 (leads rt n k).length ∧ w1.next < s'.next ∧ (∀ i, i < s.next → ¬ X i → s'.heap.get i = s.heap.get i) ∧ s'.heap.get w1.next = some (.cells [.map (some b)] none) ∧ HeadsAt s' b es ∧ J k s') n ?_ ?_
  · refine ⟨0, by omega, rfl, by simp, by simp, by simp, by simp, by simp, by simp, by simp [leads], by simp, fun i hi hx => ?_, by simp, ⟨by (try simp only [pushed_next', upded_next']); omega, ?_⟩, hJs 0 s _ hJ0 (by (try simp only [pushed_next', upded_next']); omega) fun i hi => ?_⟩
    · simp -implicitDefEqProofs (disch := omega) [k1b]
    · simp -implicitDefEqProofs (disch := omega) [hH.2]
    · simp -implicitDefEqProofs (disch := omega) [k1b]
  rintro z f s' ⟨k, hk, rfl, hm, h12, h11, h0, h1, h3, h4, hnx, hold, hgh, hHA, hJ⟩
  have hgp' : s'.heap.get bp = some (.cells [.int .i64 n, v] none) := (hold bp hbp hXp).trans hgp
  by_cases hlt : k < n
  · apply zz
    refine Cd.ra (h := ?_)
    apply Run.by_eq
    · intro self
      conv => lhs; simp -implicitDefEqProofs (maxSteps := 300000) (disch := omega) [-getElem?_pos, -getElem?_neg, h12, h11]
    try (with_reducible refine Run.ret ?_)
    apply zz
    apply Cd.ite rfl
    · conv => lhs; simp -implicitDefEqProofs (maxSteps := 300000) (disch := omega) [-getElem?_pos, -getElem?_neg]
    all_goals intro c0
    all_goals try (cases c0; done)
    all_goals try simp only [Bool.not_eq_true', Bool.not_eq_false', decide_eq_true_eq, decide_eq_false_iff_not] at c0
    all_goals apply zz
    · apply zz
      refine Cd.ra (h := ?_)
      apply Run.by_eq
      · intro self
        conv => lhs; simp -implicitDefEqProofs (maxSteps := 300000) (disch := omega) [-getElem?_pos, -getElem?_neg, h12]
      try (with_reducible refine Run.ret ?_)
      apply zz
      refine Cd.ra (h := ?_)
      apply Run.by_eq
      · intro self
        conv => lhs; simp -implicitDefEqProofs (maxSteps := 300000) (disch := omega) [-getElem?_pos, -getElem?_neg]
      try (with_reducible refine Run.ret ?_)
      apply zz
      refine Cd.ra (h := ?_)
      apply Run.by_eq
      · intro self
        conv => lhs; simp -implicitDefEqProofs (maxSteps := 300000) (disch := omega) [-getElem?_pos, -getElem?_neg, h1, hgp']
      try (with_reducible refine Run.ret ?_)
      apply zz
      refine Cd.inv (fun z2 f2 s2 => ∃ j : Nat, j ≤ n ∧ z2 = n - j ∧ f2.marks = [] ∧ f2.get 17 = .int .i64 j ∧ f2.get 16 = .int .i64 n ∧ f2.get 12 = .int .i64 k ∧ f2.get 11 = .int .i64 n ∧ f2.get 0 = yv ∧ f2.get 1 = .pointer (some ⟨bp, 0, none⟩) ∧ f2.get 3 = .pointer (some ⟨w1.next, 0, none⟩) ∧ f2.get 4 = .int .i64 (leads rt n k).length ∧ f2.get 5 = .int .i64 k ∧ OwnU (w1.next + 1) s2 (f2.get 6) (clsN rt k j) ∧ w1.next < s2.next ∧ (∀ i, i < s.next → ¬ X i → s2.heap.get i = s.heap.get i) ∧ s2.heap.get w1.next = some (.cells [.map (some b)] none) ∧ HeadsAt s2 b es ∧ J k s2) n ?_ ?_
      · refine ⟨0, by omega, rfl, by simp [hm], by simp, by simp, by simp [h12], by simp [h11], by simp [h0], by simp [h1], by simp [h3], by simp [h4], by simp, .inl ⟨rfl, by simp⟩, hnx, hold, hgh, hHA, hJ⟩
      rintro z2 f2 s2 ⟨j, hj, rfl, gm, g17, g16, g12, g11, g0, g1, g3, g4, g5, hU, gnx, gold, ggh, gHA, gJ⟩
      have gHl := gHA.1
      by_cases hjn : j < n
      · apply zz
        refine Cd.ra (h := ?_)
        apply Run.by_eq
        · intro self
          conv => lhs; simp -implicitDefEqProofs (maxSteps := 300000) (disch := omega) [-getElem?_pos, -getElem?_neg, g17, g16]
        try (with_reducible refine Run.ret ?_)
        apply zz
        apply Cd.ite rfl
        · conv => lhs; simp -implicitDefEqProofs (maxSteps := 300000) (disch := omega) [-getElem?_pos, -getElem?_neg]
        all_goals intro d0
        all_goals try (cases d0; done)
        all_goals try simp only [Bool.not_eq_true', Bool.not_eq_false', decide_eq_true_eq, decide_eq_false_iff_not] at d0
        all_goals apply zz
        · apply zz
          refine Cd.ra (h := ?_)
          apply Run.by_eq
          · intro self
            conv => lhs; simp -implicitDefEqProofs (maxSteps := 300000) (disch := omega) [-getElem?_pos, -getElem?_neg, g17]
          try (with_reducible refine Run.ret ?_)
          apply zz
          refine Cd.ra (h := ?_)
          apply Run.by_eq
          · intro self
            conv => lhs; simp -implicitDefEqProofs (maxSteps := 300000) (disch := omega) [-getElem?_pos, -getElem?_neg, g3, ggh, g5]
          try (with_reducible refine Run.ret ?_)
          apply zz
          refine Run.call ((joined_ev b es rt j k _ gHA hF).mono fun v wq hv => ?_)
          obtain ⟨rfl, q⟩ := hv
          have qa := q.1
          have qb := q.2
          try simp only [pushed_next', upded_next'] at qa qb
          apply Run.by_eq
          · intro self
            conv => lhs; simp -implicitDefEqProofs (maxSteps := 300000) (disch := omega) [-getElem?_pos, -getElem?_neg]
          try (with_reducible refine Run.ret ?_)
          apply zz
          have hcn := clsN_succ rt k j
          by_cases hr : rt j = rt k
          · rw [if_pos hr] at hcn
            apply zz
            apply Cd.ite rfl
            · conv => lhs; simp -implicitDefEqProofs (maxSteps := 300000) (disch := omega) [-getElem?_pos, -getElem?_neg, hr]
            all_goals intro d1
            all_goals try (cases d1; done)
            all_goals try simp only [Bool.not_eq_true', Bool.not_eq_false', decide_eq_true_eq, decide_eq_false_iff_not] at d1
            all_goals apply zz
            rcases hU with ⟨hce, hw⟩ | ⟨bu, hw, hne, hb1, hb2, hb3⟩
            · apply zz
              refine Cd.ra (h := ?_)
              apply Run.by_eq
              · intro self
                conv => lhs; simp -implicitDefEqProofs (maxSteps := 300000) (disch := omega) [-getElem?_pos, -getElem?_neg, hw, appV_nil (size := 1) (g := none) (new := [.int .i64 (j : Int)]) (get_pushed_new _ _) rfl rfl]
              try (with_reducible refine Run.ret ?_)
              apply zz
              refine Cd.ra (h := ?_)
              apply Run.by_eq
              · intro self
                conv => lhs; simp -implicitDefEqProofs (maxSteps := 300000) (disch := omega) [-getElem?_pos, -getElem?_neg, g17]
              try (with_reducible refine Run.ret ?_)
              apply zz
              refine LoopK.nm (n - (j + 1)) (by omega) ⟨j + 1, by omega, rfl, by simp [gm], by simp, by simp [g16], by simp [g12], by simp [g11], by simp [g0], by simp [g1], by simp [g3], by simp [g4], by simp [g5], ?_, by (try simp only [pushed_next', upded_next']); omega, fun i hi hx => ?_, ?_, ⟨by (try simp only [pushed_next', upded_next']); omega, ?_⟩, hJs k s2 _ gJ (by (try simp only [pushed_next', upded_next']); omega) fun i hi => ?_⟩
              · rw [hcn, hce]
                exact .inr ⟨wq.next + 1, by simp, by simp, by omega, by simp, by simp⟩
              · rw [← gold i hi hx]; simp -implicitDefEqProofs (disch := omega) [qb]
              · simp -implicitDefEqProofs (disch := omega) [qb, ggh]
              · simp -implicitDefEqProofs (disch := omega) [qb, gHA.2]
              · simp -implicitDefEqProofs (disch := omega) [qb]
            · have hcl := clsN_length rt k j
              have hm1 : (wq.pushed (.cells [.int .i64 (j : Int)] none)).heap.get bu = some (.cells ((clsN rt k j).map (Value.int .i64)) (some 1)) := by simp -implicitDefEqProofs (disch := omega) [qb, hb3]
              have hap := appV_more (size := 1) (n := (clsN rt k j).length) (b2 := wq.next) hm1 (get_pushed_new _ _) rfl rfl (by simp) (by omega)
              apply zz
              refine Cd.ra (h := ?_)
              apply Run.by_eq
              · intro self
                conv => lhs; simp -implicitDefEqProofs (maxSteps := 300000) (disch := omega) [-getElem?_pos, -getElem?_neg, hw, hap]
              try (with_reducible refine Run.ret ?_)
              apply zz
              refine Cd.ra (h := ?_)
              apply Run.by_eq
              · intro self
                conv => lhs; simp -implicitDefEqProofs (maxSteps := 300000) (disch := omega) [-getElem?_pos, -getElem?_neg, g17]
              try (with_reducible refine Run.ret ?_)
              apply zz
              refine LoopK.nm (n - (j + 1)) (by omega) ⟨j + 1, by omega, rfl, by simp [gm], by simp, by simp [g16], by simp [g12], by simp [g11], by simp [g0], by simp [g1], by simp [g3], by simp [g4], by simp [g5], ?_, by (try simp only [pushed_next', upded_next']); omega, fun i hi hx => ?_, ?_, ⟨by (try simp only [pushed_next', upded_next']); omega, ?_⟩, hJs k s2 _ gJ (by (try simp only [pushed_next', upded_next']); omega) fun i hi => ?_⟩
              · rw [hcn]
                exact .inr ⟨wq.next + 1, by simp, by simp, by omega, by simp, by simp⟩
              · rw [← gold i hi hx]; simp -implicitDefEqProofs (disch := omega) [qb]
              · simp -implicitDefEqProofs (disch := omega) [qb, ggh]
              · simp -implicitDefEqProofs (disch := omega) [qb, gHA.2]
              · simp -implicitDefEqProofs (disch := omega) [qb]
          · rw [if_neg hr] at hcn
            apply zz
            apply Cd.ite rfl
            · conv => lhs; simp -implicitDefEqProofs (maxSteps := 300000) (disch := omega) [-getElem?_pos, -getElem?_neg, hr]
            all_goals intro d1
            all_goals try (cases d1; done)
            all_goals try simp only [Bool.not_eq_true', Bool.not_eq_false', decide_eq_true_eq, decide_eq_false_iff_not] at d1
            all_goals apply zz
            apply zz
            refine Cd.ra (h := ?_)
            apply Run.by_eq
            · intro self
              conv => lhs; simp -implicitDefEqProofs (maxSteps := 300000) (disch := omega) [-getElem?_pos, -getElem?_neg, g17]
            try (with_reducible refine Run.ret ?_)
            apply zz
            refine LoopK.nm (n - (j + 1)) (by omega) ⟨j + 1, by omega, rfl, by simp [gm], by simp, by simp [g16], by simp [g12], by simp [g11], by simp [g0], by simp [g1], by simp [g3], by simp [g4], by simp [g5], ?_, by (try simp only [pushed_next', upded_next']); omega, fun i hi hx => ?_, ?_, ⟨by (try simp only [pushed_next', upded_next']); omega, ?_⟩, hJs k s2 _ gJ (by (try simp only [pushed_next', upded_next']); omega) fun i hi => ?_⟩
            · rw [hcn]
              rcases hU with ⟨hce, hw⟩ | ⟨bu, hw, hne, hb1, hb2, hb3⟩
              · exact .inl ⟨hce, by simp [hw]⟩
              · exact .inr ⟨bu, by simp [hw], hne, hb1, by omega, by rw [qb _ hb2]; exact hb3⟩
            · rw [← gold i hi hx]; simp -implicitDefEqProofs (disch := omega) [qb]
            · simp -implicitDefEqProofs (disch := omega) [qb, ggh]
            · simp -implicitDefEqProofs (disch := omega) [qb, gHA.2]
            · simp -implicitDefEqProofs (disch := omega) [qb]
        · simp at d0; omega
      · obtain rfl : j = n := by omega
        apply zz
        refine Cd.ra (h := ?_)
        apply Run.by_eq
        · intro self
          conv => lhs; simp -implicitDefEqProofs (maxSteps := 300000) (disch := omega) [-getElem?_pos, -getElem?_neg, g17, g16]
        try (with_reducible refine Run.ret ?_)
        apply zz
        apply Cd.ite rfl
        · conv => lhs; simp -implicitDefEqProofs (maxSteps := 300000) (disch := omega) [-getElem?_pos, -getElem?_neg]
        all_goals intro d0
        all_goals try (cases d0; done)
        all_goals try simp only [Bool.not_eq_true', Bool.not_eq_false', decide_eq_true_eq, decide_eq_false_iff_not] at d0
        all_goals apply zz
        obtain ⟨hd, tl, hcl⟩ : ∃ hd tl, clsN rt k j = hd :: tl := by
          cases hc : clsN rt k j with
          | nil => exact absurd hc (cls_self rt hlt)
          | cons a l => exact ⟨a, l, rfl⟩
        have hints := hU.ints
        rcases hU with ⟨hce, hw⟩ | ⟨bu, hw, hne, hb1, hb2, hb3⟩
        · rw [hcl] at hce; cases hce
        rw [hcl] at hb3 hw
        simp only [List.map_cons, List.length_cons] at hb3 hw
        rw [hw] at hints
        have hskipEnd : isLead rt j k = false → ∀ (f3 : Fr) (s3 : St), f3.marks = [] → f3.get 12 = .int .i64 k → f3.get 11 = .int .i64 j → f3.get 0 = yv → f3.get 1 = .pointer (some ⟨bp, 0, none⟩) → f3.get 3 = .pointer (some ⟨w1.next, 0, none⟩) → f3.get 4 = .int .i64 (leads rt j k).length → Keep s2 s3 →
            ∃ k' : Nat, k' = k + 1 ∧ (leads rt j k').length = (leads rt j k).length ∧ w1.next < s3.next ∧ (∀ i, i < s.next → ¬ X i → s3.heap.get i = s.heap.get i) ∧ s3.heap.get w1.next = some (.cells [.map (some b)] none) ∧ HeadsAt s3 b es ∧ J k' s3 := fun hL f3 s3 _ _ _ _ _ _ _ hk3 => by
          refine ⟨k + 1, rfl, by rw [leads_succ, hL]; rfl, Nat.lt_of_lt_of_le gnx hk3.1, fun i hi hx => (hk3.2 i (by omega)).trans (gold i hi hx), (hk3.2 _ gnx).trans ggh, gHA.keep hk3, hskip k s3 hlt hL (hJs k s2 s3 gJ hk3.1 fun i hi => hk3.2 i (by omega))⟩
        by_cases hdk : hd = (k : Int)
        · subst hdk
          apply zz
          refine Cd.ra (h := ?_)
          apply Run.by_eq
          · intro self
            conv => lhs; simp -implicitDefEqProofs (maxSteps := 300000) (disch := omega) [-getElem?_pos, -getElem?_neg, hw, hb3, g5, g3, ggh]
          try (with_reducible refine Run.ret ?_)
          apply zz
          refine Run.call ((joined_ev b es rt k (-1) _ gHA hF).mono fun v wq hv => ?_)
          obtain ⟨rfl, q⟩ := hv
          have qa := q.1
          have qb := q.2
          try simp only [pushed_next', upded_next'] at qa qb
          apply Run.by_eq
          · intro self
            conv => lhs; simp -implicitDefEqProofs (maxSteps := 300000) (disch := omega) [-getElem?_pos, -getElem?_neg]
          try (with_reducible refine Run.ret ?_)
          apply zz
          by_cases hro : rt k = rt (-1)
          · have hL : isLead rt j k = false := by unfold isLead; simp [hro]
            apply zz
            apply Cd.ite rfl
            · conv => lhs; simp -implicitDefEqProofs (maxSteps := 300000) (disch := omega) [-getElem?_pos, -getElem?_neg, hro]
            all_goals intro d2
            all_goals try (cases d2; done)
            all_goals try simp only [Bool.not_eq_true', Bool.not_eq_false', decide_eq_true_eq, decide_eq_false_iff_not] at d2
            all_goals apply zz
            apply zz
            refine Cd.ra (h := ?_)
            apply Run.by_eq
            · intro self
              conv => lhs; simp -implicitDefEqProofs (maxSteps := 300000) (disch := omega) [-getElem?_pos, -getElem?_neg, g12]
            try (with_reducible refine Run.ret ?_)
            apply zz
            obtain ⟨k', rfl, e1, e2, e3, e4, e5, e6⟩ := hskipEnd hL f2 wq gm g12 g11 g0 g1 g3 g4 q
            exact LoopK.nm (j - (k + 1)) (by omega) ⟨k + 1, by omega, rfl, by simp [gm], by simp, by simp [g11], by simp [g0], by simp [g1], by simp [g3], by simp [g4, e1], e2, e3, e4, e5, e6⟩
          · have hL : isLead rt j k = true := by unfold isLead; simp [hro, hcl]
            apply zz
            apply Cd.ite rfl
            · conv => lhs; simp -implicitDefEqProofs (maxSteps := 300000) (disch := omega) [-getElem?_pos, -getElem?_neg, hro]
            all_goals intro d2
            all_goals try (cases d2; done)
            all_goals try simp only [Bool.not_eq_true', Bool.not_eq_false', decide_eq_true_eq, decide_eq_false_iff_not] at d2
            all_goals apply zz
            apply zz
            refine Cd.ra (h := ?_)
            apply Run.by_eq
            · intro self
              conv => lhs; simp -implicitDefEqProofs (maxSteps := 300000) (disch := omega) [-getElem?_pos, -getElem?_neg, g0, g4, hw]
            try (with_reducible refine Run.ret ?_)
            apply zz
            refine Run.callV ((hyield k wq _ hlt hL (hJs k s2 wq gJ q.1 fun i hi => q.2 i (by omega)) (by omega) (hints.keep q) ⟨bu, by omega, by rw [hcl]; rfl⟩).mono fun p hp => ?_)
            obtain ⟨pv, ps⟩ := p
            obtain ⟨p1, p2, p3⟩ := hp
            simp only [] at p1 p2 p3
            have hll : (leads rt j k).length ≤ k := by unfold leads; exact Nat.le_trans (List.length_filter_le _ _) (by simp)
            have hXo : ∀ i, s.next ≤ i → ¬ X i := fun i hi hx => absurd (hX i hx) (by omega)
            rcases p1 with ⟨rfl, p1⟩ | ⟨rfl, p1⟩
            · apply Run.by_eq
              · intro self
                conv => lhs; simp -implicitDefEqProofs (maxSteps := 300000) (disch := omega) [-getElem?_pos, -getElem?_neg]
              try (with_reducible refine Run.ret ?_)
              apply zz
              apply Cd.ite rfl
              · conv => lhs; simp -implicitDefEqProofs (maxSteps := 300000) (disch := omega) [-getElem?_pos, -getElem?_neg]
              all_goals intro d3
              all_goals try (cases d3; done)
              all_goals try simp only [Bool.not_eq_true', Bool.not_eq_false', decide_eq_true_eq, decide_eq_false_iff_not] at d3
              all_goals apply zz
              apply zz
              refine Cd.ra (h := ?_)
              apply Run.by_eq
              · intro self
                conv => lhs; simp -implicitDefEqProofs (maxSteps := 300000) (disch := omega) [-getElem?_pos, -getElem?_neg, g4]
              try (with_reducible refine Run.ret ?_)
              apply zz
              refine Cd.ra (h := ?_)
              apply Run.by_eq
              · intro self
                conv => lhs; simp -implicitDefEqProofs (maxSteps := 300000) (disch := omega) [-getElem?_pos, -getElem?_neg, g12]
              try (with_reducible refine Run.ret ?_)
              apply zz
              refine LoopK.nm (j - (k + 1)) (by omega) ⟨k + 1, by omega, rfl, by simp [gm], by simp, by simp [g11], by simp [g0], by simp [g1], by simp [g3], ?_, by omega, fun i hi hx => ?_, ?_, ⟨by omega, ?_⟩, p1⟩
              · rw [leads_succ, hL]; simp
              · rw [p3 i (by omega) hx, qb i (by omega)]; exact gold i hi hx
              · rw [p3 _ (by omega) (hXo _ (by omega)), qb _ (by omega)]; exact ggh
              · rw [p3 _ (by omega) (hXo _ hbs), qb _ (by omega)]; exact gHA.2
            · apply Run.by_eq
              · intro self
                conv => lhs; simp -implicitDefEqProofs (maxSteps := 300000) (disch := omega) [-getElem?_pos, -getElem?_neg]
              try (with_reducible refine Run.ret ?_)
              apply zz
              apply Cd.ite rfl
              · conv => lhs; simp -implicitDefEqProofs (maxSteps := 300000) (disch := omega) [-getElem?_pos, -getElem?_neg]
              all_goals intro d3
              all_goals try (cases d3; done)
              all_goals try simp only [Bool.not_eq_true', Bool.not_eq_false', decide_eq_true_eq, decide_eq_false_iff_not] at d3
              all_goals apply zz
              apply Leave.mk (by first | exact .inl rfl | exact .inr rfl) (by simp only [Fr.marks_put, fr0_marks, gm])
              · conv => lhs; simp -implicitDefEqProofs (disch := omega) [Try.results59, gm]
              refine ⟨.inr ⟨k, hlt, hL, p1⟩, by omega, fun i hi hx => ?_⟩
              rw [p3 i (by omega) hx, qb i (by omega)]; exact gold i hi hx
        · have hL : isLead rt j k = false := by unfold isLead; simp [hcl, hdk]
          apply zz
          refine Cd.ra (h := ?_)
          apply Run.by_eq
          · intro self
            conv => lhs; simp -implicitDefEqProofs (maxSteps := 300000) (disch := omega) [-getElem?_pos, -getElem?_neg, hw, hb3, g5, hdk]
          try (with_reducible refine Run.ret ?_)
          apply zz
          apply Cd.ite rfl
          · conv => lhs; simp -implicitDefEqProofs (maxSteps := 300000) (disch := omega) [-getElem?_pos, -getElem?_neg]
          all_goals intro d2
          all_goals try (cases d2; done)
          all_goals try simp only [Bool.not_eq_true', Bool.not_eq_false', decide_eq_true_eq, decide_eq_false_iff_not] at d2
          all_goals apply zz
          apply zz
          refine Cd.ra (h := ?_)
          apply Run.by_eq
          · intro self
            conv => lhs; simp -implicitDefEqProofs (maxSteps := 300000) (disch := omega) [-getElem?_pos, -getElem?_neg, g12]
          try (with_reducible refine Run.ret ?_)
          apply zz
          obtain ⟨k', rfl, e1, e2, e3, e4, e5, e6⟩ := hskipEnd hL f2 s2 gm g12 g11 g0 g1 g3 g4 (Keep.refl _)
          exact LoopK.nm (j - (k + 1)) (by omega) ⟨k + 1, by omega, rfl, by simp [gm], by simp, by simp [g11], by simp [g0], by simp [g1], by simp [g3], by simp [g4, e1], e2, e3, e4, e5, e6⟩
    · simp at c0; omega
  · obtain rfl : k = n := by omega
    apply zz
    refine Cd.ra (h := ?_)
    apply Run.by_eq
    · intro self
      conv => lhs; simp -implicitDefEqProofs (maxSteps := 300000) (disch := omega) [-getElem?_pos, -getElem?_neg, h12, h11]
    try (with_reducible refine Run.ret ?_)
    apply zz
    apply Cd.ite rfl
    · conv => lhs; simp -implicitDefEqProofs (maxSteps := 300000) (disch := omega) [-getElem?_pos, -getElem?_neg]
    all_goals intro c0
    all_goals try (cases c0; done)
    all_goals try simp only [Bool.not_eq_true', Bool.not_eq_false', decide_eq_true_eq, decide_eq_false_iff_not] at c0
    all_goals apply zz
    apply Leave.mk (by first | exact .inl rfl | exact .inr rfl) (by simp only [Fr.marks_put, fr0_marks, hm])
    · conv => lhs; simp -implicitDefEqProofs (disch := omega) [Try.results59, hm]
    exact ⟨.inl hJ, by omega, hold⟩
end Go.Proofs.Ytjehpgflhgpalaa
namespace Go.Proofs.Ytjehpgflhgpalaa
open Go Kern
/-- The first kind of which there is something. -/
def nzK (m : Mass) : Option Nat := if m.a ≠ 0 then some 0 else if m.b ≠ 0 then some 1 else if m.c ≠ 0 then some 2 else if m.d ≠ 0 then some 3 else none
theorem nzK_none {m : Mass} : nzK m = none ↔ m = Mass.zero := by
  obtain ⟨a, b, c, d⟩ := m
  unfold nzK Mass.zero
  by_cases ha : a = 0 <;> by_cases hb : b = 0 <;> by_cases hc : c = 0 <;> by_cases hd : d = 0 <;> simp_all
/-- What proves that there is no balance, if it is part k. -/
def provAt (rt : Int → Int) (fs : List FlowD) (n k : Nat) : Option (List Int × Nat) :=
  if isLead rt n k = true then (nzK (excM (clsN rt k n) fs)).map fun j => (clsN rt k n, j) else none
def provF (rt : Int → Int) (fs : List FlowD) (n : Nat) : Nat → Nat → Option (List Int × Nat)
  | 0, _ => none
  | c + 1, k => match provAt rt fs n k with
    | some p => some p
    | none => provF rt fs n c (k + 1)
theorem provF_none {rt : Int → Int} {fs : List FlowD} {n : Nat} : ∀ {c k : Nat}, (∀ j, k ≤ j → j < k + c → provAt rt fs n j = none) → provF rt fs n c k = none
  | 0, _, _ => rfl
  | c + 1, k, h => by
    unfold provF
    rw [h k (Nat.le_refl _) (by omega)]
    exact provF_none fun j h1 h2 => h j (by omega) (by omega)
theorem provF_at {rt : Int → Int} {fs : List FlowD} {n : Nat} {p : List Int × Nat} : ∀ {c i k : Nat}, (∀ j, i ≤ j → j < k → provAt rt fs n j = none) → i ≤ k → k < i + c → provAt rt fs n k = some p → provF rt fs n c i = some p
  | 0, _, _, _, h1, h2, _ => by omega
  | c + 1, i, k, h, h1, h2, hp => by
    unfold provF
    by_cases e : i = k
    · subst e; rw [hp]
    · rw [h i (Nat.le_refl _) (by omega)]
      exact provF_at (fun j a b => h j (by omega) b) (by omega) (by omega) hp
theorem provF_some {rt : Int → Int} {fs : List FlowD} {n : Nat} {p : List Int × Nat} : ∀ {c i : Nat}, provF rt fs n c i = some p → ∃ k, k < i + c ∧ provAt rt fs n k = some p
  | 0, _, h => by cases h
  | c + 1, i, h => by
    unfold provF at h
    split at h
    · rename_i q hq; cases h; exact ⟨i, by omega, hq⟩
    · obtain ⟨k, h1, h2⟩ := provF_some h; exact ⟨k, by omega, h2⟩
/-- What is found: units, kind and error. -/
def proveR (u : Int) (fs : List FlowD) : List Int × Int × Int :=
  if checkErr u fs ≠ 0 then ([], 0, checkErr u fs) else match provF (rtF (-1) fs 0 id) fs u.toNat u.toNat 0 with
    | some p => (p.1, p.2, 0)
    | none => ([], 0, 5)
def leakB (xs : List Int) (f : FlowD) : Bool := !f.me && (decide (f.fr ∈ xs) != decide (f.to ∈ xs))
def refutesR (u : Int) (fs : List FlowD) (xs : List Int) (kind : Int) : Int :=
  if unitsErr u fs xs ≠ 0 then unitsErr u fs xs else if kind < 0 ∨ 4 ≤ kind then 18 else if (excM xs fs).at kind.toNat = 0 ∨ fs.any (leakB xs) = true then 11 else 0
theorem uni_same {rt : Int → Int} {a b x y : Int} (h : rt x = rt y) : uni rt a b x = uni rt a b y := by
  unfold uni
  split
  · exact h
  · simp only [h]
theorem uni_ends (rt : Int → Int) (a b : Int) : uni rt a b a = uni rt a b b := by
  unfold uni
  by_cases h : rt a = rt b
  · rw [if_pos h]; exact h
  · rw [if_neg h]
    simp only [if_true]
    rw [if_neg (fun q => h q.symm)]
theorem rtF_same (lo : Int) {x y : Int} : ∀ (fs : List FlowD) (i : Nat) (rt : Int → Int), rt x = rt y → rtF lo fs i rt x = rtF lo fs i rt y
  | [], _, _, h => h
  | f :: r, i, rt, h => by
    unfold rtF
    refine rtF_same lo r (i + 1) _ ?_
    split
    · exact uni_same h
    · exact h
theorem rtF_ends (lo : Int) : ∀ (fs : List FlowD) (i : Nat) (rt : Int → Int) (k : Nat) (f : FlowD), fs[k]? = some f → f.me = false → ((i + k : Nat) : Int) ≠ lo → rtF lo fs i rt f.fr = rtF lo fs i rt f.to
  | [], _, _, _, _, h, _, _ => by simp at h
  | g :: r, i, rt, 0, f, h, hm, hl => by
    simp at h; subst h
    unfold rtF
    rw [if_pos ⟨hm, hl⟩]
    exact rtF_same lo r (i + 1) _ (uni_ends rt g.fr g.to)
  | g :: r, i, rt, k + 1, f, h, hm, hl => by
    unfold rtF
    exact rtF_ends lo r (i + 1) _ k f (by simpa using h) hm (by rw [show i + 1 + k = i + (k + 1) by omega]; exact hl)
theorem clsN_sorted (rt : Int → Int) (k n : Nat) : (clsN rt k n).Pairwise (· < ·) := by
  unfold clsN
  rw [List.pairwise_map]
  exact (List.pairwise_lt_range.filter _).imp fun h => by omega
end Go.Proofs.Ytjehpgflhgpalaa
namespace Go.Proofs.Ytjehpgflhgpalaa
open Go Kern
/-- What is joined by flows that may be used. -/
inductive Path (fs : List FlowD) (E : Nat → Prop) (x : Int) : Int → Prop
  | refl : Path fs E x x
  | step {y z : Int} (j : Nat) (f : FlowD) (h : Path fs E x y) (hj : fs[j]? = some f) (he : E j) (hz : (f.fr = y ∧ f.to = z) ∨ (f.fr = z ∧ f.to = y)) : Path fs E x z
section
variable {fs : List FlowD} {E E' : Nat → Prop} {x y z : Int}
theorem Path.trans (h : Path fs E x y) (k : Path fs E y z) : Path fs E x z := by
  induction k with
  | refl => exact h
  | step j f _ hj he hz ih => exact .step j f ih hj he hz
theorem Path.symm (h : Path fs E x y) : Path fs E y x := by
  induction h with
  | refl => exact .refl
  | step j f _ hj he hz ih => exact Path.trans (.step j f .refl hj he (by rcases hz with ⟨a, b⟩ | ⟨a, b⟩; exact .inr ⟨a, b⟩; exact .inl ⟨a, b⟩)) ih
theorem Path.mono (h : Path fs E x y) (k : ∀ j f, fs[j]? = some f → E j → E' j) : Path fs E' x y := by
  induction h with
  | refl => exact .refl
  | step j f _ hj he hz ih => exact .step j f ih hj (k j f hj he) hz
theorem Path.one {j : Nat} {f : FlowD} (hj : fs[j]? = some f) (he : E j) : Path fs E f.fr f.to := .step j f .refl hj he (.inl ⟨rfl, rfl⟩)
theorem Path.split {k : Nat} {f : FlowD} (hk : fs[k]? = some f) (h : Path fs (fun j => E j ∨ j = k) x y) : Path fs E x y ∨ (Path fs E x f.fr ∧ Path fs E f.to y) ∨ (Path fs E x f.to ∧ Path fs E f.fr y) := by
  induction h with
  | refl => exact .inl .refl
  | step j g _ hj he hz ih =>
    by_cases e : E j
    · rcases ih with h | ⟨h1, h2⟩ | ⟨h1, h2⟩
      · exact .inl (.step j g h hj e hz)
      · exact .inr (.inl ⟨h1, .step j g h2 hj e hz⟩)
      · exact .inr (.inr ⟨h1, .step j g h2 hj e hz⟩)
    · obtain rfl : j = k := he.resolve_left e
      rw [hk] at hj; cases hj
      rcases hz with ⟨rfl, rfl⟩ | ⟨rfl, rfl⟩ <;> rcases ih with h | ⟨h1, h2⟩ | ⟨h1, h2⟩
      · exact .inr (.inl ⟨h, .refl⟩)
      · exact .inr (.inl ⟨h1, .refl⟩)
      · exact .inl h1
      · exact .inr (.inr ⟨h, .refl⟩)
      · exact .inl h1
      · exact .inr (.inr ⟨h1, .refl⟩)
theorem Path.absorb {k : Nat} {f : FlowD} (hk : fs[k]? = some f) (hab : Path fs E f.fr f.to) (h : Path fs (fun j => E j ∨ j = k) x y) : Path fs E x y := by
  rcases h.split hk with h | ⟨h1, h2⟩ | ⟨h1, h2⟩
  · exact h
  · exact h1.trans (hab.trans h2)
  · exact h1.trans (hab.symm.trans h2)
end
/-- The flows that are not measured, but one. -/
def Unm (fs : List FlowD) (lo : Int) (j : Nat) : Prop := (∃ f, fs[j]? = some f ∧ f.me = false) ∧ (j : Int) ≠ lo
theorem uni_iff (rt : Int → Int) (a b x y : Int) : uni rt a b x = uni rt a b y ↔ rt x = rt y ∨ (rt x = rt a ∧ rt b = rt y) ∨ (rt x = rt b ∧ rt a = rt y) := by
  unfold uni
  by_cases h : rt a = rt b
  · rw [if_pos h]
    constructor
    · exact .inl
    · rintro (h1 | ⟨h1, h2⟩ | ⟨h1, h2⟩)
      · exact h1
      · rw [h1, h, h2]
      · rw [h1, ← h, h2]
  · rw [if_neg h]
    by_cases hx : rt x = rt a
    · by_cases hy : rt y = rt a
      · simp [hx, hy]
      · simp only [hx, hy, if_true, if_false, true_and]
        constructor
        · exact fun h => .inr (.inl h)
        · rintro (h1 | h1 | ⟨_, h1⟩)
          · exact absurd h1.symm hy
          · exact h1
          · exact absurd h1.symm hy
    · by_cases hy : rt y = rt a
      · simp [hx, hy]
      · simp [hx, hy]
        intro _ h1
        exact absurd h1.symm hy
theorem rt_path (fs : List FlowD) (lo : Int) : ∀ (k : Nat) (x y : Int), rtF lo (fs.take k) 0 id x = rtF lo (fs.take k) 0 id y ↔ Path fs (fun j => j < k ∧ Unm fs lo j) x y
  | 0, x, y => by
    rw [List.take_zero]
    constructor
    · intro h
      obtain rfl : x = y := h
      exact .refl
    · intro h
      have : ∀ {x y}, Path fs (fun j => j < 0 ∧ Unm fs lo j) x y → x = y := fun h => by
        cases h with
        | refl => rfl
        | step j f _ _ he _ => exact absurd he.1 (by omega)
      rw [this h]
  | k + 1, x, y => by
    cases hk : fs[k]? with
    | none =>
      have : fs.take (k + 1) = fs.take k := by
        rw [List.getElem?_eq_none_iff] at hk
        rw [List.take_of_length_le (by omega), List.take_of_length_le hk]
      rw [this, rt_path fs lo k x y]
      constructor <;> refine fun h => h.mono fun j f hj he => ⟨?_, he.2⟩
      · have := he.1; omega
      · have := he.1
        have h2 : j ≠ k := fun e => by subst e; rw [hk] at hj; cases hj
        omega
    | some f =>
      rw [rtF_take lo fs 0 id k f hk, Nat.zero_add]
      unfold rtStep
      by_cases hu : f.me = false ∧ (k : Int) ≠ lo
      · rw [if_pos hu, uni_iff, rt_path fs lo k x y, rt_path fs lo k x f.fr, rt_path fs lo k f.to y, rt_path fs lo k x f.to, rt_path fs lo k f.fr y]
        have hE : ∀ {x y}, Path fs (fun j => j < k + 1 ∧ Unm fs lo j) x y ↔ Path fs (fun j => (j < k ∧ Unm fs lo j) ∨ j = k) x y := fun {x y} => by
          constructor <;> refine fun h => h.mono fun j g hj he => ?_
          · by_cases e : j = k
            · exact .inr e
            · exact .inl ⟨by have := he.1; omega, he.2⟩
          · rcases he with he | rfl
            · exact ⟨by have := he.1; omega, he.2⟩
            · exact ⟨by omega, ⟨f, hk, hu.1⟩, hu.2⟩
        have hin : ∀ {x y}, Path fs (fun j => j < k ∧ Unm fs lo j) x y → Path fs (fun j => (j < k ∧ Unm fs lo j) ∨ j = k) x y := fun h => h.mono fun j g _ he => .inl he
        have hed : Path fs (fun j => (j < k ∧ Unm fs lo j) ∨ j = k) f.fr f.to := Path.one hk (.inr rfl)
        rw [hE]
        constructor
        · rintro (h | ⟨h1, h2⟩ | ⟨h1, h2⟩)
          · exact hin h
          · exact (hin h1).trans (hed.trans (hin h2))
          · exact (hin h1).trans (hed.symm.trans (hin h2))
        · exact fun h => h.split hk
      · rw [if_neg hu, rt_path fs lo k x y]
        constructor <;> refine fun h => h.mono fun j g hj he => ⟨?_, he.2⟩
        · have := he.1; omega
        · have h1 := he.1
          have h2 : j ≠ k := fun e => by
            subst e
            obtain ⟨⟨g', hg', hm⟩, hne⟩ := he.2
            rw [hk] at hg'; cases hg'
            exact hu ⟨hm, hne⟩
          omega
theorem rt_path_all (fs : List FlowD) (lo : Int) (x y : Int) : rtF lo fs 0 id x = rtF lo fs 0 id y ↔ Path fs (Unm fs lo) x y := by
  have := rt_path fs lo fs.length x y
  rw [List.take_length] at this
  rw [this]
  constructor <;> refine fun h => h.mono fun j f hj he => ?_
  · exact he.2
  · exact ⟨(List.getElem?_eq_some_iff.1 hj).1, he⟩
/-- The flows of the forest. -/
def chB (fs : List FlowD) (j : Nat) : Bool := match fs[j]? with
  | some f => !f.me && !decide (rtF (-1) (fs.take j) 0 id f.fr = rtF (-1) (fs.take j) 0 id f.to)
  | none => false
theorem chB_some {fs : List FlowD} {j : Nat} {f : FlowD} (hj : fs[j]? = some f) : chB fs j = (!f.me && !decide (rtF (-1) (fs.take j) 0 id f.fr = rtF (-1) (fs.take j) 0 id f.to)) := by unfold chB; rw [hj]
theorem chB_unm {fs : List FlowD} {j : Nat} (h : chB fs j = true) : Unm fs (-1) j := by
  unfold chB at h
  split at h
  · rename_i f hf
    simp only [Bool.and_eq_true, Bool.not_eq_true'] at h
    exact ⟨⟨f, hf, h.1⟩, by omega⟩
  · cases h
theorem forest_path (fs : List FlowD) : ∀ (k : Nat) (x y : Int), Path fs (fun j => j < k ∧ Unm fs (-1) j) x y ↔ Path fs (fun j => j < k ∧ chB fs j = true) x y := fun k => by
  induction k with
  | zero => intro x y; constructor <;> exact fun h => h.mono fun j f _ he => absurd he.1 (by omega)
  | succ k ih =>
    intro x y
    constructor
    · intro h
      have h' : Path fs (fun j => (j < k ∧ Unm fs (-1) j) ∨ j = k) x y := h.mono fun j f _ he => by
        by_cases e : j = k
        · exact .inr e
        · exact .inl ⟨by have := he.1; omega, he.2⟩
      have up : ∀ {x y}, Path fs (fun j => j < k ∧ chB fs j = true) x y → Path fs (fun j => j < k + 1 ∧ chB fs j = true) x y := fun h => h.mono fun j f _ he => ⟨by have := he.1; omega, he.2⟩
      cases hk : fs[k]? with
      | none =>
        refine up ((ih x y).1 (h'.mono fun j f hj he => ?_))
        rcases he with he | rfl
        · exact he
        · rw [hk] at hj; cases hj
      | some f =>
        by_cases hm : f.me = false
        · by_cases hr : rtF (-1) (fs.take k) 0 id f.fr = rtF (-1) (fs.take k) 0 id f.to
          · exact up ((ih x y).1 (Path.absorb hk ((rt_path fs (-1) k _ _).1 hr) h'))
          · have hc : chB fs k = true := by rw [chB_some hk, hm]; simp [hr]
            have hed : Path fs (fun j => j < k + 1 ∧ chB fs j = true) f.fr f.to := Path.one hk ⟨by omega, hc⟩
            rcases h'.split hk with h | ⟨h1, h2⟩ | ⟨h1, h2⟩
            · exact up ((ih x y).1 h)
            · exact (up ((ih _ _).1 h1)).trans (hed.trans (up ((ih _ _).1 h2)))
            · exact (up ((ih _ _).1 h1)).trans (hed.symm.trans (up ((ih _ _).1 h2)))
        · refine up ((ih x y).1 (h.mono fun j g hj he => ⟨?_, he.2⟩))
          have h1 := he.1
          have h2 : j ≠ k := fun e => by
            subst e
            obtain ⟨⟨g', hg', hm'⟩, _⟩ := he.2
            rw [hk] at hg'; cases hg'
            exact hm hm'
          omega
    · exact fun h => h.mono fun j f _ he => ⟨he.1, chB_unm he.2⟩
theorem forest_all (fs : List FlowD) (x y : Int) : rtF (-1) fs 0 id x = rtF (-1) fs 0 id y ↔ Path fs (fun j => chB fs j = true) x y := by
  rw [rt_path_all]
  have := forest_path fs fs.length x y
  constructor
  · intro h
    exact (this.1 (h.mono fun j f hj he => ⟨(List.getElem?_eq_some_iff.1 hj).1, he⟩)).mono fun j f _ he => he.2
  · exact fun h => h.mono fun j f _ he => chB_unm he
/-- Without a flow of the forest its ends are not joined by the others. -/
theorem forest_cut (fs : List FlowD) : ∀ (k i : Nat) (f : FlowD), i < k → fs[i]? = some f → chB fs i = true → ¬ Path fs (fun j => j < k ∧ chB fs j = true ∧ j ≠ i) f.fr f.to := fun k => by
  induction k with
  | zero => intro i f h; omega
  | succ k ih =>
    intro i f hi hf hc h
    have hnr : ∀ {k : Nat} {g : FlowD}, fs[k]? = some g → chB fs k = true → ¬ Path fs (fun j => j < k ∧ chB fs j = true) g.fr g.to := fun {k g} hg hcg hp => by
      rw [← forest_path, ← rt_path] at hp
      rw [chB_some hg, hp] at hcg
      simp at hcg
    by_cases e : i = k
    · subst e
      exact hnr hf hc (h.mono fun j g _ he => ⟨by have := he.1; have := he.2.2; omega, he.2.1⟩)
    · have hik : i < k := by omega
      by_cases hck : chB fs k = true
      · obtain ⟨g, hg⟩ : ∃ g, fs[k]? = some g := by
          obtain ⟨⟨g, hg, _⟩, _⟩ := chB_unm hck
          exact ⟨g, hg⟩
        have h' : Path fs (fun j => (j < k ∧ chB fs j = true ∧ j ≠ i) ∨ j = k) f.fr f.to := h.mono fun j g _ he => by
          by_cases e : j = k
          · exact .inr e
          · exact .inl ⟨by have := he.1; omega, he.2⟩
        have up : ∀ {x y}, Path fs (fun j => j < k ∧ chB fs j = true ∧ j ≠ i) x y → Path fs (fun j => j < k ∧ chB fs j = true) x y := fun h => h.mono fun j f _ he => ⟨he.1, he.2.1⟩
        have hed : Path fs (fun j => j < k ∧ chB fs j = true) f.fr f.to := Path.one hf ⟨hik, hc⟩
        rcases h'.split hg with h | ⟨h1, h2⟩ | ⟨h1, h2⟩
        · exact ih i f hik hf hc h
        · exact hnr hg hck ((up h1).symm.trans (hed.trans (up h2).symm))
        · exact hnr hg hck ((up h2).trans (hed.symm.trans (up h1)))
      · refine ih i f hik hf hc (h.mono fun j g hj he => ⟨?_, he.2⟩)
        have h1 := he.1
        have h2 : j ≠ k := fun e => by subst e; exact hck he.2.1
        omega
/-- The flows of the forest, without one. -/
def FE (fs : List FlowD) (b : Int) (j : Nat) : Prop := chB fs j = true ∧ (j : Int) ≠ b
theorem FE_cut {fs : List FlowD} {i : Nat} {f : FlowD} (hf : fs[i]? = some f) (hc : chB fs i = true) : ¬ Path fs (FE fs i) f.fr f.to := fun h =>
  forest_cut fs fs.length i f (List.getElem?_eq_some_iff.1 hf).1 hf hc (h.mono fun j g hj he => ⟨(List.getElem?_eq_some_iff.1 hj).1, he.1, fun e => he.2 (by rw [e])⟩)
/-- Ends of a flow. -/
def Ends (f : FlowD) (e w : Int) : Prop := (f.fr = e ∧ f.to = w) ∨ (f.fr = w ∧ f.to = e)
theorem Ends.symm {f : FlowD} {e w : Int} (h : Ends f e w) : Ends f w e := by
  rcases h with ⟨a, b⟩ | ⟨a, b⟩
  · exact .inr ⟨a, b⟩
  · exact .inl ⟨a, b⟩
theorem FE_cut2 {fs : List FlowD} {i : Nat} {f : FlowD} {e w : Int} (hf : fs[i]? = some f) (hc : chB fs i = true) (he : Ends f e w) : ¬ Path fs (FE fs i) w e := fun h => by
  rcases he with ⟨rfl, rfl⟩ | ⟨rfl, rfl⟩
  · exact FE_cut hf hc h.symm
  · exact FE_cut hf hc h
/-- What hangs on an end behind a flow hangs on it. -/
theorem sub_path {fs : List FlowD} {i : Nat} {f : FlowD} {b e w : Int} (hf : fs[i]? = some f) (hc : chB fs i = true) (he : Ends f e w) (hib : (i : Int) ≠ b) (hb : ∀ (j : Nat) (g : FlowD), (j : Int) = b → fs[j]? = some g → g.fr = e ∨ g.to = e) {y : Int} (h : Path fs (FE fs i) w y) :
    Path fs (FE fs b) e y ∧ y ≠ e := by
  have hne : ∀ {y}, Path fs (FE fs i) w y → y ≠ e := fun h e' => by subst e'; exact FE_cut2 hf hc he h
  refine ⟨?_, hne h⟩
  induction h with
  | refl => exact .step i f .refl hf ⟨hc, hib⟩ he
  | step j g h hj hfe hz ih =>
    refine .step j g ih hj ⟨hfe.1, fun e' => ?_⟩ hz
    have h1 := hne h
    have h2 := hne (Path.step j g h hj hfe hz)
    rcases hb j g e' hj with q | q <;> rcases hz with ⟨a, c⟩ | ⟨a, c⟩
    · exact h1 (a.symm.trans q)
    · exact h2 (a.symm.trans q)
    · exact h2 (c.symm.trans q)
    · exact h1 (c.symm.trans q)
/-- What hangs on an end behind two flows is apart. -/
theorem sub_apart {fs : List FlowD} {i i' : Nat} {f f' : FlowD} {e w w' : Int} (hf : fs[i]? = some f) (hc : chB fs i = true) (he : Ends f e w) (hf' : fs[i']? = some f') (hc' : chB fs i' = true) (he' : Ends f' e w') (hne : i ≠ i') {y : Int}
    (h : Path fs (FE fs i) w y) (h' : Path fs (FE fs i') w' y) : False := by
  have hi : (i : Int) ≠ i' := by omega
  have inc : ∀ (j : Nat) (g : FlowD), (j : Int) = (i : Int) → fs[j]? = some g → g.fr = e ∨ g.to = e := fun j g hj hg => by
    obtain rfl : j = i := by omega
    rw [hf] at hg; cases hg
    rcases he with ⟨a, _⟩ | ⟨_, a⟩
    · exact .inl a
    · exact .inr a
  -- from the end, over the other flow, to y: never over this flow
  have h1 := (sub_path (b := i) hf' hc' he' (fun q => hi q.symm) inc h').1
  exact FE_cut2 hf hc he (h.trans h1.symm)
end Go.Proofs.Ytjehpgflhgpalaa
namespace Go.Proofs.Ytjehpgflhgpalaa
open Go Kern
/-! Masses as sums -/
theorem Mass.ext' {m p : Mass} (h1 : m.a = p.a) (h2 : m.b = p.b) (h3 : m.c = p.c) (h4 : m.d = p.d) : m = p := by
  cases m; cases p; simp_all
theorem Mass.add_zero (m : Mass) : m.add Mass.zero = m := by apply Mass.ext' <;> simp [Mass.add, Mass.zero]
theorem Mass.zero_add (m : Mass) : Mass.zero.add m = m := by apply Mass.ext' <;> simp [Mass.add, Mass.zero]
theorem Mass.add_assoc (m p q : Mass) : (m.add p).add q = m.add (p.add q) := by apply Mass.ext' <;> simp [Mass.add, Int.add_assoc]
theorem Mass.add_comm (m p : Mass) : m.add p = p.add m := by apply Mass.ext' <;> simp [Mass.add, Int.add_comm]
theorem Mass.add_neg (m : Mass) : m.add (Mass.zero.sub m) = Mass.zero := by apply Mass.ext' <;> simp [Mass.add, Mass.sub, Mass.zero] <;> omega
theorem Mass.add_swap (m p q r : Mass) : (m.add p).add (q.add r) = (m.add q).add (p.add r) := by apply Mass.ext' <;> simp [Mass.add] <;> omega
theorem Mass.neg_neg (m : Mass) : Mass.zero.sub (Mass.zero.sub m) = m := by apply Mass.ext' <;> simp [Mass.sub, Mass.zero]
theorem Mass.add_sub_eq (m p : Mass) : m.sub p = m.add (Mass.zero.sub p) := by apply Mass.ext' <;> simp [Mass.add, Mass.sub, Mass.zero] <;> omega
theorem Mass.le_zero {B : Int} (h : 0 ≤ B) : Mass.zero.le B := by simp [Mass.le, Mass.zero]; omega
theorem Mass.le_neg {m : Mass} {B : Int} (h : m.le B) : (Mass.zero.sub m).le B := by
  unfold Mass.le Mass.sub Mass.zero at *; simp only []; omega
def sumN (g : Nat → Mass) : Nat → Mass
  | 0 => Mass.zero
  | k + 1 => (sumN g k).add (g k)
theorem sumN_congr {g h : Nat → Mass} : ∀ {k : Nat}, (∀ j, j < k → g j = h j) → sumN g k = sumN h k
  | 0, _ => rfl
  | k + 1, hc => by
    unfold sumN
    rw [sumN_congr fun j hj => hc j (by omega), hc k (by omega)]
theorem sumN_add (g h : Nat → Mass) : ∀ k, sumN (fun j => (g j).add (h j)) k = (sumN g k).add (sumN h k)
  | 0 => (Mass.add_zero _).symm
  | k + 1 => by unfold sumN; rw [sumN_add g h k, Mass.add_swap]
theorem sumN_zero : ∀ k, sumN (fun _ => Mass.zero) k = Mass.zero
  | 0 => rfl
  | k + 1 => by unfold sumN; rw [sumN_zero k, Mass.add_zero]
theorem sumN_one {g : Nat → Mass} {i : Nat} : ∀ {k : Nat}, i < k → (∀ j, j < k → j ≠ i → g j = Mass.zero) → sumN g k = g i
  | 0, h, _ => by omega
  | k + 1, h, hz => by
    unfold sumN
    by_cases e : i = k
    · subst e
      rw [sumN_congr (h := fun _ => Mass.zero) fun j hj => hz j (by omega) (by omega), sumN_zero, Mass.zero_add]
    · rw [sumN_one (by omega) fun j hj hji => hz j (by omega) hji, hz k (by omega) (by omega), Mass.add_zero]
theorem sumN_take {α : Type} (c : α → Mass) : ∀ (l : List α) (k : Nat), k ≤ l.length → sumN (fun j => match l[j]? with | some x => c x | none => Mass.zero) k = (l.take k).foldl (fun a x => a.add (c x)) Mass.zero
  | l, 0, _ => by simp [sumN]
  | l, k + 1, h => by
    have hk : l[k]? = some l[k] := List.getElem?_eq_getElem (by omega)
    unfold sumN
    rw [sumN_take c l k (by omega), fold_take _ _ _ hk, hk]
/-- What a flow with some masses brings to an end. -/
def brings (f : FlowD) (v : Int) (m : Mass) : Mass := if f.to = v then m else if f.fr = v then Mass.zero.sub m else Mass.zero
/-- What it brings to a set of ends. -/
def bringsL (f : FlowD) (xs : List Int) (m : Mass) : Mass := if f.to ∈ xs then (if f.fr ∈ xs then Mass.zero else m) else if f.fr ∈ xs then Mass.zero.sub m else Mass.zero
theorem bringsL_one {f : FlowD} (hne : f.fr ≠ f.to) (v : Int) (m : Mass) : bringsL f [v] m = brings f v m := by
  unfold bringsL brings
  by_cases h1 : f.to = v
  · have h2 : ¬ f.fr = v := fun e => hne (e.trans h1.symm)
    simp [h1, h2]
  · simp [h1]
theorem excStep_brings (xs : List Int) (acc : Mass) (f : FlowD) : excStep xs acc f = acc.add (if f.me = true then bringsL f xs f.m else Mass.zero) := by
  unfold excStep bringsL
  by_cases hm : f.me = true
  · simp only [hm, if_true]
    by_cases h1 : f.fr ∈ xs <;> by_cases h2 : f.to ∈ xs <;> simp only [h1, h2, if_true, if_false]
    · rw [Mass.add_sub, Mass.add_zero]
    · exact Mass.add_sub_eq _ _
    · rw [Mass.add_zero]
  · rw [if_neg hm, if_neg hm, Mass.add_zero]
theorem excM_sum (xs : List Int) (fs : List FlowD) : excM xs fs = sumN (fun j => match fs[j]? with | some f => (if f.me = true then bringsL f xs f.m else Mass.zero) | none => Mass.zero) fs.length := by
  have h := sumN_take (fun f => if f.me = true then bringsL f xs f.m else Mass.zero) fs fs.length (Nat.le_refl _)
  rw [List.take_length] at h
  refine Eq.trans (Eq.trans ?_ h.symm) (sumN_congr fun j _ => by cases fs[j]? <;> rfl)
  unfold excM
  congr 1
  funext a f
  exact excStep_brings xs a f
/-! What comes to an end -/
/-- By a flow of the forest. -/
def contr (fs : List FlowD) (B : Nat → Mass) (v : Int) (j : Nat) : Mass := match fs[j]? with
  | some f => if chB fs j = true then brings f v (B j) else Mass.zero
  | none => Mass.zero
/-- By what is measured and by the first k flows of the forest, but one. -/
def netx (fs : List FlowD) (B : Nat → Mass) (v b : Int) (k : Nat) : Mass := (excM [v] fs).add (sumN (fun j => if (j : Int) = b then Mass.zero else contr fs B v j) k)
def netB (fs : List FlowD) (B : Nat → Mass) (v : Int) : Mass := netx fs B v (-1) fs.length
theorem contr_congr {fs : List FlowD} {B B' : Nat → Mass} {v : Int} {j : Nat} (h : ∀ f, fs[j]? = some f → chB fs j = true → (f.fr = v ∨ f.to = v) → B j = B' j) : contr fs B v j = contr fs B' v j := by
  unfold contr
  cases hj : fs[j]? with
  | none => rfl
  | some f =>
    simp only []
    split
    · rename_i hc
      unfold brings
      by_cases h1 : f.to = v
      · rw [if_pos h1, if_pos h1, h f hj hc (.inr h1)]
      · rw [if_neg h1, if_neg h1]
        by_cases h2 : f.fr = v
        · rw [if_pos h2, if_pos h2, h f hj hc (.inl h2)]
        · rw [if_neg h2, if_neg h2]
    · rfl
theorem netx_congr {fs : List FlowD} {B B' : Nat → Mass} {v b : Int} {k : Nat} (h : ∀ j f, j < k → (j : Int) ≠ b → fs[j]? = some f → chB fs j = true → (f.fr = v ∨ f.to = v) → B j = B' j) : netx fs B v b k = netx fs B' v b k := by
  unfold netx
  congr 1
  refine sumN_congr fun j hj => ?_
  by_cases e : (j : Int) = b
  · rw [if_pos e, if_pos e]
  · rw [if_neg e, if_neg e]
    exact contr_congr fun f hf hc hv => h j f hj e hf hc hv
theorem netx_succ (fs : List FlowD) (B : Nat → Mass) (v b : Int) (k : Nat) : netx fs B v b (k + 1) = (netx fs B v b k).add (if (k : Int) = b then Mass.zero else contr fs B v k) := by
  unfold netx
  rw [Mass.add_assoc]; rfl
theorem netB_split {fs : List FlowD} {B : Nat → Mass} {v : Int} {i : Nat} (hi : i < fs.length) : netB fs B v = (netx fs B v i fs.length).add (contr fs B v i) := by
  unfold netB netx
  rw [Mass.add_assoc]
  congr 1
  have h1 : sumN (fun j => if (j : Int) = (i : Int) then contr fs B v j else Mass.zero) fs.length = contr fs B v i := by
    rw [sumN_one hi fun j _ hj => if_neg (by omega)]
    rw [if_pos rfl]
  rw [← h1, ← sumN_add]
  refine sumN_congr fun j _ => ?_
  by_cases e : (j : Int) = (i : Int)
  · rw [if_pos e, if_pos e, if_neg (by omega), Mass.zero_add]
  · rw [if_neg e, if_neg e, if_neg (by omega), Mass.add_zero]
/-! How many ends -/
open Classical in
noncomputable def cntP (n : Nat) (P : Int → Prop) : Nat := ((List.range (n + 1)).filter fun i : Nat => decide (P ((i : Int) - 1))).length
theorem cntP_congr {n : Nat} {P Q : Int → Prop} (h : ∀ x, P x ↔ Q x) : cntP n P = cntP n Q := by
  have : P = Q := by funext x; exact propext (h x)
  rw [this]
theorem cntP_le (n : Nat) (P : Int → Prop) : cntP n P ≤ n + 1 := by
  unfold cntP
  exact Nat.le_trans (List.length_filter_le _ _) (by simp)
theorem filter_or {l : List Nat} {p q : Nat → Bool} (h : ∀ i, p i = true → q i = true → False) : (l.filter fun i => p i || q i).length = (l.filter p).length + (l.filter q).length := by
  induction l with
  | nil => rfl
  | cons a r ih =>
    simp only [List.filter_cons]
    cases hp : p a <;> cases hq : q a
    · simpa using ih
    · simp only [Bool.false_or, if_true, Bool.false_eq_true, if_false, List.length_cons, ih]; omega
    · simp only [Bool.or_false, if_true, Bool.false_eq_true, if_false, List.length_cons, ih]; omega
    · exact absurd hq (fun hq => h a hp hq)
theorem cntP_or {n : Nat} {P Q : Int → Prop} (h : ∀ x, P x → Q x → False) : cntP n (fun x => P x ∨ Q x) = cntP n P + cntP n Q := by
  unfold cntP
  rw [← filter_or]
  · congr 1
    apply List.filter_congr
    intro i _
    by_cases h1 : P ((i : Int) - 1) <;> by_cases h2 : Q ((i : Int) - 1) <;> simp [h1, h2]
  · intro i h1 h2
    exact h _ (by simpa using h1) (by simpa using h2)
theorem cntP_one {n : Nat} {e : Int} (h : -1 ≤ e ∧ e < n) : cntP n (fun x => x = e) = 1 := by
  have h2 : cntP n (fun x => x = e) = ((List.range (n + 1)).filter fun i : Nat => i == (e + 1).toNat).length := by
    unfold cntP
    congr 1
    apply List.filter_congr
    intro i _
    have : ((i : Int) - 1 = e) ↔ i = (e + 1).toNat := by omega
    by_cases h1 : i = (e + 1).toNat
    · exact Eq.trans (@decide_eq_true _ (_) (this.2 h1)) (beq_iff_eq.2 h1).symm
    · exact Eq.trans (@decide_eq_false _ (_) (fun q => h1 (this.1 q))) (beq_eq_false_iff_ne.2 h1).symm
  rw [h2]
  have hlt : (e + 1).toNat < n + 1 := by omega
  have key : ∀ (m k : Nat), ((List.range m).filter fun i : Nat => i == k).length = if k < m then 1 else 0 := fun m k => by
    induction m with
    | zero => simp
    | succ m ih =>
      rw [List.range_succ, List.filter_append, List.length_append, ih]
      by_cases h1 : k < m
      · have : ¬ m = k := by omega
        simp [h1, this, Nat.lt_succ_of_lt h1]
      · by_cases h2 : m = k
        · subst h2; simp
        · have h3 : ¬ k < m + 1 := by omega
          simp [h1, h2, h3]
  rw [key, if_pos hlt]
theorem cntP_mono {n : Nat} {P Q : Int → Prop} (h : ∀ x, P x → Q x) : cntP n P ≤ cntP n Q := by
  have h1 : cntP n Q = cntP n (fun x => P x ∨ (Q x ∧ ¬ P x)) := cntP_congr fun x => by
    by_cases hp : P x
    · simp [hp, h x hp]
    · simp [hp]
  rw [h1, cntP_or (fun x h1 h2 => h2.2 h1)]
  omega
theorem cntP_lt {n : Nat} {P Q : Int → Prop} (h : ∀ x, P x → Q x) {e : Int} (he : -1 ≤ e ∧ e < n) (hq : Q e) (hp : ¬ P e) : cntP n P < cntP n Q := by
  have h1 := cntP_mono (n := n) (P := fun x => P x ∨ x = e) (Q := Q) fun x hx => by
    rcases hx with hx | rfl
    · exact h x hx
    · exact hq
  rw [cntP_or (P := P) (Q := fun x => x = e) (fun x q1 q2 => hp (by subst q2; exact q1)), cntP_one he] at h1
  omega
end Go.Proofs.Ytjehpgflhgpalaa
namespace Go.Proofs.Ytjehpgflhgpalaa
open Go Kern
/-- The end, and what hangs on it behind the first k flows. -/
def Tk (fs : List FlowD) (e b : Int) (k : Nat) (x : Int) : Prop := x = e ∨ ∃ (i : Nat) (f : FlowD) (w : Int), i < k ∧ fs[i]? = some f ∧ chB fs i = true ∧ (i : Int) ≠ b ∧ Ends f e w ∧ Path fs (FE fs i) w x
def Touch (fs : List FlowD) (e b : Int) (k j : Nat) : Prop :=
  ∃ f, fs[j]? = some f ∧ chB fs j = true ∧ (j : Int) ≠ b ∧ ((j < k ∧ (f.fr = e ∨ f.to = e)) ∨ ∃ (i : Nat) (g : FlowD) (w : Int), i < k ∧ i ≠ j ∧ fs[i]? = some g ∧ chB fs i = true ∧ (i : Int) ≠ b ∧ Ends g e w ∧ Path fs (FE fs i) w f.fr)
structure GInv (fs : List FlowD) (n : Nat) (K W : Int) (e b : Int) (k : Nat) (R0 : Int → Bool) (B0 : Nat → Mass) (R : Int → Bool) (B : Nat → Mass) (left : Mass) : Prop where
  reach : ∀ x : Int, -1 ≤ x → x < n → (R x = true ↔ R0 x = true ∨ Tk fs e b k x)
  touch : ∀ j, B j ≠ B0 j → Touch fs e b k j
  nets : ∀ v, Tk fs e b k v → v ≠ e → netB fs B v = Mass.zero
  sum : left = netx fs B e b k
  le : left.le (cntP n (Tk fs e b k) * K)
  bound : ∀ j, (B j).le W
structure GDone (fs : List FlowD) (n : Nat) (K W : Int) (e b : Int) (R0 : Int → Bool) (B0 : Nat → Mass) (R : Int → Bool) (B : Nat → Mass) (left : Mass) : Prop where
  reach : ∀ x : Int, -1 ≤ x → x < n → (R x = true ↔ R0 x = true ∨ Path fs (FE fs b) e x)
  touch : ∀ j, B j ≠ B0 j → ∃ f, fs[j]? = some f ∧ chB fs j = true ∧ (j : Int) ≠ b ∧ Path fs (FE fs b) e f.fr
  nets : ∀ v, Path fs (FE fs b) e v → v ≠ e → netB fs B v = Mass.zero
  sum : left = netx fs B e b fs.length
  le : left.le (cntP n (Path fs (FE fs b) e) * K)
  bound : ∀ j, (B j).le W
section
variable {fs : List FlowD} {n : Nat} {K W e b : Int} {k : Nat} {R0 R R' : Int → Bool} {B0 B B' : Nat → Mass} {left rest : Mass}
theorem Tk_zero (x : Int) : Tk fs e b 0 x ↔ x = e := by
  unfold Tk
  constructor
  · rintro (h | ⟨i, f, w, hi, _⟩)
    · exact h
    · omega
  · exact .inl
theorem Tk_mono {k' : Nat} (h : k ≤ k') {x : Int} (hx : Tk fs e b k x) : Tk fs e b k' x := by
  rcases hx with rfl | ⟨i, f, w, hi, hr⟩
  · exact .inl rfl
  · exact .inr ⟨i, f, w, by omega, hr⟩
theorem Touch_mono {k' j : Nat} (h : k ≤ k') (hx : Touch fs e b k j) : Touch fs e b k' j := by
  obtain ⟨f, h1, h2, h3, h4⟩ := hx
  refine ⟨f, h1, h2, h3, ?_⟩
  rcases h4 with ⟨a, c⟩ | ⟨i, g, w, hi, hr⟩
  · exact .inl ⟨by omega, c⟩
  · exact .inr ⟨i, g, w, by omega, hr⟩
theorem GInv.start (hK : 0 ≤ K) (he : -1 ≤ e ∧ e < n) (hx : (excM [e] fs).le K) (hB : ∀ j, (B0 j).le W) (hR : ∀ x : Int, -1 ≤ x → x < n → (R x = true ↔ R0 x = true ∨ x = e)) : GInv fs n K W e b 0 R0 B0 R B0 (excM [e] fs) where
  reach := fun x h1 h2 => by rw [hR x h1 h2, Tk_zero]
  touch := fun j h => absurd rfl h
  nets := fun v h1 h2 => absurd ((Tk_zero v).1 h1) h2
  sum := by unfold netx sumN; rw [Mass.add_zero]
  le := by rw [cntP_congr fun x => Tk_zero x, cntP_one he]; exact hx.mono (by omega)
  bound := hB
theorem Tk_skip {f : FlowD} (hf : fs[k]? = some f) (h : chB fs k = false ∨ (k : Int) = b ∨ (f.fr ≠ e ∧ f.to ≠ e)) (x : Int) : Tk fs e b (k + 1) x ↔ Tk fs e b k x := by
  constructor
  · rintro (rfl | ⟨i, g, w, hi, hg, hc, hb, he, hp⟩)
    · exact .inl rfl
    · have hik : i ≠ k := fun q => by
        subst q
        rw [hf] at hg; cases hg
        rcases h with h | h | ⟨h1, h2⟩
        · rw [h] at hc; cases hc
        · exact hb h
        · rcases he with ⟨a, _⟩ | ⟨_, a⟩
          · exact h1 a
          · exact h2 a
      exact .inr ⟨i, g, w, by omega, hg, hc, hb, he, hp⟩
  · exact Tk_mono (by omega)
theorem GInv.skip {f : FlowD} (hf : fs[k]? = some f) (h : chB fs k = false ∨ (k : Int) = b ∨ (f.fr ≠ e ∧ f.to ≠ e)) (hi : GInv fs n K W e b k R0 B0 R B left) : GInv fs n K W e b (k + 1) R0 B0 R B left where
  reach := fun x h1 h2 => by rw [Tk_skip hf h]; exact hi.reach x h1 h2
  touch := fun j hj => Touch_mono (by omega) (hi.touch j hj)
  nets := fun v h1 h2 => hi.nets v ((Tk_skip hf h v).1 h1) h2
  sum := by
    rw [netx_succ, ← hi.sum]
    have : (if (k : Int) = b then Mass.zero else contr fs B e k) = Mass.zero := by
      by_cases hb : (k : Int) = b
      · rw [if_pos hb]
      · rw [if_neg hb]
        unfold contr
        rw [hf]
        simp only []
        rcases h with h | h | ⟨h1, h2⟩
        · rw [h]; rfl
        · exact absurd h hb
        · unfold brings; rw [if_neg h2, if_neg h1]; split <;> rfl
    rw [this, Mass.add_zero]
  le := by rw [cntP_congr fun x => Tk_skip hf h x]; exact hi.le
  bound := hi.bound
theorem Tk_sub {f : FlowD} {w : Int} (hf : fs[k]? = some f) (hc : chB fs k = true) (hb : (k : Int) ≠ b) (hne : f.fr ≠ f.to) (he : Ends f e w) (x : Int) : Tk fs e b (k + 1) x ↔ Tk fs e b k x ∨ Path fs (FE fs k) w x := by
  constructor
  · rintro (rfl | ⟨i, g, w', hi, hg, hc', hb', he', hp⟩)
    · exact .inl (.inl rfl)
    · by_cases q : i = k
      · subst q
        rw [hf] at hg; cases hg
        have : w' = w := by
          rcases he with ⟨a, c⟩ | ⟨a, c⟩ <;> rcases he' with ⟨a', c'⟩ | ⟨a', c'⟩
          · exact c'.symm.trans c
          · exact absurd (a.trans c'.symm) hne
          · exact absurd (a'.trans c.symm) hne
          · exact a'.symm.trans a
        subst this
        exact .inr hp
      · exact .inl (.inr ⟨i, g, w', by omega, hg, hc', hb', he', hp⟩)
  · rintro (h | h)
    · exact Tk_mono (by omega) h
    · exact .inr ⟨k, f, w, by omega, hf, hc, hb, he, h⟩
theorem Tk_apart {f : FlowD} {w : Int} (hf : fs[k]? = some f) (hc : chB fs k = true) (he : Ends f e w) {x : Int} (h1 : Tk fs e b k x) (h2 : Path fs (FE fs k) w x) : False := by
  rcases h1 with rfl | ⟨i, g, w', hi, hg, hc', hb', he', hp⟩
  · exact FE_cut2 hf hc he h2
  · exact sub_apart hg hc' he' hf hc he (by omega) hp h2
/-- A flow of the forest that hangs there has both ends there. -/
theorem hang_ends {i j : Nat} {f : FlowD} {w : Int} (hf : fs[j]? = some f) (hc : chB fs j = true) (hij : i ≠ j) (h : Path fs (FE fs i) w f.fr) {v : Int} (hv : f.fr = v ∨ f.to = v) : Path fs (FE fs i) w v := by
  rcases hv with rfl | rfl
  · exact h
  · exact .step j f h hf ⟨hc, by omega⟩ (.inl ⟨rfl, rfl⟩)
theorem GInv.sub {f : FlowD} {w : Int} {m : Mass} (hf : fs[k]? = some f) (hc : chB fs k = true) (hb : (k : Int) ≠ b) (hne : f.fr ≠ f.to) (he : Ends f e w) (hinc : ∀ (j : Nat) (g : FlowD), (j : Int) = b → fs[j]? = some g → g.fr = e ∨ g.to = e) (hW : (n + 1) * K ≤ W) (hK : 0 ≤ K)
    (hm : m = if f.to = e then rest else Mass.zero.sub rest) (hi : GInv fs n K W e b k R0 B0 R B left) (hd : GDone fs n K W w k R B R' B' rest) :
    GInv fs n K W e b (k + 1) R0 B0 R' (fun j => if j = k then m else B' j) (left.add rest) := by
  have hwe : w ≠ e := by
    rcases he with ⟨a, c⟩ | ⟨a, c⟩
    · intro q; exact hne (a.trans (q.symm.trans c.symm))
    · intro q; exact hne (a.trans (q.trans c.symm))
  have hcut := FE_cut2 hf hc he
  have hklen : k < fs.length := (List.getElem?_eq_some_iff.1 hf).1
  -- what the flow brings to both ends
  have hbe : brings f e m = rest := by
    rw [hm]
    unfold brings
    rcases he with ⟨a, c⟩ | ⟨a, c⟩
    · rw [if_neg (by rw [c]; exact hwe), if_pos a, if_neg (by rw [c]; exact hwe), Mass.neg_neg]
    · rw [if_pos c, if_pos c]
  have hbw : brings f w m = Mass.zero.sub rest := by
    rw [hm]
    unfold brings
    rcases he with ⟨a, c⟩ | ⟨a, c⟩
    · rw [if_pos c, if_neg (by rw [c]; exact hwe)]
    · rw [if_neg (by rw [c]; exact fun q => hwe q.symm), if_pos a, if_pos c]
  have hkk : ∀ v, contr fs (fun j => if j = k then m else B' j) v k = brings f v m := fun v => by
    unfold contr; rw [hf]; simp only [hc, if_true]
  refine ⟨fun x h1 h2 => ?_, fun j hj => ?_, fun v h1 h2 => ?_, ?_, ?_, fun j => ?_⟩
  · rw [hd.reach x h1 h2, hi.reach x h1 h2, Tk_sub hf hc hb hne he, or_assoc]
  · change (if j = k then m else B' j) ≠ B0 j at hj
    by_cases q : j = k
    · subst q
      refine ⟨f, hf, hc, hb, .inl ⟨by omega, ?_⟩⟩
      rcases he with ⟨a, _⟩ | ⟨_, a⟩
      · exact .inl a
      · exact .inr a
    · rw [if_neg q] at hj
      by_cases h' : B' j = B j
      · exact Touch_mono (by omega) (hi.touch j (by rw [← h']; exact hj))
      · obtain ⟨g, hg, hcg, hgk, hp⟩ := hd.touch j h'
        have hkj : k ≠ j := fun q' => q q'.symm
        have hjb : (j : Int) ≠ b := fun hjb => hcut (hang_ends hg hcg hkj hp (hinc j g hjb hg))
        exact ⟨g, hg, hcg, hjb, .inr ⟨k, f, w, by omega, hkj, hf, hc, hb, he, hp⟩⟩
  · have hkeep : ∀ (j : Nat) (g : FlowD), fs[j]? = some g → chB fs j = true → (g.fr = v ∨ g.to = v) → ¬ Path fs (FE fs k) w v → (if j = k then m else B' j) = B j := fun j g hg hcg hv hnp => by
      have hjk : j ≠ k := fun q => by
        subst q
        rw [hf] at hg; cases hg
        have hvw : v = w := by
          rcases he with ⟨a, c⟩ | ⟨a, c⟩ <;> rcases hv with hv | hv
          · exact absurd (hv.symm.trans a) h2
          · exact hv.symm.trans c
          · exact hv.symm.trans a
          · exact absurd (hv.symm.trans c) h2
        subst hvw
        exact hnp .refl
      rw [if_neg hjk]
      refine Classical.byContradiction fun h' => ?_
      obtain ⟨g', hg', hcg', hgk, hp⟩ := hd.touch j h'
      rw [hg] at hg'; cases hg'
      exact hnp (hang_ends hg hcg (fun q => hjk q.symm) hp hv)
    rcases (Tk_sub hf hc hb hne he v).1 h1 with h | h
    · have hnp : ¬ Path fs (FE fs k) w v := fun hp => Tk_apart hf hc he h hp
      rw [← hi.nets v h h2]
      exact netx_congr fun j g _ _ hg hcg hv => hkeep j g hg hcg hv hnp
    · by_cases hvw : v = w
      · subst hvw
        rw [netB_split hklen, hkk, hbw]
        have : netx fs (fun j => if j = k then m else B' j) v k fs.length = rest := by
          rw [hd.sum]
          refine netx_congr fun j g _ hjk _ _ _ => ?_
          rw [if_neg (by omega)]
        rw [this, Mass.add_neg]
      · rw [← hd.nets v h hvw]
        refine netx_congr fun j g _ _ hg hcg hv => ?_
        have hjk : j ≠ k := fun q => by
          subst q
          rw [hf] at hg; cases hg
          rcases he with ⟨a, c⟩ | ⟨a, c⟩ <;> rcases hv with hv | hv
          · exact h2 (hv.symm.trans a)
          · exact hvw (hv.symm.trans c)
          · exact hvw (hv.symm.trans a)
          · exact h2 (hv.symm.trans c)
        rw [if_neg hjk]
  · rw [netx_succ, if_neg hb, hkk, hbe]
    congr 1
    rw [hi.sum]
    refine netx_congr fun j g hj hjb hg hcg hv => ?_
    have hjk : j ≠ k := by omega
    rw [if_neg hjk]
    refine Classical.byContradiction fun h' => ?_
    obtain ⟨g', hg', hcg', hgk, hp⟩ := hd.touch j (fun q => h' q.symm)
    rw [hg] at hg'; cases hg'
    exact hcut (hang_ends hg hcg (fun q => hjk q.symm) hp hv)
  · rw [cntP_congr fun x => Tk_sub hf hc hb hne he x, cntP_or fun x h1 h2 => Tk_apart hf hc he h1 h2]
    refine (hi.le.add hd.le).mono ?_
    push_cast
    rw [Int.add_mul]
    exact Int.le_refl _
  · have hr : rest.le W := hd.le.mono (by
      have h1 := cntP_le n (Path fs (FE fs k) w)
      have h2 : ((cntP n (Path fs (FE fs k) w) : Nat) : Int) * K ≤ ((n : Int) + 1) * K := Int.mul_le_mul_of_nonneg_right (by omega) hK
      omega)
    show (if j = k then m else B' j).le W
    by_cases q : j = k
    · rw [if_pos q, hm]
      split
      · exact hr
      · exact Mass.le_neg hr
    · rw [if_neg q]; exact hd.bound j
theorem Tk_all (hinc : ∀ (j : Nat) (g : FlowD), (j : Int) = b → fs[j]? = some g → g.fr = e ∨ g.to = e) (x : Int) : Tk fs e b fs.length x ↔ Path fs (FE fs b) e x := by
  constructor
  · rintro (rfl | ⟨i, f, w, hi, hf, hc, hb, he, hp⟩)
    · exact .refl
    · exact (sub_path hf hc he hb hinc hp).1
  · intro h
    induction h with
    | refl => exact .inl rfl
    | step j f h hj hfe hz ih =>
      rename_i y z
      have hlen := (List.getElem?_eq_some_iff.1 hj).1
      by_cases hze : z = e
      · exact .inl hze
      rcases ih with rfl | ⟨i, g, w, hi, hg, hc, hb, he, hp⟩
      · exact .inr ⟨j, f, z, hlen, hj, hfe.1, hfe.2, hz, .refl⟩
      · by_cases hij : i = j
        · subst hij
          rw [hg] at hj; cases hj
          have hzw : z = w := by
            rcases he with ⟨a, c⟩ | ⟨a, c⟩ <;> rcases hz with ⟨a', c'⟩ | ⟨a', c'⟩
            · exact c'.symm.trans c
            · exact absurd (a'.symm.trans a) hze
            · exact absurd (c'.symm.trans c) hze
            · exact a'.symm.trans a
          subst hzw
          exact .inr ⟨i, _, z, hi, hg, hc, hb, he, .refl⟩
        · exact .inr ⟨i, g, w, hi, hg, hc, hb, he, .step j f hp hj ⟨hfe.1, by omega⟩ hz⟩
theorem GInv.done (hinc : ∀ (j : Nat) (g : FlowD), (j : Int) = b → fs[j]? = some g → g.fr = e ∨ g.to = e) (hi : GInv fs n K W e b fs.length R0 B0 R B left) : GDone fs n K W e b R0 B0 R B left where
  reach := fun x h1 h2 => by rw [hi.reach x h1 h2, Tk_all hinc]
  touch := fun j hj => by
    obtain ⟨f, h1, h2, h3, h4⟩ := hi.touch j hj
    refine ⟨f, h1, h2, h3, ?_⟩
    rcases h4 with ⟨_, hv | hv⟩ | ⟨i, g, w, hik, hij, hg, hc, hb, he, hp⟩
    · rw [hv]; exact .refl
    · exact .step j f .refl h1 ⟨h2, h3⟩ (.inr ⟨rfl, hv⟩)
    · exact (sub_path hg hc he hb hinc hp).1
  nets := fun v h1 h2 => hi.nets v ((Tk_all hinc v).2 h1) h2
  sum := hi.sum
  le := by rw [← cntP_congr fun x => Tk_all hinc x]; exact hi.le
  bound := hi.bound
theorem sub_lt {f : FlowD} {w : Int} (hf : fs[k]? = some f) (hc : chB fs k = true) (hb : (k : Int) ≠ b) (he : Ends f e w) (hinc : ∀ (j : Nat) (g : FlowD), (j : Int) = b → fs[j]? = some g → g.fr = e ∨ g.to = e) (hV : -1 ≤ e ∧ e < n) :
    cntP n (Path fs (FE fs k) w) < cntP n (Path fs (FE fs b) e) :=
  cntP_lt (fun x hx => (sub_path hf hc he hb hinc hx).1) hV .refl (FE_cut2 hf hc he)
end
end Go.Proofs.Ytjehpgflhgpalaa
namespace Go.Proofs.Ytjehpgflhgpalaa
open Go Kern
@[simp] theorem binVal_boolEq (t : TypeId) (fl : Bool) (a b : Bool) : binVal TT .bool t fl .eql (.bool a) (.bool b) = some (.bool (a == b)) := by
  cases a <;> cases b <;> rfl
@[simp] theorem binVal_boolNe (t : TypeId) (fl : Bool) (a b : Bool) : binVal TT .bool t fl .neq (.bool a) (.bool b) = some (.bool (a != b)) := by
  cases a <;> cases b <;> rfl
end Go.Proofs.Ytjehpgflhgpalaa
namespace Go.Proofs.Ytjehpgflhgpalaa
open Go Kern
/-- Cells that are gathered, in a block of their own. -/
def OwnC (N : Nat) (s : St) (w : Value) (cs : List Value) : Prop :=
  (cs = [] ∧ w = .slice none 0 0) ∨ ∃ b, w = .slice (some ⟨b, 0, none⟩) cs.length cs.length ∧ cs ≠ [] ∧ N ≤ b ∧ b < s.next ∧ s.heap.get b = some (.cells cs (some 1))
theorem drop_map_cons {α β : Type} {g : α → β} {l : List α} {i : Nat} {x : α} (h : l[i]? = some x) : (l.map g).drop i = g x :: (l.map g).drop (i + 1) := by
  rw [List.drop_eq_getElem_cons (by simpa using (List.getElem?_eq_some_iff.1 h).1)]
  have := (List.getElem?_eq_some_iff.1 h).2
  simp [this]
theorem OwnC.sl {N : Nat} {s : St} {w : Value} {α : Type} {g : α → Value} {l : List α} (h : OwnC N s w (l.map g)) : SlAt 1 s w (l.map fun x => [g x]) := by
  rcases h with ⟨h, rfl⟩ | ⟨b, rfl, hne, h1, h2, h3⟩
  · cases l with
    | nil => exact .nil 0
    | cons a t => cases h
  · have := SlAt.mk (n := 1) (s := s) (off := 0) (c := (l.map g).length) (l := l.map fun x => [g x]) h2 h3 rfl (fun i e he => ?_)
    · rw [List.length_map] at this; rw [List.length_map] at this ⊢; exact this
    · rw [List.getElem?_map] at he
      cases hb : l[i]? with
      | none => rw [hb] at he; cases he
      | some y =>
        rw [hb] at he; cases he
        rw [Nat.zero_add, Nat.mul_one, drop_map_cons hb]; rfl
end Go.Proofs.Ytjehpgflhgpalaa
namespace Go.Proofs.Ytjehpgflhgpalaa
open Go Kern
theorem Same.out {n : Nat} {rt : Int → Int} {L : Nat → Int} (hs : Same n rt L) : L 0 = 0 := by have := hs.1 0 (by omega); omega
theorem Same.st {n : Nat} {rt : Int → Int} {L : Nat → Int} (hs : Same n rt L) {x y : Nat} (hx : x < n) (hy : y < n) : L (x + 1) = L (y + 1) ↔ rt x = rt y := by
  have := hs.2 (x + 1) (y + 1) (by omega) (by omega)
  rw [show (((x + 1 : Nat) : Int) - 1) = x by omega, show (((y + 1 : Nat) : Int) - 1) = y by omega] at this
  exact this
/-- The units of a head. -/
def sideL (L : Nat → Int) (n : Nat) (h : Int) : List Int := ((List.range (n + 1)).filter fun i => decide (L i = h)).map fun i : Nat => (i : Int) - 1
theorem mem_sideL {L : Nat → Int} {n : Nat} {h x : Int} (h1 : -1 ≤ x) (h2 : x < n) : x ∈ sideL L n h ↔ L (x + 1).toNat = h := by
  unfold sideL
  constructor
  · intro hm
    obtain ⟨i, hi, e⟩ := List.mem_map.1 hm
    obtain rfl : i = (x + 1).toNat := by omega
    simpa using (List.mem_filter.1 hi).2
  · intro hm
    exact List.mem_map.2 ⟨(x + 1).toNat, List.mem_filter.2 ⟨List.mem_range.2 (by omega), by simp [hm]⟩, by omega⟩
/-- What the reference finds: units and kind. -/
def clashR (n : Nat) (fs : List FlowD) : List Int × Nat := (provF (rtF (-1) fs 0 id) fs n n 0).getD ([], 0)
end Go.Proofs.Ytjehpgflhgpalaa
namespace Go.Proofs.Ytjehpgflhgpalaa
open Go Kern
theorem range_setV {g h : Nat → Value} {n k : Nat} (hk : k < n) (ho : ∀ x, x < n → x ≠ k → h x = g x) {w : Value} (hw : w = h k) : ((List.range n).map g).set k w = (List.range n).map h := by
  subst hw
  apply List.ext_getElem?
  intro i
  rw [List.getElem?_set]
  by_cases e : k = i
  · subst e; simp [hk]
  · rw [if_neg e]
    by_cases hi : i < n
    · simp [hi, ho i hi (fun q => e q.symm)]
    · simp [hi]
set_option maxRecDepth 100000 in
set_option maxHeartbeats 2000000 in
theorem forestOf_ev (u : Int) (v : Value) (fs : List FlowD) (s : St) (hf : FlAt s v fs) (hl : fs.length ≤ 1000) :
    Ev TT 64 [plantV u v] s fun r s' => Keep s s' ∧ ∃ φ, r = .slice (some ⟨φ, 0, none⟩) fs.length fs.length ∧ s.next ≤ φ ∧ φ < s'.next ∧ s'.heap.get φ = some (.cells ((List.range fs.length).map fun j => Value.bool (chB fs j)) none) := by
  obtain ⟨a, c, rfl⟩ := hf.shape
  rw [List.length_map] at hf ⊢
  unfold plantV
  have nl := natOf_cast .i64 fs.length
  refine Ev.intro (fn := Try.f64) rfl (by kernel_rfl) rfl rfl ?_
  apply zz
  refine Cd.ra (h := ?_)
  apply Run.by_eq
  · intro self
    conv => lhs; simp -implicitDefEqProofs (maxSteps := 300000) (disch := omega) [-getElem?_pos, -getElem?_neg]
  try (with_reducible refine Run.ret ?_)
  apply zz
  refine Cd.ra (h := ?_)
  apply Run.by_eq
  · intro self
    conv => lhs; simp -implicitDefEqProofs (maxSteps := 300000) (disch := omega) [-getElem?_pos, -getElem?_neg, nl]
  try (with_reducible refine Run.ret ?_)
  apply zz
  refine Cd.ra (h := ?_)
  apply Run.by_eq
  · intro self
    conv => lhs; simp -implicitDefEqProofs (maxSteps := 300000) (disch := omega) [-getElem?_pos, -getElem?_neg]
  try (with_reducible refine Run.ret ?_)
  apply zz
  refine Cd.ra (h := ?_)
  apply Run.by_eq
  · intro self
    conv => lhs; simp -implicitDefEqProofs (maxSteps := 300000) (disch := omega) [-getElem?_pos, -getElem?_neg]
  try (with_reducible refine Run.ret ?_)
  apply zz
  refine Cd.inv (fun z f s' => ∃ k : Nat, k ≤ fs.length ∧ z = fs.length - k ∧ f.marks = [] ∧ f.get 16 = .int .i64 k ∧ f.get 15 = .int .i64 fs.length ∧ f.get 14 = .slice a fs.length c ∧ f.get 3 = .slice (some ⟨s.next + 1, 0, none⟩) fs.length fs.length ∧ f.get 4 = .pointer (some ⟨s.next + 1 + 1 + 1, 0, none⟩) ∧ Keep s s' ∧ s.next + 1 + 1 + 1 < s'.next ∧
    s'.heap.get (s.next + 1) = some (.cells ((List.range fs.length).map fun j => Value.bool (decide (j < k) && chB fs j)) none) ∧ s'.heap.get (s.next + 1 + 1 + 1) = some (.cells [.map (some (s.next + 1 + 1))] none) ∧ ∃ es, s'.heap.get (s.next + 1 + 1) = some (.map (mapL2 es 0) es.length) ∧ Forest es (rtF (-1) (fs.take k) 0 id)) fs.length ?_ ?_
  · refine ⟨0, by omega, rfl, by simp, by simp, by simp, by simp, by simp, by simp, ⟨by (try simp only [pushed_next', upded_next']); omega, fun i hi => by simp -implicitDefEqProofs (disch := omega) []⟩, by simp, ?_, by simp -implicitDefEqProofs (disch := omega), [], by simp -implicitDefEqProofs (disch := omega) [mapL2], Forest.empty⟩
    simp -implicitDefEqProofs (disch := omega) [repeatL_single]
    apply List.ext_getElem?
    intro i
    by_cases h : i < fs.length <;> simp [h]
  rintro z f s' ⟨k, hk, rfl, hm, h16, h15, h14, h3, h4, hkp, hnx, hg1, hg3, es, hg2, hF⟩
  have hkpa := hkp.1
  have hkpb := hkp.2
  by_cases hlt : k < fs.length
  · obtain ⟨g, hg⟩ : ∃ g, fs[k]? = some g := ⟨fs[k], by simp [hlt]⟩
    have hstep := rtF_take (-1) fs 0 id k g hg
    rw [Nat.zero_add] at hstep
    have hch := chB_some hg
    obtain ⟨b, off, o, cs, gg, rfl, hb, ho, hc, ht⟩ := FlAt.at (hf.keep hkp) hg
    obtain ⟨g0, g1, gm, m⟩ := g
    rw [FlowD.cs] at ht
    simp only [] at ht hch
    have hset : ∀ w : Value, w = .bool (chB fs k) → ((List.range fs.length).map fun j => Value.bool (decide (j < k) && chB fs j)).set k w = (List.range fs.length).map fun j => Value.bool (decide (j < k + 1) && chB fs j) := fun w hw =>
      range_setV hlt (fun x _ hx => by
        have : (x < k + 1) ↔ (x < k) := by omega
        simp [this]) (by rw [hw]; simp)
    apply zz
    refine Cd.ra (h := ?_)
    apply Run.by_eq
    · intro self
      conv => lhs; simp -implicitDefEqProofs (maxSteps := 300000) (disch := omega) [-getElem?_pos, -getElem?_neg, h16, h15]
    try (with_reducible refine Run.ret ?_)
    apply zz
    apply Cd.ite rfl
    · conv => lhs; simp -implicitDefEqProofs (maxSteps := 300000) (disch := omega) [-getElem?_pos, -getElem?_neg]
    all_goals intro c0
    all_goals try (cases c0; done)
    all_goals try simp only [Bool.not_eq_true', Bool.not_eq_false', decide_eq_true_eq, decide_eq_false_iff_not] at c0
    all_goals apply zz
    · apply zz
      refine Cd.ra (h := ?_)
      apply Run.by_eq
      · intro self
        conv => lhs; simp -implicitDefEqProofs (maxSteps := 300000) (disch := omega) [-getElem?_pos, -getElem?_neg, h16, h14, ho, hc, ht, hlt]
      try (with_reducible refine Run.ret ?_)
      apply zz
      cases gm with
      | true =>
        have hput := putL_set (Value.bool false) k ((List.range fs.length).map fun j => Value.bool (decide (j < k) && chB fs j)) (by simpa using hlt)
        rw [hset _ (by rw [hch]; rfl)] at hput
        apply zz
        refine Cd.ra (h := ?_)
        apply Run.by_eq
        · intro self
          conv => lhs; simp -implicitDefEqProofs (maxSteps := 300000) (disch := omega) [-getElem?_pos, -getElem?_neg, h3, h4, hg1, hlt, hput]
        try (with_reducible refine Run.ret ?_)
        apply zz
        refine Cd.ra (h := ?_)
        apply Run.by_eq
        · intro self
          conv => lhs; simp -implicitDefEqProofs (maxSteps := 300000) (disch := omega) [-getElem?_pos, -getElem?_neg, h16]
        try (with_reducible refine Run.ret ?_)
        apply zz
        refine LoopK.nm (fs.length - (k + 1)) (by omega) ⟨k + 1, by omega, rfl, by simp [hm], by simp, by simp [h15], by simp [h14], by simp [h3], by simp [h4], ⟨by (try simp only [pushed_next', upded_next']); omega, fun i hi => by simp -implicitDefEqProofs (disch := omega) [hkpb]⟩, by (try simp only [pushed_next', upded_next']); omega, ?_, ?_, es, ?_, ?_⟩
        · simp -implicitDefEqProofs (disch := omega)
        · simp -implicitDefEqProofs (disch := omega) [hg3]
        · simp -implicitDefEqProofs (disch := omega) [hg2]
        · rw [hstep]; unfold rtStep; rw [if_neg (by simp)]; exact hF
      | false =>
        apply zz
        refine Cd.ra (h := ?_)
        apply Run.by_eq
        · intro self
          conv => lhs; simp -implicitDefEqProofs (maxSteps := 300000) (disch := omega) [-getElem?_pos, -getElem?_neg, h3, h4, hg3]
        try (with_reducible refine Run.ret ?_)
        apply zz
        have hHA : HeadsAt ((s'.pushed (.cells [.int .i64 0, .int .i64 0, .bool false, .int .i64 0, .int .i64 0, .int .i64 0, .int .i64 0] none)).upded s'.next (.cells [.int .i64 g0, .int .i64 g1, .bool false, .int .i64 m.a, .int .i64 m.b, .int .i64 m.c, .int .i64 m.d] none)) (s.next + 1 + 1) es := ⟨by (try simp only [pushed_next', upded_next']); omega, by simp -implicitDefEqProofs (disch := omega) [hg2]⟩
        refine Run.call ((join_ev (s.next + 1 + 1) es _ g0 g1 _ hHA hF).mono fun v w1 hv => ?_)
        obtain ⟨rfl, qa, qb, es', hH', hF'⟩ := hv
        simp only [pushed_next', upded_next'] at qa qb
        have hw1 : w1.heap.get (s.next + 1) = some (.cells ((List.range fs.length).map fun j => Value.bool (decide (j < k) && chB fs j)) none) := by rw [qb _ (by omega) (by omega)]; simp -implicitDefEqProofs (disch := omega) [hg1]
        have hput := putL_set (Value.bool (!decide (rtF (-1) (fs.take k) 0 id g0 = rtF (-1) (fs.take k) 0 id g1))) k ((List.range fs.length).map fun j => Value.bool (decide (j < k) && chB fs j)) (by simpa using hlt)
        rw [hset _ (by rw [hch]; simp)] at hput
        generalize (!decide (rtF (-1) (fs.take k) 0 id g0 = rtF (-1) (fs.take k) 0 id g1)) = jb at hput
        apply Run.by_eq
        · intro self
          conv => lhs; simp -implicitDefEqProofs (maxSteps := 300000) (disch := omega) [-getElem?_pos, -getElem?_neg, h3, hw1, hlt, hput]
        try (with_reducible refine Run.ret ?_)
        apply zz
        refine Cd.ra (h := ?_)
        apply Run.by_eq
        · intro self
          conv => lhs; simp -implicitDefEqProofs (maxSteps := 300000) (disch := omega) [-getElem?_pos, -getElem?_neg, h16]
        try (with_reducible refine Run.ret ?_)
        apply zz
        refine LoopK.nm (fs.length - (k + 1)) (by omega) ⟨k + 1, by omega, rfl, by simp [hm], by simp, by simp [h15], by simp [h14], by simp [h3], by simp [h4], ⟨by (try simp only [upded_next']); omega, fun i hi => ?_⟩, by (try simp only [upded_next']); omega, ?_, ?_, es', ?_, ?_⟩
        · rw [get_upded_other _ _ _ _ (by omega), qb i (by omega) (by omega)]; simp -implicitDefEqProofs (disch := omega) [hkpb]
        · simp -implicitDefEqProofs (disch := omega)
        · rw [get_upded_other _ _ _ _ (by omega), qb _ (by omega) (by omega)]; simp -implicitDefEqProofs (disch := omega) [hg3]
        · rw [get_upded_other _ _ _ _ (by omega)]; exact hH'.2
        · rw [hstep]; unfold rtStep; rw [if_pos ⟨rfl, by omega⟩]; exact hF'
    · simp at c0; omega
  · obtain rfl : k = fs.length := by omega
    apply zz
    refine Cd.ra (h := ?_)
    apply Run.by_eq
    · intro self
      conv => lhs; simp -implicitDefEqProofs (maxSteps := 300000) (disch := omega) [-getElem?_pos, -getElem?_neg, h16, h15]
    try (with_reducible refine Run.ret ?_)
    apply zz
    apply Cd.ite rfl
    · conv => lhs; simp -implicitDefEqProofs (maxSteps := 300000) (disch := omega) [-getElem?_pos, -getElem?_neg]
    all_goals intro c0
    all_goals try (cases c0; done)
    all_goals try simp only [Bool.not_eq_true', Bool.not_eq_false', decide_eq_true_eq, decide_eq_false_iff_not] at c0
    all_goals apply zz
    apply zz
    refine Cd.ra (h := ?_)
    apply Run.by_eq
    · intro self
      conv => lhs; simp -implicitDefEqProofs (maxSteps := 300000) (disch := omega) [-getElem?_pos, -getElem?_neg, h3]
    try (with_reducible refine Run.ret ?_)
    apply zz
    apply Leave.mk (by first | exact .inl rfl | exact .inr rfl) (by simp only [Fr.marks_put, fr0_marks, hm])
    · conv => lhs; simp -implicitDefEqProofs (disch := omega) [Try.results64, hm]
    refine ⟨hkp, s.next + 1, rfl, by omega, by omega, ?_⟩
    rw [hg1]
    congr 2
    apply List.map_congr_left
    intro j hj
    have : j < fs.length := by simpa using hj
    simp [this]
end Go.Proofs.Ytjehpgflhgpalaa
