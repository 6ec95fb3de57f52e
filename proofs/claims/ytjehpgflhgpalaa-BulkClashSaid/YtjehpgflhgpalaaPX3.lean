/-
  Units, ends and bounds of masses are checked as stated, for every plant. A plant's first error is found as stated, for every list of flows. Lists of numbers are searched, and masses added and taken away, as stated. The excess of a set of units is as stated, for every list of flows with bounded masses. Excess answers as stated, for every plant and list of units. The reference's Check and its sum of masses answer as stated. The reference's excess is as stated, for every list of flows with bounded masses. The reference's set of units is as stated, with its errors. The reference's Excess, the comparison of lists and Name answer as stated. What is joined is found as stated, for every list of flows. Parts are yielded one after the other, as stated. Parts answers as stated, for every plant. What the reference gets has the same flows. The reference's heads are as stated, for every list of flows. Heads and roots say the same of what is joined. Parts are yielded as stated to a loop that may be left. A part with an excess is a proof that there is no balance. They hold with no condition but those that are written in each theorem.
-/
import Derived.Test.YtjehpgflhgpalaaPX1
import Derived.Test.YtjehpgflhgpalaaPX2
set_option linter.unusedSimpArgs false
set_option linter.unusedVariables false
namespace Go.Proofs.Ytjehpgflhgpalaa
open Go Kern
def unitB (u n : Int) : Bool := decide (0 ≤ n) && decide (n < u)
def endB (u n : Int) : Bool := decide (n = -1) || unitB u n
def plantV (u : Int) (fl : Value) : Value := .agg #[.int .i64 u, fl]
structure Mass where
  a : Int
  b : Int
  c : Int
  d : Int
  deriving DecidableEq
def Mass.cs (m : Mass) : List Value := [.int .i64 m.a, .int .i64 m.b, .int .i64 m.c, .int .i64 m.d]
def Mass.v (m : Mass) : Value := .agg #[.int .i64 m.a, .int .i64 m.b, .int .i64 m.c, .int .i64 m.d]
def isB (n lo hi : Int) : Bool := decide (lo ≤ n) && decide (n ≤ hi)
def eachB (m : Mass) (lo hi : Int) : Bool := isB m.a lo hi && (isB m.b lo hi && (isB m.c lo hi && isB m.d lo hi))
set_option maxRecDepth 100000 in
theorem isUnit_ev (u n : Int) (fl : Value) (s : St) : Ev TT 40 [plantV u fl, .int .i64 n] s fun v s' => v = .bool (unitB u n) ∧ Keep s s' := by
  unfold plantV
  refine Ev.intro (fn := Try.f40) rfl (by kernel_rfl) rfl rfl ?_
  apply zz
  refine Cd.ra (h := ?_)
  apply Run.by_eq
  · intro self
    conv => lhs; simp -implicitDefEqProofs (maxSteps := 300000) (disch := omega) [-getElem?_pos, -getElem?_neg]
  try (with_reducible refine Run.ret ?_)
  apply zz
  by_cases h : 0 ≤ n
  · apply zz
    refine Cd.ra (h := ?_)
    apply Run.by_eq
    · intro self
      conv => lhs; simp -implicitDefEqProofs (maxSteps := 300000) (disch := omega) [-getElem?_pos, -getElem?_neg, h]
    try (with_reducible refine Run.ret ?_)
    apply zz
    apply Leave.mk (by first | exact .inl rfl | exact .inr rfl) (by simp only [Fr.marks_put, fr0_marks])
    · conv => lhs; simp -implicitDefEqProofs (disch := omega) [Try.results40]
    exact ⟨by simp [unitB, h], (Keep.refl _).pushed _⟩
  · apply zz
    refine Cd.ra (h := ?_)
    apply Run.by_eq
    · intro self
      conv => lhs; simp -implicitDefEqProofs (maxSteps := 300000) (disch := omega) [-getElem?_pos, -getElem?_neg, h]
    try (with_reducible refine Run.ret ?_)
    apply zz
    apply Leave.mk (by first | exact .inl rfl | exact .inr rfl) (by simp only [Fr.marks_put, fr0_marks])
    · conv => lhs; simp -implicitDefEqProofs (disch := omega) [Try.results40]
    exact ⟨by simp [unitB, h], (Keep.refl _).pushed _⟩
set_option maxRecDepth 100000 in
theorem isEnd_ev (u n : Int) (fl : Value) (s : St) : Ev TT 63 [plantV u fl, .int .i64 n] s fun v s' => v = .bool (endB u n) ∧ Keep s s' := by
  have hc := isUnit_ev u n fl
  unfold plantV at hc ⊢
  refine Ev.intro (fn := Try.f63) rfl (by kernel_rfl) rfl rfl ?_
  apply zz
  refine Cd.ra (h := ?_)
  apply Run.by_eq
  · intro self
    conv => lhs; simp -implicitDefEqProofs (maxSteps := 300000) (disch := omega) [-getElem?_pos, -getElem?_neg]
  try (with_reducible refine Run.ret ?_)
  apply zz
  by_cases h : n = -1
  · apply zz
    refine Cd.ra (h := ?_)
    apply Run.by_eq
    · intro self
      conv => lhs; simp -implicitDefEqProofs (maxSteps := 300000) (disch := omega) [-getElem?_pos, -getElem?_neg, h]
    try (with_reducible refine Run.ret ?_)
    apply zz
    apply Leave.mk (by first | exact .inl rfl | exact .inr rfl) (by simp only [Fr.marks_put, fr0_marks])
    · conv => lhs; simp -implicitDefEqProofs (disch := omega) [Try.results63]
    exact ⟨by simp [endB, h], (Keep.refl _).pushed _⟩
  · apply zz
    refine Cd.ra (h := ?_)
    apply Run.by_eq
    · intro self
      conv => lhs; simp -implicitDefEqProofs (maxSteps := 300000) (disch := omega) [-getElem?_pos, -getElem?_neg, h]
    try (with_reducible refine Run.ret ?_)
    apply zz
    refine Run.call ((hc _).mono fun v s' hv => ?_)
    obtain ⟨rfl, hk⟩ := hv
    apply Run.by_eq
    · intro self
      conv => lhs; simp -implicitDefEqProofs (maxSteps := 300000) (disch := omega) [-getElem?_pos, -getElem?_neg, h]
    try (with_reducible refine Run.ret ?_)
    apply zz
    apply Leave.mk (by first | exact .inl rfl | exact .inr rfl) (by simp only [Fr.marks_put, fr0_marks])
    · conv => lhs; simp -implicitDefEqProofs (disch := omega) [Try.results63]
    exact ⟨by simp [endB, h], ((Keep.refl _).pushed _).trans hk⟩
def Mass.at (m : Mass) : Nat → Int
  | 0 => m.a
  | 1 => m.b
  | 2 => m.c
  | _ => m.d
theorem Mass.cs_at (m : Mass) {k : Nat} (h : k < 4) : ([.int .i64 m.a, .int .i64 m.b, .int .i64 m.c, .int .i64 m.d] : List Value)[k]? = some (.int .i64 (m.at k)) := by
  match k, h with
  | 0, _ => rfl
  | 1, _ => rfl
  | 2, _ => rfl
  | 3, _ => rfl
theorem eachB_false {m : Mass} {lo hi : Int} {k : Nat} (hk : k < 4) (h : m.at k < lo ∨ hi < m.at k) : eachB m lo hi = false := by
  cases hb : eachB m lo hi with
  | false => rfl
  | true =>
    simp only [eachB, isB, Bool.and_eq_true, decide_eq_true_eq] at hb
    match k, hk, h with
    | 0, _, h => simp only [Mass.at] at h; omega
    | 1, _, h => simp only [Mass.at] at h; omega
    | 2, _, h => simp only [Mass.at] at h; omega
    | 3, _, h => simp only [Mass.at] at h; omega
theorem eachB_true {m : Mass} {lo hi : Int} (h : ∀ k, k < 4 → lo ≤ m.at k ∧ m.at k ≤ hi) : eachB m lo hi = true := by
  simp only [eachB, isB, Bool.and_eq_true, decide_eq_true_eq]
  exact ⟨h 0 (by omega), h 1 (by omega), h 2 (by omega), h 3 (by omega)⟩
set_option maxRecDepth 100000 in
set_option maxHeartbeats 1000000 in
theorem within_ev (m : Mass) (lo hi : Int) (s : St) : Ev TT 54 [m.v, .int .i64 lo, .int .i64 hi] s fun v s' => v = .bool (eachB m lo hi) ∧ Keep s s' := by
  unfold Mass.v
  refine Ev.intro (fn := Try.f54) rfl (by kernel_rfl) rfl rfl ?_
  apply zz
  refine Cd.ra (h := ?_)
  apply Run.by_eq
  · intro self
    conv => lhs; simp -implicitDefEqProofs (maxSteps := 300000) (disch := omega) [-getElem?_pos, -getElem?_neg]
  try (with_reducible refine Run.ret ?_)
  apply zz
  refine Cd.ra (h := ?_)
  apply Run.by_eq
  · intro self
    conv => lhs; simp -implicitDefEqProofs (maxSteps := 300000) (disch := omega) [-getElem?_pos, -getElem?_neg]
  try (with_reducible refine Run.ret ?_)
  apply zz
  refine Cd.inv (fun w f s' => ∃ k : Nat, k ≤ 4 ∧ w = 4 - k ∧ f.marks = [] ∧ f.get 10 = .int .i64 k ∧ f.get 9 = .agg [.int .i64 m.a, .int .i64 m.b, .int .i64 m.c, .int .i64 m.d].toArray ∧ f.get 1 = .int .i64 lo ∧ f.get 2 = .int .i64 hi ∧ Keep s s' ∧ (∀ j, j < k → lo ≤ m.at j ∧ m.at j ≤ hi)) 4 ?_ ?_
  · exact ⟨0, by omega, rfl, by simp, by simp, by simp, by simp, by simp, (Keep.refl _).pushed _, fun j hj => absurd hj (by omega)⟩
  rintro w f s' ⟨k, hk, rfl, hm, h10, h9, h1, h2, hkp, hall⟩
  by_cases hk4 : k < 4
  · have hat := m.cs_at hk4
    apply zz
    refine Cd.ra (h := ?_)
    apply Run.by_eq
    · intro self
      conv => lhs; simp -implicitDefEqProofs (maxSteps := 300000) (disch := omega) [-getElem?_pos, -getElem?_neg, h10]
    try (with_reducible refine Run.ret ?_)
    apply zz
    apply Cd.ite rfl
    · conv => lhs; simp -implicitDefEqProofs (maxSteps := 300000) (disch := omega) [-getElem?_pos, -getElem?_neg]
    all_goals intro c0
    all_goals try (cases c0; done)
    all_goals try simp only [Bool.not_eq_true', Bool.not_eq_false', decide_eq_true_eq, decide_eq_false_iff_not] at c0
    all_goals apply zz
    · apply zz
      refine Cd.ra (h := ?_)
      apply Run.by_eq
      · intro self
        conv => lhs; simp -implicitDefEqProofs (maxSteps := 300000) (disch := omega) [-getElem?_pos, -getElem?_neg, h10, h9, hat]
      try (with_reducible refine Run.ret ?_)
      apply zz
      by_cases q1 : m.at k < lo
      · apply zz
        refine Cd.ra (h := ?_)
        apply Run.by_eq
        · intro self
          conv => lhs; simp -implicitDefEqProofs (maxSteps := 300000) (disch := omega) [-getElem?_pos, -getElem?_neg, q1, h1, h2]
        try (with_reducible refine Run.ret ?_)
        apply zz
        apply Cd.ite rfl
        · conv => lhs; simp -implicitDefEqProofs (maxSteps := 300000) (disch := omega) [-getElem?_pos, -getElem?_neg]
        all_goals intro c1
        all_goals try (cases c1; done)
        all_goals try simp only [Bool.not_eq_true', Bool.not_eq_false', decide_eq_true_eq, decide_eq_false_iff_not] at c1
        all_goals apply zz
        apply zz
        refine Cd.ra (h := ?_)
        apply Run.by_eq
        · intro self
          conv => lhs; simp -implicitDefEqProofs (maxSteps := 300000) (disch := omega) [-getElem?_pos, -getElem?_neg]
        try (with_reducible refine Run.ret ?_)
        apply zz
        apply Leave.mk (by first | exact .inl rfl | exact .inr rfl) (by simp only [Fr.marks_put, fr0_marks, hm])
        · conv => lhs; simp -implicitDefEqProofs (disch := omega) [Try.results54, hm]
        exact ⟨by rw [eachB_false hk4 (.inl q1)]; rfl, hkp⟩
      by_cases q2 : hi < m.at k
      · apply zz
        refine Cd.ra (h := ?_)
        apply Run.by_eq
        · intro self
          conv => lhs; simp -implicitDefEqProofs (maxSteps := 300000) (disch := omega) [-getElem?_pos, -getElem?_neg, q1, q2, h1, h2]
        try (with_reducible refine Run.ret ?_)
        apply zz
        apply Cd.ite rfl
        · conv => lhs; simp -implicitDefEqProofs (maxSteps := 300000) (disch := omega) [-getElem?_pos, -getElem?_neg]
        all_goals intro c1
        all_goals try (cases c1; done)
        all_goals try simp only [Bool.not_eq_true', Bool.not_eq_false', decide_eq_true_eq, decide_eq_false_iff_not] at c1
        all_goals apply zz
        apply zz
        refine Cd.ra (h := ?_)
        apply Run.by_eq
        · intro self
          conv => lhs; simp -implicitDefEqProofs (maxSteps := 300000) (disch := omega) [-getElem?_pos, -getElem?_neg]
        try (with_reducible refine Run.ret ?_)
        apply zz
        apply Leave.mk (by first | exact .inl rfl | exact .inr rfl) (by simp only [Fr.marks_put, fr0_marks, hm])
        · conv => lhs; simp -implicitDefEqProofs (disch := omega) [Try.results54, hm]
        exact ⟨by rw [eachB_false hk4 (.inr q2)]; rfl, hkp⟩
      · apply zz
        refine Cd.ra (h := ?_)
        apply Run.by_eq
        · intro self
          conv => lhs; simp -implicitDefEqProofs (maxSteps := 300000) (disch := omega) [-getElem?_pos, -getElem?_neg, q1, q2, h1, h2]
        try (with_reducible refine Run.ret ?_)
        apply zz
        apply Cd.ite rfl
        · conv => lhs; simp -implicitDefEqProofs (maxSteps := 300000) (disch := omega) [-getElem?_pos, -getElem?_neg]
        all_goals intro c1
        all_goals try (cases c1; done)
        all_goals try simp only [Bool.not_eq_true', Bool.not_eq_false', decide_eq_true_eq, decide_eq_false_iff_not] at c1
        all_goals apply zz
        apply zz
        refine Cd.ra (h := ?_)
        apply Run.by_eq
        · intro self
          conv => lhs; simp -implicitDefEqProofs (maxSteps := 300000) (disch := omega) [-getElem?_pos, -getElem?_neg, h10]
        try (with_reducible refine Run.ret ?_)
        apply zz
        refine LoopK.nm (4 - (k + 1)) (by omega) ⟨k + 1, by omega, rfl, by simp [hm], by simp, by simp [h9], by simp [h1], by simp [h2], hkp, fun j hj => ?_⟩
        by_cases e : j = k
        · subst e; omega
        · exact hall j (by omega)
    · simp at c0; omega
  · obtain rfl : k = 4 := by omega
    apply zz
    refine Cd.ra (h := ?_)
    apply Run.by_eq
    · intro self
      conv => lhs; simp -implicitDefEqProofs (maxSteps := 300000) (disch := omega) [-getElem?_pos, -getElem?_neg, h10]
    try (with_reducible refine Run.ret ?_)
    apply zz
    apply Cd.ite rfl
    · conv => lhs; simp -implicitDefEqProofs (maxSteps := 300000) (disch := omega) [-getElem?_pos, -getElem?_neg]
    all_goals intro c0
    all_goals try (cases c0; done)
    all_goals try simp only [Bool.not_eq_true', Bool.not_eq_false', decide_eq_true_eq, decide_eq_false_iff_not] at c0
    all_goals apply zz
    apply zz
    refine Cd.ra (h := ?_)
    apply Run.by_eq
    · intro self
      conv => lhs; simp -implicitDefEqProofs (maxSteps := 300000) (disch := omega) [-getElem?_pos, -getElem?_neg]
    try (with_reducible refine Run.ret ?_)
    apply zz
    apply Leave.mk (by first | exact .inl rfl | exact .inr rfl) (by simp only [Fr.marks_put, fr0_marks, hm])
    · conv => lhs; simp -implicitDefEqProofs (disch := omega) [Try.results54, hm]
    exact ⟨by rw [eachB_true (fun j hj => hall j hj)]; rfl, hkp⟩
end Go.Proofs.Ytjehpgflhgpalaa
namespace Go.Proofs.Ytjehpgflhgpalaa
open Go Kern
structure FlowD where
  fr : Int
  to : Int
  me : Bool
  m : Mass
def FlowD.cs (f : FlowD) : List Value := [.int .i64 f.fr, .int .i64 f.to, .bool f.me, .int .i64 f.m.a, .int .i64 f.m.b, .int .i64 f.m.c, .int .i64 f.m.d]
def FlowD.v (f : FlowD) : Value := .agg f.cs.toArray
def flowErr (u : Int) (f : FlowD) : Int :=
  if !endB u f.fr || !endB u f.to then 17 else if f.fr = f.to then 22 else if f.me && !eachB f.m 0 1000000000 then 2 else 0
set_option maxRecDepth 100000 in
set_option maxHeartbeats 1000000 in
theorem flowError_ev (u : Int) (f : FlowD) (fl : Value) (s : St) : Ev TT 45 [plantV u fl, f.v] s fun v s' => v = .int .i64 (flowErr u f) ∧ Keep s s' := by
  have hE := isEnd_ev u
  unfold plantV at hE ⊢
  obtain ⟨f0, f1, fm, m⟩ := f
  unfold FlowD.v FlowD.cs
  simp only []
  refine Ev.intro (fn := Try.f45) rfl (by kernel_rfl) rfl rfl ?_
  apply zz
  refine Cd.ra (h := ?_)
  apply Run.by_eq
  · intro self
    conv => lhs; simp -implicitDefEqProofs (maxSteps := 300000) (disch := omega) [-getElem?_pos, -getElem?_neg]
  try (with_reducible refine Run.ret ?_)
  apply zz
  refine Cd.ra (h := ?_)
  apply Run.by_eq
  · intro self
    conv => lhs; simp -implicitDefEqProofs (maxSteps := 300000) (disch := omega) [-getElem?_pos, -getElem?_neg]
  try (with_reducible refine Run.ret ?_)
  apply zz
  refine Run.call ((hE f0 fl _).mono fun v wk hv => ?_)
  obtain ⟨rfl, k⟩ := hv
  have ka := k.1
  have kb := k.2
  try simp only [pushed_next', upded_next'] at ka kb
  cases hA : endB u f0 with
  | false =>
    apply Run.by_eq
    · intro self
      conv => lhs; simp -implicitDefEqProofs (maxSteps := 300000) (disch := omega) [-getElem?_pos, -getElem?_neg, hA]
    try (with_reducible refine Run.ret ?_)
    apply zz
    apply Cd.ite rfl
    · conv => lhs; simp -implicitDefEqProofs (maxSteps := 300000) (disch := omega) [-getElem?_pos, -getElem?_neg]
    all_goals intro c1
    all_goals try (cases c1; done)
    all_goals try simp only [Bool.not_eq_true', Bool.not_eq_false', decide_eq_true_eq, decide_eq_false_iff_not] at c1
    all_goals apply zz
    apply zz
    refine Cd.ra (h := ?_)
    apply Run.by_eq
    · intro self
      conv => lhs; simp -implicitDefEqProofs (maxSteps := 300000) (disch := omega) [-getElem?_pos, -getElem?_neg]
    try (with_reducible refine Run.ret ?_)
    apply zz
    apply Leave.mk (by first | exact .inl rfl | exact .inr rfl) (by simp only [Fr.marks_put, fr0_marks])
    · conv => lhs; simp -implicitDefEqProofs (disch := omega) [Try.results45]
    refine ⟨by simp [flowErr, hA], ?_⟩
    exact ⟨by (try simp only [pushed_next', upded_next']); omega, fun i hi => by simp -implicitDefEqProofs (disch := omega) [kb]⟩
  | true =>
    apply Run.by_eq
    · intro self
      conv => lhs; simp -implicitDefEqProofs (maxSteps := 300000) (disch := omega) [-getElem?_pos, -getElem?_neg, hA, kb]
    try (with_reducible refine Run.ret ?_)
    apply zz
    refine Run.call ((hE f1 fl _).mono fun v wl hv => ?_)
    obtain ⟨rfl, l⟩ := hv
    have la := l.1
    have lb := l.2
    try simp only [pushed_next', upded_next'] at la lb
    cases hB : endB u f1 with
    | false =>
      apply Run.by_eq
      · intro self
        conv => lhs; simp -implicitDefEqProofs (maxSteps := 300000) (disch := omega) [-getElem?_pos, -getElem?_neg, hB]
      try (with_reducible refine Run.ret ?_)
      apply zz
      apply Cd.ite rfl
      · conv => lhs; simp -implicitDefEqProofs (maxSteps := 300000) (disch := omega) [-getElem?_pos, -getElem?_neg]
      all_goals intro c1
      all_goals try (cases c1; done)
      all_goals try simp only [Bool.not_eq_true', Bool.not_eq_false', decide_eq_true_eq, decide_eq_false_iff_not] at c1
      all_goals apply zz
      apply zz
      refine Cd.ra (h := ?_)
      apply Run.by_eq
      · intro self
        conv => lhs; simp -implicitDefEqProofs (maxSteps := 300000) (disch := omega) [-getElem?_pos, -getElem?_neg]
      try (with_reducible refine Run.ret ?_)
      apply zz
      apply Leave.mk (by first | exact .inl rfl | exact .inr rfl) (by simp only [Fr.marks_put, fr0_marks])
      · conv => lhs; simp -implicitDefEqProofs (disch := omega) [Try.results45]
      refine ⟨by simp [flowErr, hA, hB], ?_⟩
      exact ⟨by (try simp only [pushed_next', upded_next']); omega, fun i hi => by simp -implicitDefEqProofs (disch := omega) [kb, lb]⟩
    | true =>
      apply Run.by_eq
      · intro self
        conv => lhs; simp -implicitDefEqProofs (maxSteps := 300000) (disch := omega) [-getElem?_pos, -getElem?_neg, hB]
      try (with_reducible refine Run.ret ?_)
      apply zz
      apply Cd.ite rfl
      · conv => lhs; simp -implicitDefEqProofs (maxSteps := 300000) (disch := omega) [-getElem?_pos, -getElem?_neg]
      all_goals intro c1
      all_goals try (cases c1; done)
      all_goals try simp only [Bool.not_eq_true', Bool.not_eq_false', decide_eq_true_eq, decide_eq_false_iff_not] at c1
      all_goals apply zz
      apply zz
      refine Cd.ra (h := ?_)
      apply Run.by_eq
      · intro self
        conv => lhs; simp -implicitDefEqProofs (maxSteps := 300000) (disch := omega) [-getElem?_pos, -getElem?_neg, kb, lb]
      try (with_reducible refine Run.ret ?_)
      apply zz
      apply Cd.ite rfl
      · conv => lhs; simp -implicitDefEqProofs (maxSteps := 300000) (disch := omega) [-getElem?_pos, -getElem?_neg]
      all_goals intro c2
      all_goals try (cases c2; done)
      all_goals try simp only [Bool.not_eq_true', Bool.not_eq_false', decide_eq_true_eq, decide_eq_false_iff_not] at c2
      all_goals apply zz
      · apply zz
        refine Cd.ra (h := ?_)
        apply Run.by_eq
        · intro self
          conv => lhs; simp -implicitDefEqProofs (maxSteps := 300000) (disch := omega) [-getElem?_pos, -getElem?_neg]
        try (with_reducible refine Run.ret ?_)
        apply zz
        apply Leave.mk (by first | exact .inl rfl | exact .inr rfl) (by simp only [Fr.marks_put, fr0_marks])
        · conv => lhs; simp -implicitDefEqProofs (disch := omega) [Try.results45]
        refine ⟨by simp [flowErr, hA, hB, c2], ?_⟩
        exact ⟨by (try simp only [pushed_next', upded_next']); omega, fun i hi => by simp -implicitDefEqProofs (disch := omega) [kb, lb]⟩
      · cases fm with
        | false =>
          apply zz
          refine Cd.ra (h := ?_)
          apply Run.by_eq
          · intro self
            conv => lhs; simp -implicitDefEqProofs (maxSteps := 300000) (disch := omega) [-getElem?_pos, -getElem?_neg, kb, lb]
          try (with_reducible refine Run.ret ?_)
          apply zz
          apply Cd.ite rfl
          · conv => lhs; simp -implicitDefEqProofs (maxSteps := 300000) (disch := omega) [-getElem?_pos, -getElem?_neg]
          all_goals intro c3
          all_goals try (cases c3; done)
          all_goals try simp only [Bool.not_eq_true', Bool.not_eq_false', decide_eq_true_eq, decide_eq_false_iff_not] at c3
          all_goals apply zz
          apply zz
          refine Cd.ra (h := ?_)
          apply Run.by_eq
          · intro self
            conv => lhs; simp -implicitDefEqProofs (maxSteps := 300000) (disch := omega) [-getElem?_pos, -getElem?_neg]
          try (with_reducible refine Run.ret ?_)
          apply zz
          apply Leave.mk (by first | exact .inl rfl | exact .inr rfl) (by simp only [Fr.marks_put, fr0_marks])
          · conv => lhs; simp -implicitDefEqProofs (disch := omega) [Try.results45]
          refine ⟨by simp [flowErr, hA, hB, c2], ?_⟩
          exact ⟨by (try simp only [pushed_next', upded_next']); omega, fun i hi => by simp -implicitDefEqProofs (disch := omega) [kb, lb]⟩
        | true =>
          apply zz
          refine Cd.ra (h := ?_)
          apply Run.by_eq
          · intro self
            conv => lhs; simp -implicitDefEqProofs (maxSteps := 300000) (disch := omega) [-getElem?_pos, -getElem?_neg, kb, lb]
          try (with_reducible refine Run.ret ?_)
          apply zz
          refine Run.call ((within_ev m 0 1000000000 _).mono fun v wn hv => ?_)
          obtain ⟨rfl, n⟩ := hv
          have na := n.1
          have nb := n.2
          try simp only [pushed_next', upded_next'] at na nb
          apply Run.by_eq
          · intro self
            conv => lhs; simp -implicitDefEqProofs (maxSteps := 300000) (disch := omega) [-getElem?_pos, -getElem?_neg]
          try (with_reducible refine Run.ret ?_)
          apply zz
          apply Cd.ite rfl
          · conv => lhs; simp -implicitDefEqProofs (maxSteps := 300000) (disch := omega) [-getElem?_pos, -getElem?_neg]
          all_goals intro c3
          all_goals try (cases c3; done)
          all_goals try simp only [Bool.not_eq_true', Bool.not_eq_false', decide_eq_true_eq, decide_eq_false_iff_not] at c3
          all_goals apply zz
          · apply zz
            refine Cd.ra (h := ?_)
            apply Run.by_eq
            · intro self
              conv => lhs; simp -implicitDefEqProofs (maxSteps := 300000) (disch := omega) [-getElem?_pos, -getElem?_neg]
            try (with_reducible refine Run.ret ?_)
            apply zz
            apply Leave.mk (by first | exact .inl rfl | exact .inr rfl) (by simp only [Fr.marks_put, fr0_marks])
            · conv => lhs; simp -implicitDefEqProofs (disch := omega) [Try.results45]
            refine ⟨by simp [flowErr, hA, hB, c2, c3], ?_⟩
            exact ⟨by (try simp only [pushed_next', upded_next']); omega, fun i hi => by simp -implicitDefEqProofs (disch := omega) [kb, lb, nb]⟩
          · apply zz
            refine Cd.ra (h := ?_)
            apply Run.by_eq
            · intro self
              conv => lhs; simp -implicitDefEqProofs (maxSteps := 300000) (disch := omega) [-getElem?_pos, -getElem?_neg]
            try (with_reducible refine Run.ret ?_)
            apply zz
            apply Leave.mk (by first | exact .inl rfl | exact .inr rfl) (by simp only [Fr.marks_put, fr0_marks])
            · conv => lhs; simp -implicitDefEqProofs (disch := omega) [Try.results45]
            refine ⟨by simp [flowErr, hA, hB, c2, c3], ?_⟩
            exact ⟨by (try simp only [pushed_next', upded_next']); omega, fun i hi => by simp -implicitDefEqProofs (disch := omega) [kb, lb, nb]⟩
def firstErr (u : Int) : List FlowD → Int
  | [] => 0
  | f :: r => if flowErr u f = 0 then firstErr u r else flowErr u f
theorem firstErr_zero {u : Int} : ∀ {fs : List FlowD}, (∀ (j : Nat) (f : FlowD), fs[j]? = some f → flowErr u f = 0) → firstErr u fs = 0
  | [], _ => rfl
  | f :: r, h => by
    have h0 := h 0 f rfl
    simp only [firstErr, h0, if_true]
    exact firstErr_zero fun j f hj => h (j + 1) f (by simpa using hj)
theorem firstErr_at {u : Int} : ∀ {fs : List FlowD} {k : Nat} {f : FlowD}, (∀ (j : Nat) (f : FlowD), j < k → fs[j]? = some f → flowErr u f = 0) → fs[k]? = some f → flowErr u f ≠ 0 → firstErr u fs = flowErr u f
  | [], k, f, _, h, _ => by simp at h
  | g :: r, 0, f, _, h, hne => by simp at h; subst h; simp [firstErr, hne]
  | g :: r, k + 1, f, hz, h, hne => by
    have h0 := hz 0 g (by omega) rfl
    simp only [firstErr, h0, if_true]
    exact firstErr_at (k := k) (fun j f hj hf => hz (j + 1) f (by omega) (by simpa using hf)) (by simpa using h) hne
abbrev FlAt (s : St) (v : Value) (fs : List FlowD) : Prop := SlAt 7 s v (fs.map FlowD.cs)
theorem FlAt.at {s : St} {a : Option Addr} {m c : Nat} {fs : List FlowD} (h : FlAt s (.slice a m c) fs) {k : Nat} {f : FlowD} (hk : fs[k]? = some f) :
    ∃ b off o cs g, a = some ⟨b, off, none⟩ ∧ b < s.next ∧ s.heap.get b = some o ∧ cellsOf o = some (cs, g) ∧ takeL 7 (cs.drop (off + k * 7)) = some f.cs :=
  SlAt.at h (by rw [List.getElem?_map, hk]; rfl)
set_option maxRecDepth 100000 in
set_option maxHeartbeats 1000000 in
theorem firstError_ev (u : Int) (fl v : Value) (fs : List FlowD) (s : St) (hf : FlAt s v fs) (hl : fs.length ≤ 1000000) :
    Ev TT 44 [v, .func (.func 45) #[plantV u fl] #[]] s fun r s' => r = .int .i64 (firstErr u fs) ∧ Keep s s' := by
  obtain ⟨a, c, rfl⟩ := hf.shape
  rw [List.length_map] at hf ⊢
  refine Ev.intro (fn := Try.f44) rfl (by kernel_rfl) rfl rfl ?_
  apply zz
  refine Cd.ra (h := ?_)
  apply Run.by_eq
  · intro self
    conv => lhs; simp -implicitDefEqProofs (maxSteps := 300000) (disch := omega) [-getElem?_pos, -getElem?_neg]
  try (with_reducible refine Run.ret ?_)
  apply zz
  refine Cd.ra (h := ?_)
  apply Run.by_eq
  · intro self
    conv => lhs; simp -implicitDefEqProofs (maxSteps := 300000) (disch := omega) [-getElem?_pos, -getElem?_neg]
  try (with_reducible refine Run.ret ?_)
  apply zz
  refine Cd.inv (fun w f s' => ∃ k : Nat, k ≤ fs.length ∧ w = fs.length - k ∧ f.marks = [] ∧ f.get 10 = .int .i64 k ∧ f.get 9 = .int .i64 fs.length ∧ f.get 8 = .slice a fs.length c ∧ f.get 1 = .func (.func 45) #[plantV u fl] #[] ∧ Keep s s' ∧ (∀ (j : Nat) (g : FlowD), j < k → fs[j]? = some g → flowErr u g = 0)) fs.length ?_ ?_
  · exact ⟨0, by omega, rfl, by simp, by simp, by simp, by simp, by simp, Keep.refl _, fun j g hj => absurd hj (by omega)⟩
  rintro w f s' ⟨k, hk, rfl, hm, h10, h9, h8, h1, hkp, hz⟩
  have hkpa := hkp.1
  by_cases hlt : k < fs.length
  · obtain ⟨g, hg⟩ : ∃ g, fs[k]? = some g := ⟨fs[k], by simp [hlt]⟩
    obtain ⟨b, off, o, cs, gg, rfl, hb, ho, hc, ht⟩ := FlAt.at (hf.keep hkp) hg
    rw [FlowD.cs] at ht
    apply zz
    refine Cd.ra (h := ?_)
    apply Run.by_eq
    · intro self
      conv => lhs; simp -implicitDefEqProofs (maxSteps := 300000) (disch := omega) [-getElem?_pos, -getElem?_neg, h10, h9]
    try (with_reducible refine Run.ret ?_)
    apply zz
    apply Cd.ite rfl
    · conv => lhs; simp -implicitDefEqProofs (maxSteps := 300000) (disch := omega) [-getElem?_pos, -getElem?_neg]
    all_goals intro c0
    all_goals try (cases c0; done)
    all_goals try simp only [Bool.not_eq_true', Bool.not_eq_false', decide_eq_true_eq, decide_eq_false_iff_not] at c0
    all_goals apply zz
    · apply zz
      refine Cd.ra (h := ?_)
      apply Run.by_eq
      · intro self
        conv => lhs; simp -implicitDefEqProofs (maxSteps := 300000) (disch := omega) [-getElem?_pos, -getElem?_neg, h10, h9, h8, ho, hc, ht, hlt]
      try (with_reducible refine Run.ret ?_)
      apply zz
      refine Cd.ra (h := ?_)
      apply Run.by_eq
      · intro self
        conv => lhs; simp -implicitDefEqProofs (maxSteps := 300000) (disch := omega) [-getElem?_pos, -getElem?_neg, h1]
      try (with_reducible refine Run.ret ?_)
      apply zz
      refine Run.call ((flowError_ev u g fl _).mono fun v wk1 hv => ?_)
      obtain ⟨rfl, k1⟩ := hv
      have k1a := k1.1
      have k1b := k1.2
      try simp only [pushed_next', upded_next'] at k1a k1b
      apply Run.by_eq
      · intro self
        conv => lhs; simp -implicitDefEqProofs (maxSteps := 300000) (disch := omega) [-getElem?_pos, -getElem?_neg]
      try (with_reducible refine Run.ret ?_)
      apply zz
      refine Cd.ra (h := ?_)
      apply Run.by_eq
      · intro self
        conv => lhs; simp -implicitDefEqProofs (maxSteps := 300000) (disch := omega) [-getElem?_pos, -getElem?_neg]
      try (with_reducible refine Run.ret ?_)
      apply zz
      apply Cd.ite rfl
      · conv => lhs; simp -implicitDefEqProofs (maxSteps := 300000) (disch := omega) [-getElem?_pos, -getElem?_neg]
      all_goals intro c2
      all_goals try (cases c2; done)
      all_goals try simp only [Bool.not_eq_true', Bool.not_eq_false', decide_eq_true_eq, decide_eq_false_iff_not] at c2
      all_goals apply zz
      · apply zz
        refine Cd.ra (h := ?_)
        apply Run.by_eq
        · intro self
          conv => lhs; simp -implicitDefEqProofs (maxSteps := 300000) (disch := omega) [-getElem?_pos, -getElem?_neg]
        try (with_reducible refine Run.ret ?_)
        apply zz
        apply Leave.mk (by first | exact .inl rfl | exact .inr rfl) (by simp only [Fr.marks_put, fr0_marks, hm])
        · conv => lhs; simp -implicitDefEqProofs (disch := omega) [Try.results44, hm]
        refine ⟨by rw [firstErr_at hz hg c2]; rfl, ?_⟩
        exact ⟨by (try simp only [pushed_next', upded_next']); omega, fun i hi => by simp -implicitDefEqProofs (disch := omega) [k1b, hkp.2]⟩
      · apply zz
        refine Cd.ra (h := ?_)
        apply Run.by_eq
        · intro self
          conv => lhs; simp -implicitDefEqProofs (maxSteps := 300000) (disch := omega) [-getElem?_pos, -getElem?_neg, h10]
        try (with_reducible refine Run.ret ?_)
        apply zz
        refine LoopK.nm (fs.length - (k + 1)) (by omega) ⟨k + 1, by omega, rfl, by simp [hm], by simp, by simp [h9], by simp [h8], by simp [h1], ?_, fun j g' hj hg' => ?_⟩
        · exact ⟨by (try simp only [pushed_next', upded_next']); omega, fun i hi => by simp -implicitDefEqProofs (disch := omega) [k1b, hkp.2]⟩
        · by_cases e : j = k
          · subst e
            rw [hg] at hg'
            cases hg'
            exact c2
          · exact hz j g' (by omega) hg'
    · simp at c0; omega
  · obtain rfl : k = fs.length := by omega
    apply zz
    refine Cd.ra (h := ?_)
    apply Run.by_eq
    · intro self
      conv => lhs; simp -implicitDefEqProofs (maxSteps := 300000) (disch := omega) [-getElem?_pos, -getElem?_neg, h10, h9]
    try (with_reducible refine Run.ret ?_)
    apply zz
    apply Cd.ite rfl
    · conv => lhs; simp -implicitDefEqProofs (maxSteps := 300000) (disch := omega) [-getElem?_pos, -getElem?_neg]
    all_goals intro c0
    all_goals try (cases c0; done)
    all_goals try simp only [Bool.not_eq_true', Bool.not_eq_false', decide_eq_true_eq, decide_eq_false_iff_not] at c0
    all_goals apply zz
    apply zz
    refine Cd.ra (h := ?_)
    apply Run.by_eq
    · intro self
      conv => lhs; simp -implicitDefEqProofs (maxSteps := 300000) (disch := omega) [-getElem?_pos, -getElem?_neg]
    try (with_reducible refine Run.ret ?_)
    apply zz
    apply Leave.mk (by first | exact .inl rfl | exact .inr rfl) (by simp only [Fr.marks_put, fr0_marks, hm])
    · conv => lhs; simp -implicitDefEqProofs (disch := omega) [Try.results44, hm]
    exact ⟨by rw [firstErr_zero fun j g hg => hz j g (List.getElem?_eq_some_iff.1 hg).1 hg]; rfl, hkp⟩
def checkErr (u : Int) (fs : List FlowD) : Int := if u < 1 ∨ 8 < u then 2 else if 20 < fs.length then 1 else firstErr u fs
set_option maxRecDepth 100000 in
set_option maxHeartbeats 1000000 in
theorem check_ev (u : Int) (v : Value) (fs : List FlowD) (s : St) (hf : FlAt s v fs) (hl : fs.length ≤ 1000000) :
    Ev TT 21 [plantV u v] s fun r s' => r = .int .i64 (checkErr u fs) ∧ Keep s s' := by
  obtain ⟨a, c, rfl⟩ := hf.shape
  rw [List.length_map] at hf ⊢
  unfold plantV
  refine Ev.intro (fn := Try.f21) rfl (by kernel_rfl) rfl rfl ?_
  apply zz
  refine Cd.ra (h := ?_)
  apply Run.by_eq
  · intro self
    conv => lhs; simp -implicitDefEqProofs (maxSteps := 300000) (disch := omega) [-getElem?_pos, -getElem?_neg]
  try (with_reducible refine Run.ret ?_)
  apply zz
  by_cases h1 : u < 1
  · apply zz
    refine Cd.ra (h := ?_)
    apply Run.by_eq
    · intro self
      conv => lhs; simp -implicitDefEqProofs (maxSteps := 300000) (disch := omega) [-getElem?_pos, -getElem?_neg, h1]
    try (with_reducible refine Run.ret ?_)
    apply zz
    apply Cd.ite rfl
    · conv => lhs; simp -implicitDefEqProofs (maxSteps := 300000) (disch := omega) [-getElem?_pos, -getElem?_neg]
    all_goals intro c0
    all_goals try (cases c0; done)
    all_goals try simp only [Bool.not_eq_true', Bool.not_eq_false', decide_eq_true_eq, decide_eq_false_iff_not] at c0
    all_goals apply zz
    apply zz
    refine Cd.ra (h := ?_)
    apply Run.by_eq
    · intro self
      conv => lhs; simp -implicitDefEqProofs (maxSteps := 300000) (disch := omega) [-getElem?_pos, -getElem?_neg]
    try (with_reducible refine Run.ret ?_)
    apply zz
    apply Leave.mk (by first | exact .inl rfl | exact .inr rfl) (by simp only [Fr.marks_put, fr0_marks])
    · conv => lhs; simp -implicitDefEqProofs (disch := omega) [Try.results21]
    exact ⟨by simp [checkErr, h1], (Keep.refl _).pushed _⟩
  by_cases h2 : 8 < u
  · apply zz
    refine Cd.ra (h := ?_)
    apply Run.by_eq
    · intro self
      conv => lhs; simp -implicitDefEqProofs (maxSteps := 300000) (disch := omega) [-getElem?_pos, -getElem?_neg, h1, h2]
    try (with_reducible refine Run.ret ?_)
    apply zz
    apply Cd.ite rfl
    · conv => lhs; simp -implicitDefEqProofs (maxSteps := 300000) (disch := omega) [-getElem?_pos, -getElem?_neg]
    all_goals intro c0
    all_goals try (cases c0; done)
    all_goals try simp only [Bool.not_eq_true', Bool.not_eq_false', decide_eq_true_eq, decide_eq_false_iff_not] at c0
    all_goals apply zz
    apply zz
    refine Cd.ra (h := ?_)
    apply Run.by_eq
    · intro self
      conv => lhs; simp -implicitDefEqProofs (maxSteps := 300000) (disch := omega) [-getElem?_pos, -getElem?_neg]
    try (with_reducible refine Run.ret ?_)
    apply zz
    apply Leave.mk (by first | exact .inl rfl | exact .inr rfl) (by simp only [Fr.marks_put, fr0_marks])
    · conv => lhs; simp -implicitDefEqProofs (disch := omega) [Try.results21]
    exact ⟨by simp [checkErr, h2], (Keep.refl _).pushed _⟩
  apply zz
  refine Cd.ra (h := ?_)
  apply Run.by_eq
  · intro self
    conv => lhs; simp -implicitDefEqProofs (maxSteps := 300000) (disch := omega) [-getElem?_pos, -getElem?_neg, h1, h2]
  try (with_reducible refine Run.ret ?_)
  apply zz
  apply Cd.ite rfl
  · conv => lhs; simp -implicitDefEqProofs (maxSteps := 300000) (disch := omega) [-getElem?_pos, -getElem?_neg]
  all_goals intro c0
  all_goals try (cases c0; done)
  all_goals try simp only [Bool.not_eq_true', Bool.not_eq_false', decide_eq_true_eq, decide_eq_false_iff_not] at c0
  all_goals apply zz
  apply zz
  refine Cd.ra (h := ?_)
  apply Run.by_eq
  · intro self
    conv => lhs; simp -implicitDefEqProofs (maxSteps := 300000) (disch := omega) [-getElem?_pos, -getElem?_neg]
  try (with_reducible refine Run.ret ?_)
  apply zz
  apply Cd.ite rfl
  · conv => lhs; simp -implicitDefEqProofs (maxSteps := 300000) (disch := omega) [-getElem?_pos, -getElem?_neg]
  all_goals intro c1
  all_goals try (cases c1; done)
  all_goals try simp only [Bool.not_eq_true', Bool.not_eq_false', decide_eq_true_eq, decide_eq_false_iff_not] at c1
  all_goals apply zz
  · apply zz
    refine Cd.ra (h := ?_)
    apply Run.by_eq
    · intro self
      conv => lhs; simp -implicitDefEqProofs (maxSteps := 300000) (disch := omega) [-getElem?_pos, -getElem?_neg]
    try (with_reducible refine Run.ret ?_)
    apply zz
    apply Leave.mk (by first | exact .inl rfl | exact .inr rfl) (by simp only [Fr.marks_put, fr0_marks])
    · conv => lhs; simp -implicitDefEqProofs (disch := omega) [Try.results21]
    refine ⟨?_, (Keep.refl _).pushed _⟩
    unfold checkErr; rw [if_neg (by omega), if_pos (by omega)]; rfl
  · apply zz
    refine Cd.ra (h := ?_)
    apply Run.by_eq
    · intro self
      conv => lhs; simp -implicitDefEqProofs (maxSteps := 300000) (disch := omega) [-getElem?_pos, -getElem?_neg]
    try (with_reducible refine Run.ret ?_)
    apply zz
    refine Run.call ((firstError_ev u (.slice a fs.length c) _ fs _ (hf.keep ((Keep.refl _).pushed _)) hl).mono fun v wk hv => ?_)
    obtain ⟨rfl, k⟩ := hv
    have ka := k.1
    have kb := k.2
    try simp only [pushed_next', upded_next'] at ka kb
    apply Run.by_eq
    · intro self
      conv => lhs; simp -implicitDefEqProofs (maxSteps := 300000) (disch := omega) [-getElem?_pos, -getElem?_neg]
    try (with_reducible refine Run.ret ?_)
    apply zz
    apply Leave.mk (by first | exact .inl rfl | exact .inr rfl) (by simp only [Fr.marks_put, fr0_marks])
    · conv => lhs; simp -implicitDefEqProofs (disch := omega) [Try.results21]
    refine ⟨?_, ((Keep.refl _).pushed _).trans k⟩
    unfold checkErr; rw [if_neg (by omega), if_neg (by omega)]; rfl
end Go.Proofs.Ytjehpgflhgpalaa
namespace Go.Proofs.Ytjehpgflhgpalaa
open Go Kern
abbrev IntsAt (s : St) (v : Value) (xs : List Int) : Prop := SlAt 1 s v (xs.map fun x => [.int .i64 x])
theorem IntsAt.at {s : St} {a : Option Addr} {m c : Nat} {xs : List Int} (h : IntsAt s (.slice a m c) xs) {k : Nat} {x : Int} (hk : xs[k]? = some x) :
    ∃ b off o cs g, a = some ⟨b, off, none⟩ ∧ b < s.next ∧ s.heap.get b = some o ∧ cellsOf o = some (cs, g) ∧ cs[off + k]? = some (.int .i64 x) := by
  obtain ⟨b, off, o, cs, g, h1, h2, h3, h4, h5⟩ := SlAt.at h (k := k) (e := [.int .i64 x]) (by rw [List.getElem?_map, hk]; rfl)
  refine ⟨b, off, o, cs, g, h1, h2, h3, h4, ?_⟩
  have := takeL_one h5
  rw [List.getElem?_drop, Nat.mul_one] at this
  exact this
def indexI (x : Int) : List Int → Nat → Int
  | [], _ => -1
  | y :: r, i => if x = y then i else indexI x r (i + 1)
theorem indexI_none {x : Int} : ∀ {xs : List Int} (i : Nat), (∀ (j : Nat) (y : Int), xs[j]? = some y → x ≠ y) → indexI x xs i = -1
  | [], _, _ => rfl
  | y :: r, i, h => by
    simp only [indexI, if_neg (h 0 y rfl)]
    exact indexI_none (i + 1) fun j y hj => h (j + 1) y (by simpa using hj)
theorem indexI_some {x : Int} : ∀ {xs : List Int} (i k : Nat), (∀ (j : Nat) (y : Int), j < k → xs[j]? = some y → x ≠ y) → xs[k]? = some x → indexI x xs i = ((i + k : Nat) : Int)
  | [], _, _, _, h => by simp at h
  | y :: r, i, 0, _, h => by simp at h; subst h; simp [indexI]
  | y :: r, i, k + 1, hz, h => by
    simp only [indexI, if_neg (hz 0 y (by omega) rfl)]
    rw [indexI_some (i + 1) k (fun j y hj hy => hz (j + 1) y (by omega) (by simpa using hy)) (by simpa using h)]
    congr 1; omega
theorem indexI_mem {x : Int} : ∀ {xs : List Int} (i : Nat), (0 ≤ indexI x xs i) ↔ x ∈ xs
  | [], _ => by simp [indexI]
  | y :: r, i => by
    by_cases e : x = y
    · subst e; simp [indexI]
    · simp [indexI, if_neg e, indexI_mem (xs := r) (i + 1), e]
set_option maxRecDepth 100000 in
set_option maxHeartbeats 1000000 in
theorem index_ev (x : Int) (v : Value) (xs : List Int) (s : St) (hx : IntsAt s v xs) (hl : xs.length ≤ 1000000) :
    Ev TT 70 [v, .int .i64 x] s fun r s' => r = .int .i64 (indexI x xs 0) ∧ Keep s s' := by
  obtain ⟨a, c, rfl⟩ := hx.shape
  rw [List.length_map] at hx ⊢
  refine Ev.intro (fn := Try.f70) rfl (by kernel_rfl) rfl rfl ?_
  apply zz
  refine Cd.ra (h := ?_)
  apply Run.by_eq
  · intro self
    conv => lhs; simp -implicitDefEqProofs (maxSteps := 300000) (disch := omega) [-getElem?_pos, -getElem?_neg]
  try (with_reducible refine Run.ret ?_)
  apply zz
  refine Cd.ra (h := ?_)
  apply Run.by_eq
  · intro self
    conv => lhs; simp -implicitDefEqProofs (maxSteps := 300000) (disch := omega) [-getElem?_pos, -getElem?_neg]
  try (with_reducible refine Run.ret ?_)
  apply zz
  refine Cd.inv (fun w f s' => ∃ k : Nat, k ≤ xs.length ∧ w = xs.length - k ∧ f.marks = [] ∧ f.get 8 = .int .i64 k ∧ f.get 7 = .int .i64 xs.length ∧ f.get 0 = .slice a xs.length c ∧ f.get 1 = .int .i64 x ∧ s' = s ∧ (∀ (j : Nat) (y : Int), j < k → xs[j]? = some y → x ≠ y)) xs.length ?_ ?_
  · exact ⟨0, by omega, rfl, by simp, by simp, by simp, by simp, by simp, rfl, fun j g hj => absurd hj (by omega)⟩
  rintro w f s' ⟨k, hk, rfl, hm, h8, h7, h0, h1, rfl, hz⟩
  by_cases hlt : k < xs.length
  · obtain ⟨y, hy⟩ : ∃ y, xs[k]? = some y := ⟨xs[k], by simp [hlt]⟩
    obtain ⟨b, off, o, cs, gg, rfl, hb, ho, hc, ht⟩ := IntsAt.at hx hy
    apply zz
    refine Cd.ra (h := ?_)
    apply Run.by_eq
    · intro self
      conv => lhs; simp -implicitDefEqProofs (maxSteps := 300000) (disch := omega) [-getElem?_pos, -getElem?_neg, h8, h7]
    try (with_reducible refine Run.ret ?_)
    apply zz
    apply Cd.ite rfl
    · conv => lhs; simp -implicitDefEqProofs (maxSteps := 300000) (disch := omega) [-getElem?_pos, -getElem?_neg]
    all_goals intro c0
    all_goals try (cases c0; done)
    all_goals try simp only [Bool.not_eq_true', Bool.not_eq_false', decide_eq_true_eq, decide_eq_false_iff_not] at c0
    all_goals apply zz
    · apply zz
      refine Cd.ra (h := ?_)
      apply Run.by_eq
      · intro self
        conv => lhs; simp -implicitDefEqProofs (maxSteps := 300000) (disch := omega) [-getElem?_pos, -getElem?_neg, h8]
      try (with_reducible refine Run.ret ?_)
      apply zz
      refine Cd.ra (h := ?_)
      apply Run.by_eq
      · intro self
        conv => lhs; simp -implicitDefEqProofs (maxSteps := 300000) (disch := omega) [-getElem?_pos, -getElem?_neg, h1, h0, ho, hc, ht, hlt]
      try (with_reducible refine Run.ret ?_)
      apply zz
      apply Cd.ite rfl
      · conv => lhs; simp -implicitDefEqProofs (maxSteps := 300000) (disch := omega) [-getElem?_pos, -getElem?_neg]
      all_goals intro c2
      all_goals try (cases c2; done)
      all_goals try simp only [Bool.not_eq_true', Bool.not_eq_false', decide_eq_true_eq, decide_eq_false_iff_not] at c2
      all_goals apply zz
      · apply zz
        refine Cd.ra (h := ?_)
        apply Run.by_eq
        · intro self
          conv => lhs; simp -implicitDefEqProofs (maxSteps := 300000) (disch := omega) [-getElem?_pos, -getElem?_neg]
        try (with_reducible refine Run.ret ?_)
        apply zz
        apply Leave.mk (by first | exact .inl rfl | exact .inr rfl) (by simp only [Fr.marks_put, fr0_marks, hm])
        · conv => lhs; simp -implicitDefEqProofs (disch := omega) [Try.results70, hm]
        subst c2
        exact ⟨by rw [indexI_some 0 k hz hy]; simp [tupled], Keep.refl _⟩
      · apply zz
        refine Cd.ra (h := ?_)
        apply Run.by_eq
        · intro self
          conv => lhs; simp -implicitDefEqProofs (maxSteps := 300000) (disch := omega) [-getElem?_pos, -getElem?_neg, h8]
        try (with_reducible refine Run.ret ?_)
        apply zz
        refine LoopK.nm (xs.length - (k + 1)) (by omega) ⟨k + 1, by omega, rfl, by simp [hm], by simp, by simp [h7], by simp [h0], by simp [h1], rfl, fun j g' hj hg' => ?_⟩
        by_cases e : j = k
        · subst e
          rw [hy] at hg'
          cases hg'
          exact c2
        · exact hz j g' (by omega) hg'
    · simp at c0; omega
  · obtain rfl : k = xs.length := by omega
    apply zz
    refine Cd.ra (h := ?_)
    apply Run.by_eq
    · intro self
      conv => lhs; simp -implicitDefEqProofs (maxSteps := 300000) (disch := omega) [-getElem?_pos, -getElem?_neg, h8, h7]
    try (with_reducible refine Run.ret ?_)
    apply zz
    apply Cd.ite rfl
    · conv => lhs; simp -implicitDefEqProofs (maxSteps := 300000) (disch := omega) [-getElem?_pos, -getElem?_neg]
    all_goals intro c0
    all_goals try (cases c0; done)
    all_goals try simp only [Bool.not_eq_true', Bool.not_eq_false', decide_eq_true_eq, decide_eq_false_iff_not] at c0
    all_goals apply zz
    apply zz
    refine Cd.ra (h := ?_)
    apply Run.by_eq
    · intro self
      conv => lhs; simp -implicitDefEqProofs (maxSteps := 300000) (disch := omega) [-getElem?_pos, -getElem?_neg]
    try (with_reducible refine Run.ret ?_)
    apply zz
    apply Leave.mk (by first | exact .inl rfl | exact .inr rfl) (by simp only [Fr.marks_put, fr0_marks, hm])
    · conv => lhs; simp -implicitDefEqProofs (disch := omega) [Try.results70, hm]
    exact ⟨by rw [indexI_none 0 fun j y hy => hz j y (List.getElem?_eq_some_iff.1 hy).1 hy]; rfl, Keep.refl _⟩
set_option maxRecDepth 100000 in
theorem contains_ev (x : Int) (v : Value) (xs : List Int) (s : St) (hx : IntsAt s v xs) (hl : xs.length ≤ 1000000) :
    Ev TT 60 [v, .int .i64 x] s fun r s' => r = .bool (decide (x ∈ xs)) ∧ Keep s s' := by
  refine Ev.intro (fn := Try.f60) rfl (by kernel_rfl) rfl rfl ?_
  apply zz
  refine Cd.ra (h := ?_)
  apply Run.by_eq
  · intro self
    conv => lhs; simp -implicitDefEqProofs (maxSteps := 300000) (disch := omega) [-getElem?_pos, -getElem?_neg]
  try (with_reducible refine Run.ret ?_)
  apply zz
  refine Cd.ra (h := ?_)
  apply Run.by_eq
  · intro self
    conv => lhs; simp -implicitDefEqProofs (maxSteps := 300000) (disch := omega) [-getElem?_pos, -getElem?_neg]
  try (with_reducible refine Run.ret ?_)
  apply zz
  refine Run.call ((index_ev x v xs _ hx hl).mono fun v wk hv => ?_)
  obtain ⟨rfl, k⟩ := hv
  have ka := k.1
  have kb := k.2
  try simp only [pushed_next', upded_next'] at ka kb
  apply Run.by_eq
  · intro self
    conv => lhs; simp -implicitDefEqProofs (maxSteps := 300000) (disch := omega) [-getElem?_pos, -getElem?_neg]
  try (with_reducible refine Run.ret ?_)
  apply zz
  apply Leave.mk (by first | exact .inl rfl | exact .inr rfl) (by simp only [Fr.marks_put, fr0_marks])
  · conv => lhs; simp -implicitDefEqProofs (disch := omega) [Try.results60]
  refine ⟨?_, k⟩
  have := @indexI_mem x xs 0
  simp [tupled, this]
def Mass.add (m p : Mass) : Mass := ⟨m.a + p.a, m.b + p.b, m.c + p.c, m.d + p.d⟩
def Mass.sub (m p : Mass) : Mass := ⟨m.a - p.a, m.b - p.b, m.c - p.c, m.d - p.d⟩
def Mass.le (m : Mass) (B : Int) : Prop := (-B ≤ m.a ∧ m.a ≤ B) ∧ (-B ≤ m.b ∧ m.b ≤ B) ∧ (-B ≤ m.c ∧ m.c ≤ B) ∧ (-B ≤ m.d ∧ m.d ≤ B)
/-- The first k of one and the rest of the other. -/
def mixL (k : Nat) (x y : Mass) : List Value := [.int .i64 (if 0 < k then x.a else y.a), .int .i64 (if 1 < k then x.b else y.b), .int .i64 (if 2 < k then x.c else y.c), .int .i64 (if 3 < k then x.d else y.d)]
set_option maxRecDepth 100000 in
set_option maxHeartbeats 1000000 in
theorem plus_ev (m p : Mass) (s : St) (hb : (m.add p).le 4611686018427387904) : Ev TT 61 [m.v, p.v] s fun v s' => v = (m.add p).v ∧ Keep s s' := by
  obtain ⟨⟨a1, a2⟩, ⟨b1, b2⟩, ⟨c1, c2⟩, d1, d2⟩ := hb
  simp only [Mass.add] at a1 a2 b1 b2 c1 c2 d1 d2
  unfold Mass.v
  refine Ev.intro (fn := Try.f61) rfl (by kernel_rfl) rfl rfl ?_
  apply zz
  refine Cd.ra (h := ?_)
  apply Run.by_eq
  · intro self
    conv => lhs; simp -implicitDefEqProofs (maxSteps := 300000) (disch := omega) [-getElem?_pos, -getElem?_neg]
  try (with_reducible refine Run.ret ?_)
  apply zz
  refine Cd.ra (h := ?_)
  apply Run.by_eq
  · intro self
    conv => lhs; simp -implicitDefEqProofs (maxSteps := 300000) (disch := omega) [-getElem?_pos, -getElem?_neg]
  try (with_reducible refine Run.ret ?_)
  apply zz
  refine Cd.inv (fun w f s' => ∃ k : Nat, k ≤ 4 ∧ w = 4 - k ∧ f.marks = [] ∧ f.get 8 = .int .i64 k ∧ f.get 7 = .agg [.int .i64 p.a, .int .i64 p.b, .int .i64 p.c, .int .i64 p.d].toArray ∧ f.get 2 = .pointer (some ⟨s.next, 0, none⟩) ∧ f.get 4 = .pointer (some ⟨s.next + 1 + 1, 0, none⟩) ∧ Keep s s' ∧ s.next + 1 + 1 < s'.next ∧ s'.heap.get s.next = some (.cells (mixL k (m.add p) m) none) ∧ s'.heap.get (s.next + 1 + 1) = some (.cells [.int .i64 0, .int .i64 0, .int .i64 0, .int .i64 0] none)) 4 ?_ ?_
  · exact ⟨0, by omega, rfl, by simp, by simp, by simp, by simp, by simp, (((Keep.refl _).pushed _).pushed _).pushed _, by simp, by simp -implicitDefEqProofs (disch := omega) [mixL], by simp⟩
  rintro w f s' ⟨k, hk, rfl, hm, h8, h7, h2, h4, hkp, hnx, hget, hget2⟩
  have hkpa := hkp.1
  have hk5 : k = 0 ∨ k = 1 ∨ k = 2 ∨ k = 3 ∨ k = 4 := by omega
  rcases hk5 with rfl | rfl | rfl | rfl | rfl
  all_goals simp only [mixL, Mass.add, Nat.lt_irrefl, if_false, Nat.reduceLT, if_true] at hget
  · apply zz
    refine Cd.ra (h := ?_)
    apply Run.by_eq
    · intro self
      conv => lhs; simp -implicitDefEqProofs (maxSteps := 300000) (disch := omega) [-getElem?_pos, -getElem?_neg, h8]
    try (with_reducible refine Run.ret ?_)
    apply zz
    apply Cd.ite rfl
    · conv => lhs; simp -implicitDefEqProofs (maxSteps := 300000) (disch := omega) [-getElem?_pos, -getElem?_neg]
    all_goals intro c0
    all_goals try (cases c0; done)
    all_goals try simp only [Bool.not_eq_true', Bool.not_eq_false', decide_eq_true_eq, decide_eq_false_iff_not] at c0
    all_goals apply zz
    · apply zz
      refine Cd.ra (h := ?_)
      apply Run.by_eq
      · intro self
        conv => lhs; simp -implicitDefEqProofs (maxSteps := 300000) (disch := omega) [-getElem?_pos, -getElem?_neg, h8, h7]
      try (with_reducible refine Run.ret ?_)
      apply zz
      refine Cd.ra (h := ?_)
      apply Run.by_eq
      · intro self
        conv => lhs; simp -implicitDefEqProofs (maxSteps := 300000) (disch := omega) [-getElem?_pos, -getElem?_neg, h2, hget]
      try (with_reducible refine Run.ret ?_)
      apply zz
      refine Cd.ra (h := ?_)
      apply Run.by_eq
      · intro self
        conv => lhs; simp -implicitDefEqProofs (maxSteps := 300000) (disch := omega) [-getElem?_pos, -getElem?_neg, h8]
      try (with_reducible refine Run.ret ?_)
      apply zz
      refine LoopK.nm (4 - (0 + 1)) (by omega) ⟨0 + 1, by omega, rfl, by simp [hm], by simp, by simp [h7], by simp [h2], by simp [h4], hkp.upded (Nat.le_refl _) _, by simpa using hnx, ?_, ?_⟩
      · simp [mixL, Mass.add]
      · simp -implicitDefEqProofs (disch := omega) [hget2]
  · apply zz
    refine Cd.ra (h := ?_)
    apply Run.by_eq
    · intro self
      conv => lhs; simp -implicitDefEqProofs (maxSteps := 300000) (disch := omega) [-getElem?_pos, -getElem?_neg, h8]
    try (with_reducible refine Run.ret ?_)
    apply zz
    apply Cd.ite rfl
    · conv => lhs; simp -implicitDefEqProofs (maxSteps := 300000) (disch := omega) [-getElem?_pos, -getElem?_neg]
    all_goals intro c0
    all_goals try (cases c0; done)
    all_goals try simp only [Bool.not_eq_true', Bool.not_eq_false', decide_eq_true_eq, decide_eq_false_iff_not] at c0
    all_goals apply zz
    · apply zz
      refine Cd.ra (h := ?_)
      apply Run.by_eq
      · intro self
        conv => lhs; simp -implicitDefEqProofs (maxSteps := 300000) (disch := omega) [-getElem?_pos, -getElem?_neg, h8, h7]
      try (with_reducible refine Run.ret ?_)
      apply zz
      refine Cd.ra (h := ?_)
      apply Run.by_eq
      · intro self
        conv => lhs; simp -implicitDefEqProofs (maxSteps := 300000) (disch := omega) [-getElem?_pos, -getElem?_neg, h2, hget]
      try (with_reducible refine Run.ret ?_)
      apply zz
      refine Cd.ra (h := ?_)
      apply Run.by_eq
      · intro self
        conv => lhs; simp -implicitDefEqProofs (maxSteps := 300000) (disch := omega) [-getElem?_pos, -getElem?_neg, h8]
      try (with_reducible refine Run.ret ?_)
      apply zz
      refine LoopK.nm (4 - (1 + 1)) (by omega) ⟨1 + 1, by omega, rfl, by simp [hm], by simp, by simp [h7], by simp [h2], by simp [h4], hkp.upded (Nat.le_refl _) _, by simpa using hnx, ?_, ?_⟩
      · simp [mixL, Mass.add]
      · simp -implicitDefEqProofs (disch := omega) [hget2]
  · apply zz
    refine Cd.ra (h := ?_)
    apply Run.by_eq
    · intro self
      conv => lhs; simp -implicitDefEqProofs (maxSteps := 300000) (disch := omega) [-getElem?_pos, -getElem?_neg, h8]
    try (with_reducible refine Run.ret ?_)
    apply zz
    apply Cd.ite rfl
    · conv => lhs; simp -implicitDefEqProofs (maxSteps := 300000) (disch := omega) [-getElem?_pos, -getElem?_neg]
    all_goals intro c0
    all_goals try (cases c0; done)
    all_goals try simp only [Bool.not_eq_true', Bool.not_eq_false', decide_eq_true_eq, decide_eq_false_iff_not] at c0
    all_goals apply zz
    · apply zz
      refine Cd.ra (h := ?_)
      apply Run.by_eq
      · intro self
        conv => lhs; simp -implicitDefEqProofs (maxSteps := 300000) (disch := omega) [-getElem?_pos, -getElem?_neg, h8, h7]
      try (with_reducible refine Run.ret ?_)
      apply zz
      refine Cd.ra (h := ?_)
      apply Run.by_eq
      · intro self
        conv => lhs; simp -implicitDefEqProofs (maxSteps := 300000) (disch := omega) [-getElem?_pos, -getElem?_neg, h2, hget]
      try (with_reducible refine Run.ret ?_)
      apply zz
      refine Cd.ra (h := ?_)
      apply Run.by_eq
      · intro self
        conv => lhs; simp -implicitDefEqProofs (maxSteps := 300000) (disch := omega) [-getElem?_pos, -getElem?_neg, h8]
      try (with_reducible refine Run.ret ?_)
      apply zz
      refine LoopK.nm (4 - (2 + 1)) (by omega) ⟨2 + 1, by omega, rfl, by simp [hm], by simp, by simp [h7], by simp [h2], by simp [h4], hkp.upded (Nat.le_refl _) _, by simpa using hnx, ?_, ?_⟩
      · simp [mixL, Mass.add]
      · simp -implicitDefEqProofs (disch := omega) [hget2]
  · apply zz
    refine Cd.ra (h := ?_)
    apply Run.by_eq
    · intro self
      conv => lhs; simp -implicitDefEqProofs (maxSteps := 300000) (disch := omega) [-getElem?_pos, -getElem?_neg, h8]
    try (with_reducible refine Run.ret ?_)
    apply zz
    apply Cd.ite rfl
    · conv => lhs; simp -implicitDefEqProofs (maxSteps := 300000) (disch := omega) [-getElem?_pos, -getElem?_neg]
    all_goals intro c0
    all_goals try (cases c0; done)
    all_goals try simp only [Bool.not_eq_true', Bool.not_eq_false', decide_eq_true_eq, decide_eq_false_iff_not] at c0
    all_goals apply zz
    · apply zz
      refine Cd.ra (h := ?_)
      apply Run.by_eq
      · intro self
        conv => lhs; simp -implicitDefEqProofs (maxSteps := 300000) (disch := omega) [-getElem?_pos, -getElem?_neg, h8, h7]
      try (with_reducible refine Run.ret ?_)
      apply zz
      refine Cd.ra (h := ?_)
      apply Run.by_eq
      · intro self
        conv => lhs; simp -implicitDefEqProofs (maxSteps := 300000) (disch := omega) [-getElem?_pos, -getElem?_neg, h2, hget]
      try (with_reducible refine Run.ret ?_)
      apply zz
      refine Cd.ra (h := ?_)
      apply Run.by_eq
      · intro self
        conv => lhs; simp -implicitDefEqProofs (maxSteps := 300000) (disch := omega) [-getElem?_pos, -getElem?_neg, h8]
      try (with_reducible refine Run.ret ?_)
      apply zz
      refine LoopK.nm (4 - (3 + 1)) (by omega) ⟨3 + 1, by omega, rfl, by simp [hm], by simp, by simp [h7], by simp [h2], by simp [h4], hkp.upded (Nat.le_refl _) _, by simpa using hnx, ?_, ?_⟩
      · simp [mixL, Mass.add]
      · simp -implicitDefEqProofs (disch := omega) [hget2]
  · apply zz
    refine Cd.ra (h := ?_)
    apply Run.by_eq
    · intro self
      conv => lhs; simp -implicitDefEqProofs (maxSteps := 300000) (disch := omega) [-getElem?_pos, -getElem?_neg, h8]
    try (with_reducible refine Run.ret ?_)
    apply zz
    apply Cd.ite rfl
    · conv => lhs; simp -implicitDefEqProofs (maxSteps := 300000) (disch := omega) [-getElem?_pos, -getElem?_neg]
    all_goals intro c0
    all_goals try (cases c0; done)
    all_goals try simp only [Bool.not_eq_true', Bool.not_eq_false', decide_eq_true_eq, decide_eq_false_iff_not] at c0
    all_goals apply zz
    apply zz
    refine Cd.ra (h := ?_)
    apply Run.by_eq
    · intro self
      conv => lhs; simp -implicitDefEqProofs (maxSteps := 300000) (disch := omega) [-getElem?_pos, -getElem?_neg, h2, hget, h4, hget2]
    try (with_reducible refine Run.ret ?_)
    apply zz
    apply Leave.mk (by first | exact .inl rfl | exact .inr rfl) (by simp only [Fr.marks_put, fr0_marks, hm, h4])
    · conv => lhs; simp -implicitDefEqProofs (disch := omega) [Try.results61, hm, h4]
    exact ⟨rfl, hkp.upded (by omega) _⟩
set_option maxRecDepth 100000 in
set_option maxHeartbeats 1000000 in
theorem minus_ev (m p : Mass) (s : St) (hb : (m.sub p).le 4611686018427387904) : Ev TT 62 [m.v, p.v] s fun v s' => v = (m.sub p).v ∧ Keep s s' := by
  obtain ⟨⟨a1, a2⟩, ⟨b1, b2⟩, ⟨c1, c2⟩, d1, d2⟩ := hb
  simp only [Mass.sub] at a1 a2 b1 b2 c1 c2 d1 d2
  unfold Mass.v
  refine Ev.intro (fn := Try.f62) rfl (by kernel_rfl) rfl rfl ?_
  apply zz
  refine Cd.ra (h := ?_)
  apply Run.by_eq
  · intro self
    conv => lhs; simp -implicitDefEqProofs (maxSteps := 300000) (disch := omega) [-getElem?_pos, -getElem?_neg]
  try (with_reducible refine Run.ret ?_)
  apply zz
  refine Cd.ra (h := ?_)
  apply Run.by_eq
  · intro self
    conv => lhs; simp -implicitDefEqProofs (maxSteps := 300000) (disch := omega) [-getElem?_pos, -getElem?_neg]
  try (with_reducible refine Run.ret ?_)
  apply zz
  refine Cd.inv (fun w f s' => ∃ k : Nat, k ≤ 4 ∧ w = 4 - k ∧ f.marks = [] ∧ f.get 8 = .int .i64 k ∧ f.get 7 = .agg [.int .i64 p.a, .int .i64 p.b, .int .i64 p.c, .int .i64 p.d].toArray ∧ f.get 2 = .pointer (some ⟨s.next, 0, none⟩) ∧ f.get 4 = .pointer (some ⟨s.next + 1 + 1, 0, none⟩) ∧ Keep s s' ∧ s.next + 1 + 1 < s'.next ∧ s'.heap.get s.next = some (.cells (mixL k (m.sub p) m) none) ∧ s'.heap.get (s.next + 1 + 1) = some (.cells [.int .i64 0, .int .i64 0, .int .i64 0, .int .i64 0] none)) 4 ?_ ?_
  · exact ⟨0, by omega, rfl, by simp, by simp, by simp, by simp, by simp, (((Keep.refl _).pushed _).pushed _).pushed _, by simp, by simp -implicitDefEqProofs (disch := omega) [mixL], by simp⟩
  rintro w f s' ⟨k, hk, rfl, hm, h8, h7, h2, h4, hkp, hnx, hget, hget2⟩
  have hkpa := hkp.1
  have hk5 : k = 0 ∨ k = 1 ∨ k = 2 ∨ k = 3 ∨ k = 4 := by omega
  rcases hk5 with rfl | rfl | rfl | rfl | rfl
  all_goals simp only [mixL, Mass.sub, Nat.lt_irrefl, if_false, Nat.reduceLT, if_true] at hget
  · apply zz
    refine Cd.ra (h := ?_)
    apply Run.by_eq
    · intro self
      conv => lhs; simp -implicitDefEqProofs (maxSteps := 300000) (disch := omega) [-getElem?_pos, -getElem?_neg, h8]
    try (with_reducible refine Run.ret ?_)
    apply zz
    apply Cd.ite rfl
    · conv => lhs; simp -implicitDefEqProofs (maxSteps := 300000) (disch := omega) [-getElem?_pos, -getElem?_neg]
    all_goals intro c0
    all_goals try (cases c0; done)
    all_goals try simp only [Bool.not_eq_true', Bool.not_eq_false', decide_eq_true_eq, decide_eq_false_iff_not] at c0
    all_goals apply zz
    · apply zz
      refine Cd.ra (h := ?_)
      apply Run.by_eq
      · intro self
        conv => lhs; simp -implicitDefEqProofs (maxSteps := 300000) (disch := omega) [-getElem?_pos, -getElem?_neg, h8, h7]
      try (with_reducible refine Run.ret ?_)
      apply zz
      refine Cd.ra (h := ?_)
      apply Run.by_eq
      · intro self
        conv => lhs; simp -implicitDefEqProofs (maxSteps := 300000) (disch := omega) [-getElem?_pos, -getElem?_neg, h2, hget]
      try (with_reducible refine Run.ret ?_)
      apply zz
      refine Cd.ra (h := ?_)
      apply Run.by_eq
      · intro self
        conv => lhs; simp -implicitDefEqProofs (maxSteps := 300000) (disch := omega) [-getElem?_pos, -getElem?_neg, h8]
      try (with_reducible refine Run.ret ?_)
      apply zz
      refine LoopK.nm (4 - (0 + 1)) (by omega) ⟨0 + 1, by omega, rfl, by simp [hm], by simp, by simp [h7], by simp [h2], by simp [h4], hkp.upded (Nat.le_refl _) _, by simpa using hnx, ?_, ?_⟩
      · simp [mixL, Mass.sub]
      · simp -implicitDefEqProofs (disch := omega) [hget2]
  · apply zz
    refine Cd.ra (h := ?_)
    apply Run.by_eq
    · intro self
      conv => lhs; simp -implicitDefEqProofs (maxSteps := 300000) (disch := omega) [-getElem?_pos, -getElem?_neg, h8]
    try (with_reducible refine Run.ret ?_)
    apply zz
    apply Cd.ite rfl
    · conv => lhs; simp -implicitDefEqProofs (maxSteps := 300000) (disch := omega) [-getElem?_pos, -getElem?_neg]
    all_goals intro c0
    all_goals try (cases c0; done)
    all_goals try simp only [Bool.not_eq_true', Bool.not_eq_false', decide_eq_true_eq, decide_eq_false_iff_not] at c0
    all_goals apply zz
    · apply zz
      refine Cd.ra (h := ?_)
      apply Run.by_eq
      · intro self
        conv => lhs; simp -implicitDefEqProofs (maxSteps := 300000) (disch := omega) [-getElem?_pos, -getElem?_neg, h8, h7]
      try (with_reducible refine Run.ret ?_)
      apply zz
      refine Cd.ra (h := ?_)
      apply Run.by_eq
      · intro self
        conv => lhs; simp -implicitDefEqProofs (maxSteps := 300000) (disch := omega) [-getElem?_pos, -getElem?_neg, h2, hget]
      try (with_reducible refine Run.ret ?_)
      apply zz
      refine Cd.ra (h := ?_)
      apply Run.by_eq
      · intro self
        conv => lhs; simp -implicitDefEqProofs (maxSteps := 300000) (disch := omega) [-getElem?_pos, -getElem?_neg, h8]
      try (with_reducible refine Run.ret ?_)
      apply zz
      refine LoopK.nm (4 - (1 + 1)) (by omega) ⟨1 + 1, by omega, rfl, by simp [hm], by simp, by simp [h7], by simp [h2], by simp [h4], hkp.upded (Nat.le_refl _) _, by simpa using hnx, ?_, ?_⟩
      · simp [mixL, Mass.sub]
      · simp -implicitDefEqProofs (disch := omega) [hget2]
  · apply zz
    refine Cd.ra (h := ?_)
    apply Run.by_eq
    · intro self
      conv => lhs; simp -implicitDefEqProofs (maxSteps := 300000) (disch := omega) [-getElem?_pos, -getElem?_neg, h8]
    try (with_reducible refine Run.ret ?_)
    apply zz
    apply Cd.ite rfl
    · conv => lhs; simp -implicitDefEqProofs (maxSteps := 300000) (disch := omega) [-getElem?_pos, -getElem?_neg]
    all_goals intro c0
    all_goals try (cases c0; done)
    all_goals try simp only [Bool.not_eq_true', Bool.not_eq_false', decide_eq_true_eq, decide_eq_false_iff_not] at c0
    all_goals apply zz
    · apply zz
      refine Cd.ra (h := ?_)
      apply Run.by_eq
      · intro self
        conv => lhs; simp -implicitDefEqProofs (maxSteps := 300000) (disch := omega) [-getElem?_pos, -getElem?_neg, h8, h7]
      try (with_reducible refine Run.ret ?_)
      apply zz
      refine Cd.ra (h := ?_)
      apply Run.by_eq
      · intro self
        conv => lhs; simp -implicitDefEqProofs (maxSteps := 300000) (disch := omega) [-getElem?_pos, -getElem?_neg, h2, hget]
      try (with_reducible refine Run.ret ?_)
      apply zz
      refine Cd.ra (h := ?_)
      apply Run.by_eq
      · intro self
        conv => lhs; simp -implicitDefEqProofs (maxSteps := 300000) (disch := omega) [-getElem?_pos, -getElem?_neg, h8]
      try (with_reducible refine Run.ret ?_)
      apply zz
      refine LoopK.nm (4 - (2 + 1)) (by omega) ⟨2 + 1, by omega, rfl, by simp [hm], by simp, by simp [h7], by simp [h2], by simp [h4], hkp.upded (Nat.le_refl _) _, by simpa using hnx, ?_, ?_⟩
      · simp [mixL, Mass.sub]
      · simp -implicitDefEqProofs (disch := omega) [hget2]
  · apply zz
    refine Cd.ra (h := ?_)
    apply Run.by_eq
    · intro self
      conv => lhs; simp -implicitDefEqProofs (maxSteps := 300000) (disch := omega) [-getElem?_pos, -getElem?_neg, h8]
    try (with_reducible refine Run.ret ?_)
    apply zz
    apply Cd.ite rfl
    · conv => lhs; simp -implicitDefEqProofs (maxSteps := 300000) (disch := omega) [-getElem?_pos, -getElem?_neg]
    all_goals intro c0
    all_goals try (cases c0; done)
    all_goals try simp only [Bool.not_eq_true', Bool.not_eq_false', decide_eq_true_eq, decide_eq_false_iff_not] at c0
    all_goals apply zz
    · apply zz
      refine Cd.ra (h := ?_)
      apply Run.by_eq
      · intro self
        conv => lhs; simp -implicitDefEqProofs (maxSteps := 300000) (disch := omega) [-getElem?_pos, -getElem?_neg, h8, h7]
      try (with_reducible refine Run.ret ?_)
      apply zz
      refine Cd.ra (h := ?_)
      apply Run.by_eq
      · intro self
        conv => lhs; simp -implicitDefEqProofs (maxSteps := 300000) (disch := omega) [-getElem?_pos, -getElem?_neg, h2, hget]
      try (with_reducible refine Run.ret ?_)
      apply zz
      refine Cd.ra (h := ?_)
      apply Run.by_eq
      · intro self
        conv => lhs; simp -implicitDefEqProofs (maxSteps := 300000) (disch := omega) [-getElem?_pos, -getElem?_neg, h8]
      try (with_reducible refine Run.ret ?_)
      apply zz
      refine LoopK.nm (4 - (3 + 1)) (by omega) ⟨3 + 1, by omega, rfl, by simp [hm], by simp, by simp [h7], by simp [h2], by simp [h4], hkp.upded (Nat.le_refl _) _, by simpa using hnx, ?_, ?_⟩
      · simp [mixL, Mass.sub]
      · simp -implicitDefEqProofs (disch := omega) [hget2]
  · apply zz
    refine Cd.ra (h := ?_)
    apply Run.by_eq
    · intro self
      conv => lhs; simp -implicitDefEqProofs (maxSteps := 300000) (disch := omega) [-getElem?_pos, -getElem?_neg, h8]
    try (with_reducible refine Run.ret ?_)
    apply zz
    apply Cd.ite rfl
    · conv => lhs; simp -implicitDefEqProofs (maxSteps := 300000) (disch := omega) [-getElem?_pos, -getElem?_neg]
    all_goals intro c0
    all_goals try (cases c0; done)
    all_goals try simp only [Bool.not_eq_true', Bool.not_eq_false', decide_eq_true_eq, decide_eq_false_iff_not] at c0
    all_goals apply zz
    apply zz
    refine Cd.ra (h := ?_)
    apply Run.by_eq
    · intro self
      conv => lhs; simp -implicitDefEqProofs (maxSteps := 300000) (disch := omega) [-getElem?_pos, -getElem?_neg, h2, hget, h4, hget2]
    try (with_reducible refine Run.ret ?_)
    apply zz
    apply Leave.mk (by first | exact .inl rfl | exact .inr rfl) (by simp only [Fr.marks_put, fr0_marks, hm, h4])
    · conv => lhs; simp -implicitDefEqProofs (disch := omega) [Try.results62, hm, h4]
    exact ⟨rfl, hkp.upded (by omega) _⟩
end Go.Proofs.Ytjehpgflhgpalaa
namespace Go.Proofs.Ytjehpgflhgpalaa
open Go Kern
def Mass.zero : Mass := ⟨0, 0, 0, 0⟩
theorem Mass.le.add {m p : Mass} {A B : Int} (h : m.le A) (k : p.le B) : (m.add p).le (A + B) := by
  unfold Mass.le Mass.add at *; simp only []; omega
theorem Mass.le.sub {m p : Mass} {A B : Int} (h : m.le A) (k : p.le B) : (m.sub p).le (A + B) := by
  unfold Mass.le Mass.sub at *; simp only []; omega
theorem Mass.le.mono {m : Mass} {A B : Int} (h : m.le A) (k : A ≤ B) : m.le B := by
  unfold Mass.le at *; omega
theorem Mass.add_sub (m p : Mass) : (m.add p).sub p = m := by
  unfold Mass.add Mass.sub; cases m; simp
def excStep (xs : List Int) (acc : Mass) (f : FlowD) : Mass :=
  if f.me then (if f.fr ∈ xs then (if f.to ∈ xs then acc.add f.m else acc).sub f.m else if f.to ∈ xs then acc.add f.m else acc) else acc
def excM (xs : List Int) (fs : List FlowD) : Mass := fs.foldl (excStep xs) Mass.zero
theorem excStep_le {xs : List Int} {acc : Mass} {f : FlowD} {A B : Int} (h : acc.le A) (hB : 0 ≤ B) (hf : f.me = true → f.m.le B) : (excStep xs acc f).le (A + B) := by
  unfold excStep
  by_cases hm : f.me = true
  · rw [if_pos hm]
    by_cases h1 : f.fr ∈ xs <;> by_cases h2 : f.to ∈ xs <;> simp only [h1, h2, if_true, if_false]
    · rw [Mass.add_sub]; exact h.mono (by omega)
    · exact h.sub (hf hm)
    · exact h.add (hf hm)
    · exact h.mono (by omega)
  · rw [if_neg hm]; exact h.mono (by omega)
theorem fold_take {α β : Type} (g : β → α → β) (b : β) (l : List α) {k : Nat} {x : α} (h : l[k]? = some x) : (l.take (k + 1)).foldl g b = g ((l.take k).foldl g b) x := by
  rw [List.take_add_one, h]; simp
theorem exc_bound {xs : List Int} {fs : List FlowD} {B : Int} (hB : 0 ≤ B) (hf : ∀ f ∈ fs, f.me = true → f.m.le B) : ∀ k : Nat, ((fs.take k).foldl (excStep xs) Mass.zero).le (k * B)
  | 0 => by simp [Mass.le, Mass.zero]
  | k + 1 => by
    cases hk : fs[k]? with
    | none =>
      have : fs.take (k + 1) = fs.take k := by
        rw [List.getElem?_eq_none_iff] at hk
        rw [List.take_of_length_le hk, List.take_of_length_le (by omega)]
      rw [this]
      exact (exc_bound hB hf k).mono (by push_cast; rw [Int.add_mul]; omega)
    | some f =>
      rw [fold_take _ _ _ hk]
      have := excStep_le (xs := xs) (exc_bound (xs := xs) hB hf k) hB (hf f (List.mem_of_getElem? hk))
      exact this.mono (by push_cast; rw [Int.add_mul]; omega)
set_option maxRecDepth 100000 in
set_option maxHeartbeats 2000000 in
theorem excess_ev (u : Int) (v w : Value) (fs : List FlowD) (xs : List Int) (s : St) (hf : FlAt s v fs) (hx : IntsAt s w xs) (hl : fs.length ≤ 1000) (hlx : xs.length ≤ 1000000)
    (hB : ∀ f ∈ fs, f.me = true → f.m.le 1000000000000) :
    Ev TT 41 [plantV u v, w] s fun r s' => r = (excM xs fs).v ∧ Keep s s' := by
  obtain ⟨a, c, rfl⟩ := hf.shape
  rw [List.length_map] at hf ⊢
  unfold plantV
  have hbd := exc_bound (xs := xs) (fs := fs) (B := 1000000000000) (by omega) hB
  refine Ev.intro (fn := Try.f41) rfl (by kernel_rfl) rfl rfl ?_
  apply zz
  refine Cd.ra (h := ?_)
  apply Run.by_eq
  · intro self
    conv => lhs; simp -implicitDefEqProofs (maxSteps := 300000) (disch := omega) [-getElem?_pos, -getElem?_neg]
  try (with_reducible refine Run.ret ?_)
  apply zz
  refine Cd.ra (h := ?_)
  apply Run.by_eq
  · intro self
    conv => lhs; simp -implicitDefEqProofs (maxSteps := 300000) (disch := omega) [-getElem?_pos, -getElem?_neg]
  try (with_reducible refine Run.ret ?_)
  apply zz
  refine Cd.ra (h := ?_)
  apply Run.by_eq
  · intro self
    conv => lhs; simp -implicitDefEqProofs (maxSteps := 300000) (disch := omega) [-getElem?_pos, -getElem?_neg]
  try (with_reducible refine Run.ret ?_)
  apply zz
  refine Cd.inv (fun z f s' => ∃ k : Nat, k ≤ fs.length ∧ z = fs.length - k ∧ f.marks = [] ∧ f.get 11 = .int .i64 k ∧ f.get 10 = .int .i64 fs.length ∧ f.get 9 = .slice a fs.length c ∧ f.get 1 = w ∧ f.get 4 = .pointer (some ⟨s.next + 1, 0, none⟩) ∧ f.get 5 = .pointer (some ⟨s.next + 1 + 1, 0, none⟩) ∧ Keep s s' ∧ s.next + 1 + 1 < s'.next ∧ s'.heap.get (s.next + 1) = some (.cells Mass.zero.cs none) ∧ s'.heap.get (s.next + 1 + 1) = some (.cells ((fs.take k).foldl (excStep xs) Mass.zero).cs none)) fs.length ?_ ?_
  · exact ⟨0, by omega, rfl, by simp, by simp, by simp, by simp, by simp, by simp, by simp, (((Keep.refl _).pushed _).pushed _).pushed _, by simp, by simp [Mass.zero, Mass.cs], by simp [Mass.zero, Mass.cs]⟩
  rintro z f s' ⟨k, hk, rfl, hm, h11, h10, h9, h1, h4, h5, hkp, hnx, hg1, hg2⟩
  have hkpa := hkp.1
  have hkpb := hkp.2
  by_cases hlt : k < fs.length
  · obtain ⟨g, hg⟩ : ∃ g, fs[k]? = some g := ⟨fs[k], by simp [hlt]⟩
    have hnext := fold_take (excStep xs) Mass.zero fs hg
    have hb0 := hbd k
    generalize (fs.take k).foldl (excStep xs) Mass.zero = acc at hnext hb0 hg2
    have hgB := hB g (List.mem_of_getElem? hg)
    have hkk : (k : Int) * 1000000000000 ≤ 1000000000000000 := by omega
    obtain ⟨b, off, o, cs, gg, rfl, hb, ho, hc, ht⟩ := FlAt.at (hf.keep hkp) hg
    obtain ⟨g0, g1, gm, m⟩ := g
    rw [FlowD.cs] at ht
    simp only [Mass.cs] at hg1 hg2 hgB ht
    apply zz
    refine Cd.ra (h := ?_)
    apply Run.by_eq
    · intro self
      conv => lhs; simp -implicitDefEqProofs (maxSteps := 300000) (disch := omega) [-getElem?_pos, -getElem?_neg, h11, h10]
    try (with_reducible refine Run.ret ?_)
    apply zz
    apply Cd.ite rfl
    · conv => lhs; simp -implicitDefEqProofs (maxSteps := 300000) (disch := omega) [-getElem?_pos, -getElem?_neg]
    all_goals intro c0
    all_goals try (cases c0; done)
    all_goals try simp only [Bool.not_eq_true', Bool.not_eq_false', decide_eq_true_eq, decide_eq_false_iff_not] at c0
    all_goals apply zz
    · apply zz
      refine Cd.ra (h := ?_)
      apply Run.by_eq
      · intro self
        conv => lhs; simp -implicitDefEqProofs (maxSteps := 300000) (disch := omega) [-getElem?_pos, -getElem?_neg, h11, h9, ho, hc, ht, hlt]
      try (with_reducible refine Run.ret ?_)
      apply zz
      refine Cd.ra (h := ?_)
      apply Run.by_eq
      · intro self
        conv => lhs; simp -implicitDefEqProofs (maxSteps := 300000) (disch := omega) [-getElem?_pos, -getElem?_neg]
      try (with_reducible refine Run.ret ?_)
      apply zz
      cases gm with
      | false =>
        apply zz
        apply Cd.ite rfl
        · conv => lhs; simp -implicitDefEqProofs (maxSteps := 300000) (disch := omega) [-getElem?_pos, -getElem?_neg]
        all_goals intro c1
        all_goals try (cases c1; done)
        all_goals try simp only [Bool.not_eq_true', Bool.not_eq_false', decide_eq_true_eq, decide_eq_false_iff_not] at c1
        all_goals apply zz
        apply zz
        refine Cd.ra (h := ?_)
        apply Run.by_eq
        · intro self
          conv => lhs; simp -implicitDefEqProofs (maxSteps := 300000) (disch := omega) [-getElem?_pos, -getElem?_neg, h11]
        try (with_reducible refine Run.ret ?_)
        apply zz
        refine LoopK.nm (fs.length - (k + 1)) (by omega) ⟨k + 1, by omega, rfl, by simp [hm], by simp, by simp [h10], by simp [h9], by simp [h1], by simp [h4], by simp [h5], ?_, by simp; omega, ?_, ?_⟩
        · exact ⟨by (try simp only [pushed_next', upded_next']); omega, fun i hi => by simp -implicitDefEqProofs (disch := omega) [hkpb]⟩
        · simp -implicitDefEqProofs (disch := omega) [hg1, Mass.cs]
        · rw [hnext]
          simp -implicitDefEqProofs (disch := omega) [hg2, Mass.cs, excStep]
      | true =>
        apply zz
        apply Cd.ite rfl
        · conv => lhs; simp -implicitDefEqProofs (maxSteps := 300000) (disch := omega) [-getElem?_pos, -getElem?_neg]
        all_goals intro c1
        all_goals try (cases c1; done)
        all_goals try simp only [Bool.not_eq_true', Bool.not_eq_false', decide_eq_true_eq, decide_eq_false_iff_not] at c1
        all_goals apply zz
        apply zz
        refine Cd.ra (h := ?_)
        apply Run.by_eq
        · intro self
          conv => lhs; simp -implicitDefEqProofs (maxSteps := 300000) (disch := omega) [-getElem?_pos, -getElem?_neg, h1]
        try (with_reducible refine Run.ret ?_)
        apply zz
        refine Run.call ((contains_ev g1 w xs _ (hx.keep ⟨by (try simp only [pushed_next', upded_next']); omega, fun i hi => by simp -implicitDefEqProofs (disch := omega) [hkpb]⟩) hlx).mono fun v wq hv => ?_)
        obtain ⟨rfl, q⟩ := hv
        have qa := q.1
        have qb := q.2
        try simp only [pushed_next', upded_next'] at qa qb
        apply Run.by_eq
        · intro self
          conv => lhs; simp -implicitDefEqProofs (maxSteps := 300000) (disch := omega) [-getElem?_pos, -getElem?_neg]
        try (with_reducible refine Run.ret ?_)
        apply zz
        by_cases m1 : g1 ∈ xs
        · apply zz
          apply Cd.ite rfl
          · conv => lhs; simp -implicitDefEqProofs (maxSteps := 300000) (disch := omega) [-getElem?_pos, -getElem?_neg, m1]
          all_goals intro c2
          all_goals try (cases c2; done)
          all_goals try simp only [Bool.not_eq_true', Bool.not_eq_false', decide_eq_true_eq, decide_eq_false_iff_not] at c2
          all_goals apply zz
          have hadd := (hb0.add (hgB rfl)).mono (show (k : Int) * 1000000000000 + 1000000000000 ≤ 4611686018427387904 by omega)
          apply zz
          refine Cd.ra (h := ?_)
          apply Run.by_eq
          · intro self
            conv => lhs; simp -implicitDefEqProofs (maxSteps := 300000) (disch := omega) [-getElem?_pos, -getElem?_neg, qb, h5, hg2]
          try (with_reducible refine Run.ret ?_)
          apply zz
          refine Run.call ((plus_ev acc m _ hadd).mono fun v wp hv => ?_)
          obtain ⟨rfl, p⟩ := hv
          have pa := p.1
          have pb := p.2
          try simp only [pushed_next', upded_next'] at pa pb
          apply Run.by_eq
          · intro self
            conv => lhs; simp -implicitDefEqProofs (maxSteps := 300000) (disch := omega) [-getElem?_pos, -getElem?_neg, qb, h5, hg2, pb, Mass.v]
          try (with_reducible refine Run.ret ?_)
          apply zz
          refine Cd.ra (h := ?_)
          apply Run.by_eq
          · intro self
            conv => lhs; simp -implicitDefEqProofs (maxSteps := 300000) (disch := omega) [-getElem?_pos, -getElem?_neg, h1, qb, pb]
          try (with_reducible refine Run.ret ?_)
          apply zz
          refine Run.call ((contains_ev g0 w xs _ (hx.keep ⟨by (try simp only [pushed_next', upded_next']); omega, fun i hi => by simp -implicitDefEqProofs (disch := omega) [hkpb, pb, qb]⟩) hlx).mono fun v wr hv => ?_)
          obtain ⟨rfl, r⟩ := hv
          have ra := r.1
          have rb := r.2
          try simp only [pushed_next', upded_next'] at ra rb
          apply Run.by_eq
          · intro self
            conv => lhs; simp -implicitDefEqProofs (maxSteps := 300000) (disch := omega) [-getElem?_pos, -getElem?_neg]
          try (with_reducible refine Run.ret ?_)
          apply zz
          by_cases m0 : g0 ∈ xs
          · apply zz
            apply Cd.ite rfl
            · conv => lhs; simp -implicitDefEqProofs (maxSteps := 300000) (disch := omega) [-getElem?_pos, -getElem?_neg, m0]
            all_goals intro c3
            all_goals try (cases c3; done)
            all_goals try simp only [Bool.not_eq_true', Bool.not_eq_false', decide_eq_true_eq, decide_eq_false_iff_not] at c3
            all_goals apply zz
            apply zz
            refine Cd.ra (h := ?_)
            apply Run.by_eq
            · intro self
              conv => lhs; simp -implicitDefEqProofs (maxSteps := 300000) (disch := omega) [-getElem?_pos, -getElem?_neg, qb, pb, rb, h5, hg2]
            try (with_reducible refine Run.ret ?_)
            apply zz
            refine Run.call ((minus_ev (acc.add m) m _ (by rw [Mass.add_sub]; exact hb0.mono (by omega))).mono fun v wt hv => ?_)
            obtain ⟨rfl, t⟩ := hv
            have ta := t.1
            have tb := t.2
            try simp only [pushed_next', upded_next'] at ta tb
            apply Run.by_eq
            · intro self
              conv => lhs; simp -implicitDefEqProofs (maxSteps := 300000) (disch := omega) [-getElem?_pos, -getElem?_neg, qb, pb, rb, tb, h5, hg2, Mass.v]
            try (with_reducible refine Run.ret ?_)
            apply zz
            refine Cd.ra (h := ?_)
            apply Run.by_eq
            · intro self
              conv => lhs; simp -implicitDefEqProofs (maxSteps := 300000) (disch := omega) [-getElem?_pos, -getElem?_neg, h11]
            try (with_reducible refine Run.ret ?_)
            apply zz
            refine LoopK.nm (fs.length - (k + 1)) (by omega) ⟨k + 1, by omega, rfl, by simp [hm], by simp, by simp [h10], by simp [h9], by simp [h1], by simp [h4], by simp [h5], ⟨by (try simp only [pushed_next', upded_next']); omega, fun i hi => by simp -implicitDefEqProofs (disch := omega) [hkpb, pb, qb, rb, tb]⟩, by (try simp only [pushed_next', upded_next']); omega, ?_, ?_⟩
            · simp -implicitDefEqProofs (disch := omega) [hg1, Mass.cs, qb, pb, rb, tb]
            · rw [hnext]
              simp -implicitDefEqProofs (disch := omega) [hg2, Mass.cs, excStep, m0, m1]
          · apply zz
            apply Cd.ite rfl
            · conv => lhs; simp -implicitDefEqProofs (maxSteps := 300000) (disch := omega) [-getElem?_pos, -getElem?_neg, m0]
            all_goals intro c3
            all_goals try (cases c3; done)
            all_goals try simp only [Bool.not_eq_true', Bool.not_eq_false', decide_eq_true_eq, decide_eq_false_iff_not] at c3
            all_goals apply zz
            apply zz
            refine Cd.ra (h := ?_)
            apply Run.by_eq
            · intro self
              conv => lhs; simp -implicitDefEqProofs (maxSteps := 300000) (disch := omega) [-getElem?_pos, -getElem?_neg, h11]
            try (with_reducible refine Run.ret ?_)
            apply zz
            refine LoopK.nm (fs.length - (k + 1)) (by omega) ⟨k + 1, by omega, rfl, by simp [hm], by simp, by simp [h10], by simp [h9], by simp [h1], by simp [h4], by simp [h5], ⟨by (try simp only [pushed_next', upded_next']); omega, fun i hi => by simp -implicitDefEqProofs (disch := omega) [hkpb, pb, qb, rb]⟩, by (try simp only [pushed_next', upded_next']); omega, ?_, ?_⟩
            · simp -implicitDefEqProofs (disch := omega) [hg1, Mass.cs, qb, pb, rb]
            · rw [hnext]
              simp -implicitDefEqProofs (disch := omega) [hg2, Mass.cs, excStep, m0, m1, qb, pb, rb]
        · apply zz
          apply Cd.ite rfl
          · conv => lhs; simp -implicitDefEqProofs (maxSteps := 300000) (disch := omega) [-getElem?_pos, -getElem?_neg, m1]
          all_goals intro c2
          all_goals try (cases c2; done)
          all_goals try simp only [Bool.not_eq_true', Bool.not_eq_false', decide_eq_true_eq, decide_eq_false_iff_not] at c2
          all_goals apply zz
          apply zz
          refine Cd.ra (h := ?_)
          apply Run.by_eq
          · intro self
            conv => lhs; simp -implicitDefEqProofs (maxSteps := 300000) (disch := omega) [-getElem?_pos, -getElem?_neg, h1, qb]
          try (with_reducible refine Run.ret ?_)
          apply zz
          refine Run.call ((contains_ev g0 w xs _ (hx.keep ⟨by (try simp only [pushed_next', upded_next']); omega, fun i hi => by simp -implicitDefEqProofs (disch := omega) [hkpb, qb]⟩) hlx).mono fun v wr hv => ?_)
          obtain ⟨rfl, r⟩ := hv
          have ra := r.1
          have rb := r.2
          try simp only [pushed_next', upded_next'] at ra rb
          apply Run.by_eq
          · intro self
            conv => lhs; simp -implicitDefEqProofs (maxSteps := 300000) (disch := omega) [-getElem?_pos, -getElem?_neg]
          try (with_reducible refine Run.ret ?_)
          apply zz
          by_cases m0 : g0 ∈ xs
          · apply zz
            apply Cd.ite rfl
            · conv => lhs; simp -implicitDefEqProofs (maxSteps := 300000) (disch := omega) [-getElem?_pos, -getElem?_neg, m0]
            all_goals intro c3
            all_goals try (cases c3; done)
            all_goals try simp only [Bool.not_eq_true', Bool.not_eq_false', decide_eq_true_eq, decide_eq_false_iff_not] at c3
            all_goals apply zz
            have hsub := (hb0.sub (hgB rfl)).mono (show (k : Int) * 1000000000000 + 1000000000000 ≤ 4611686018427387904 by omega)
            apply zz
            refine Cd.ra (h := ?_)
            apply Run.by_eq
            · intro self
              conv => lhs; simp -implicitDefEqProofs (maxSteps := 300000) (disch := omega) [-getElem?_pos, -getElem?_neg, qb, rb, h5, hg2]
            try (with_reducible refine Run.ret ?_)
            apply zz
            refine Run.call ((minus_ev acc m _ hsub).mono fun v wt hv => ?_)
            obtain ⟨rfl, t⟩ := hv
            have ta := t.1
            have tb := t.2
            try simp only [pushed_next', upded_next'] at ta tb
            apply Run.by_eq
            · intro self
              conv => lhs; simp -implicitDefEqProofs (maxSteps := 300000) (disch := omega) [-getElem?_pos, -getElem?_neg, qb, rb, tb, h5, hg2, Mass.v]
            try (with_reducible refine Run.ret ?_)
            apply zz
            refine Cd.ra (h := ?_)
            apply Run.by_eq
            · intro self
              conv => lhs; simp -implicitDefEqProofs (maxSteps := 300000) (disch := omega) [-getElem?_pos, -getElem?_neg, h11]
            try (with_reducible refine Run.ret ?_)
            apply zz
            refine LoopK.nm (fs.length - (k + 1)) (by omega) ⟨k + 1, by omega, rfl, by simp [hm], by simp, by simp [h10], by simp [h9], by simp [h1], by simp [h4], by simp [h5], ⟨by (try simp only [pushed_next', upded_next']); omega, fun i hi => by simp -implicitDefEqProofs (disch := omega) [hkpb, qb, rb, tb]⟩, by (try simp only [pushed_next', upded_next']); omega, ?_, ?_⟩
            · simp -implicitDefEqProofs (disch := omega) [hg1, Mass.cs, qb, rb, tb]
            · rw [hnext]
              simp -implicitDefEqProofs (disch := omega) [hg2, Mass.cs, excStep, m0, m1]
          · apply zz
            apply Cd.ite rfl
            · conv => lhs; simp -implicitDefEqProofs (maxSteps := 300000) (disch := omega) [-getElem?_pos, -getElem?_neg, m0]
            all_goals intro c3
            all_goals try (cases c3; done)
            all_goals try simp only [Bool.not_eq_true', Bool.not_eq_false', decide_eq_true_eq, decide_eq_false_iff_not] at c3
            all_goals apply zz
            apply zz
            refine Cd.ra (h := ?_)
            apply Run.by_eq
            · intro self
              conv => lhs; simp -implicitDefEqProofs (maxSteps := 300000) (disch := omega) [-getElem?_pos, -getElem?_neg, h11]
            try (with_reducible refine Run.ret ?_)
            apply zz
            refine LoopK.nm (fs.length - (k + 1)) (by omega) ⟨k + 1, by omega, rfl, by simp [hm], by simp, by simp [h10], by simp [h9], by simp [h1], by simp [h4], by simp [h5], ⟨by (try simp only [pushed_next', upded_next']); omega, fun i hi => by simp -implicitDefEqProofs (disch := omega) [hkpb, qb, rb]⟩, by (try simp only [pushed_next', upded_next']); omega, ?_, ?_⟩
            · simp -implicitDefEqProofs (disch := omega) [hg1, Mass.cs, qb, rb]
            · rw [hnext]
              simp -implicitDefEqProofs (disch := omega) [hg2, Mass.cs, excStep, m0, m1, qb, rb]
    · simp at c0; omega
  · obtain rfl : k = fs.length := by omega
    rw [List.take_length] at hg2
    simp only [Mass.cs] at hg1 hg2
    apply zz
    refine Cd.ra (h := ?_)
    apply Run.by_eq
    · intro self
      conv => lhs; simp -implicitDefEqProofs (maxSteps := 300000) (disch := omega) [-getElem?_pos, -getElem?_neg, h11, h10]
    try (with_reducible refine Run.ret ?_)
    apply zz
    apply Cd.ite rfl
    · conv => lhs; simp -implicitDefEqProofs (maxSteps := 300000) (disch := omega) [-getElem?_pos, -getElem?_neg]
    all_goals intro c0
    all_goals try (cases c0; done)
    all_goals try simp only [Bool.not_eq_true', Bool.not_eq_false', decide_eq_true_eq, decide_eq_false_iff_not] at c0
    all_goals apply zz
    apply zz
    refine Cd.ra (h := ?_)
    apply Run.by_eq
    · intro self
      conv => lhs; simp -implicitDefEqProofs (maxSteps := 300000) (disch := omega) [-getElem?_pos, -getElem?_neg, h4, h5, hg1, hg2]
    try (with_reducible refine Run.ret ?_)
    apply zz
    apply Leave.mk (by first | exact .inl rfl | exact .inr rfl) (by simp only [Fr.marks_put, fr0_marks, hm, h4])
    · conv => lhs; simp -implicitDefEqProofs (disch := omega) [Try.results41, hm, h4]
    refine ⟨rfl, ?_⟩
    exact ⟨by (try simp only [pushed_next', upded_next']); omega, fun i hi => by simp -implicitDefEqProofs (disch := omega) [hkpb]⟩
end Go.Proofs.Ytjehpgflhgpalaa
namespace Go.Proofs.Ytjehpgflhgpalaa
open Go Kern
/-- The first number that is not nought, of n from i on. -/
def firstNZ (g : Nat → Int) : Nat → Nat → Int
  | 0, _ => 0
  | n + 1, i => if g i = 0 then firstNZ g n (i + 1) else g i
theorem firstNZ_zero {g : Nat → Int} : ∀ {n i : Nat}, (∀ j, i ≤ j → j < i + n → g j = 0) → firstNZ g n i = 0
  | 0, _, _ => rfl
  | n + 1, i, h => by
    simp only [firstNZ, h i (Nat.le_refl _) (by omega), if_true]
    exact firstNZ_zero fun j h1 h2 => h j (by omega) (by omega)
theorem firstNZ_at {g : Nat → Int} : ∀ {n i k : Nat}, (∀ j, i ≤ j → j < k → g j = 0) → i ≤ k → k < i + n → g k ≠ 0 → firstNZ g n i = g k
  | 0, _, _, _, h1, h2, _ => by omega
  | n + 1, i, k, h, h1, h2, hne => by
    by_cases e : i = k
    · subst e; simp [firstNZ, hne]
    · simp only [firstNZ, h i (Nat.le_refl _) (by omega), if_true]
      exact firstNZ_at (fun j a b => h j (by omega) b) (by omega) (by omega) hne
def unitAt (u : Int) (xs : List Int) (k : Nat) : Int :=
  if !unitB u (xs.getD k 0) then 17 else if 0 < k ∧ xs.getD k 0 ≤ xs.getD (k - 1) 0 then 7 else 0
def unitsErr (u : Int) (fs : List FlowD) (xs : List Int) : Int :=
  if checkErr u fs ≠ 0 then checkErr u fs else if xs.length = 0 then 4 else firstNZ (unitAt u xs) xs.length 0
def excV (u : Int) (fs : List FlowD) (xs : List Int) : Mass := if unitsErr u fs xs = 0 then excM xs fs else Mass.zero
theorem getD_of {xs : List Int} {k : Nat} {x : Int} (h : xs[k]? = some x) : xs.getD k 0 = x := by simp [List.getD, h]
theorem eachB_le {m : Mass} {B : Int} (h : eachB m 0 B = true) : m.le B := by
  simp only [eachB, isB, Bool.and_eq_true, decide_eq_true_eq] at h
  unfold Mass.le; omega
theorem flowErr_ok {u : Int} {f : FlowD} (h : flowErr u f = 0) : endB u f.fr = true ∧ endB u f.to = true ∧ f.fr ≠ f.to ∧ (f.me = true → eachB f.m 0 1000000000 = true) := by
  unfold flowErr at h
  split at h
  · cases h
  · rename_i h1
    split at h
    · cases h
    · rename_i h2
      split at h
      · cases h
      · rename_i h3
        simp at h1 h3
        exact ⟨h1.1, h1.2, h2, h3⟩
theorem firstErr_all {u : Int} : ∀ {fs : List FlowD}, firstErr u fs = 0 → ∀ f ∈ fs, flowErr u f = 0
  | [], _, f, h => by cases h
  | g :: r, h, f, hf => by
    unfold firstErr at h
    split at h
    · rename_i h0
      cases hf with
      | head => exact h0
      | tail _ hf => exact firstErr_all h f hf
    · rename_i h0; exact absurd h h0
theorem checkErr_ok {u : Int} {fs : List FlowD} (h : checkErr u fs = 0) : 1 ≤ u ∧ u ≤ 8 ∧ fs.length ≤ 20 ∧ ∀ f ∈ fs, flowErr u f = 0 := by
  unfold checkErr at h
  split at h
  · cases h
  · split at h
    · cases h
    · exact ⟨by omega, by omega, by omega, firstErr_all h⟩
theorem checkErr_le {u : Int} {fs : List FlowD} (h : checkErr u fs = 0) : ∀ f ∈ fs, f.me = true → f.m.le 1000000000000 := fun f hf hm =>
  (eachB_le ((flowErr_ok ((checkErr_ok h).2.2.2 f hf)).2.2.2 hm)).mono (by omega)
set_option maxRecDepth 100000 in
set_option maxHeartbeats 2000000 in
theorem excessP_ev (u : Int) (v w : Value) (fs : List FlowD) (xs : List Int) (s : St) (hf : FlAt s v fs) (hx : IntsAt s w xs) (hl : fs.length ≤ 1000000) (hlx : xs.length ≤ 1000000) :
    Ev TT 17 [plantV u v, w] s fun r s' => r = .tuple #[(excV u fs xs).v, .int .i64 (unitsErr u fs xs)] ∧ Keep s s' := by
  obtain ⟨a', c', hw⟩ := hx.shape
  rw [List.length_map] at hw
  unfold plantV
  refine Ev.intro (fn := Try.f17) rfl (by kernel_rfl) rfl rfl ?_
  apply zz
  refine Cd.ra (h := ?_)
  apply Run.by_eq
  · intro self
    conv => lhs; simp -implicitDefEqProofs (maxSteps := 300000) (disch := omega) [-getElem?_pos, -getElem?_neg]
  try (with_reducible refine Run.ret ?_)
  apply zz
  refine Cd.ra (h := ?_)
  apply Run.by_eq
  · intro self
    conv => lhs; simp -implicitDefEqProofs (maxSteps := 300000) (disch := omega) [-getElem?_pos, -getElem?_neg]
  try (with_reducible refine Run.ret ?_)
  apply zz
  refine Run.call ((check_ev u v fs _ (hf.keep ⟨by (try simp only [pushed_next', upded_next']); omega, fun i hi => by simp -implicitDefEqProofs (disch := omega) []⟩) hl).mono fun v wq hv => ?_)
  obtain ⟨rfl, q⟩ := hv
  have qa := q.1
  have qb := q.2
  try simp only [pushed_next', upded_next'] at qa qb
  apply Run.by_eq
  · intro self
    conv => lhs; simp -implicitDefEqProofs (maxSteps := 300000) (disch := omega) [-getElem?_pos, -getElem?_neg]
  try (with_reducible refine Run.ret ?_)
  apply zz
  refine Cd.ra (h := ?_)
  apply Run.by_eq
  · intro self
    conv => lhs; simp -implicitDefEqProofs (maxSteps := 300000) (disch := omega) [-getElem?_pos, -getElem?_neg]
  try (with_reducible refine Run.ret ?_)
  apply zz
  apply Cd.ite rfl
  · conv => lhs; simp -implicitDefEqProofs (maxSteps := 300000) (disch := omega) [-getElem?_pos, -getElem?_neg]
  all_goals intro c0
  all_goals try (cases c0; done)
  all_goals try simp only [Bool.not_eq_true', Bool.not_eq_false', decide_eq_true_eq, decide_eq_false_iff_not] at c0
  all_goals apply zz
  · apply zz
    refine Cd.ra (h := ?_)
    apply Run.by_eq
    · intro self
      conv => lhs; simp -implicitDefEqProofs (maxSteps := 300000) (disch := omega) [-getElem?_pos, -getElem?_neg, qb]
    try (with_reducible refine Run.ret ?_)
    apply zz
    apply Leave.mk (by first | exact .inl rfl | exact .inr rfl) (by simp only [Fr.marks_put, fr0_marks, qb])
    · conv => lhs; simp -implicitDefEqProofs (disch := omega) [Try.results17, qb]
    refine ⟨?_, ⟨by (try simp only [pushed_next', upded_next']); omega, fun i hi => by simp -implicitDefEqProofs (disch := omega) [qb]⟩⟩
    have : unitsErr u fs xs = checkErr u fs := by unfold unitsErr; rw [if_pos c0]
    unfold excV; rw [this, if_neg c0]; rfl
  have hck : checkErr u fs = 0 := c0
  obtain ⟨hu1, hu2, hl20, _⟩ := checkErr_ok hck
  subst hw
  apply zz
  refine Cd.ra (h := ?_)
  apply Run.by_eq
  · intro self
    conv => lhs; simp -implicitDefEqProofs (maxSteps := 300000) (disch := omega) [-getElem?_pos, -getElem?_neg]
  try (with_reducible refine Run.ret ?_)
  apply zz
  apply Cd.ite rfl
  · conv => lhs; simp -implicitDefEqProofs (maxSteps := 300000) (disch := omega) [-getElem?_pos, -getElem?_neg]
  all_goals intro c1
  all_goals try (cases c1; done)
  all_goals try simp only [Bool.not_eq_true', Bool.not_eq_false', decide_eq_true_eq, decide_eq_false_iff_not] at c1
  all_goals apply zz
  · have c1' : xs.length = 0 := by simpa using c1
    apply zz
    refine Cd.ra (h := ?_)
    apply Run.by_eq
    · intro self
      conv => lhs; simp -implicitDefEqProofs (maxSteps := 300000) (disch := omega) [-getElem?_pos, -getElem?_neg, qb]
    try (with_reducible refine Run.ret ?_)
    apply zz
    apply Leave.mk (by first | exact .inl rfl | exact .inr rfl) (by simp only [Fr.marks_put, fr0_marks, qb])
    · conv => lhs; simp -implicitDefEqProofs (disch := omega) [Try.results17, qb]
    refine ⟨?_, ⟨by (try simp only [pushed_next', upded_next']); omega, fun i hi => by simp -implicitDefEqProofs (disch := omega) [qb]⟩⟩
    have : unitsErr u fs xs = 4 := by unfold unitsErr; rw [if_neg (by omega), if_pos c1']
    unfold excV; rw [this]; rfl
  have c1' : ¬ xs.length = 0 := by simpa using c1
  apply zz
  refine Cd.ra (h := ?_)
  apply Run.by_eq
  · intro self
    conv => lhs; simp -implicitDefEqProofs (maxSteps := 300000) (disch := omega) [-getElem?_pos, -getElem?_neg]
  try (with_reducible refine Run.ret ?_)
  apply zz
  refine Cd.inv (fun z f s' => ∃ k : Nat, k ≤ xs.length ∧ z = xs.length - k ∧ f.marks = [] ∧ f.get 21 = .int .i64 k ∧ f.get 20 = .int .i64 xs.length ∧ f.get 19 = .slice a' xs.length c' ∧ f.get 1 = .slice a' xs.length c' ∧ f.get 2 = .pointer (some ⟨s.next, 0, none⟩) ∧ f.get 4 = .pointer (some ⟨s.next + 1, 0, none⟩) ∧ Keep s s' ∧ s.next + 1 < s'.next ∧ s'.heap.get s.next = some (.cells [.int .i64 u, v] none) ∧ s'.heap.get (s.next + 1) = some (.cells Mass.zero.cs none) ∧ (∀ j, 0 ≤ j → j < k → unitAt u xs j = 0)) xs.length ?_ ?_
  · refine ⟨0, by omega, rfl, by simp, by simp, by simp, by simp, by simp, by simp, by simp, ⟨by (try simp only [pushed_next', upded_next']); omega, fun i hi => by simp -implicitDefEqProofs (disch := omega) [qb]⟩, by omega, ?_, ?_, fun j _ hj => absurd hj (by omega)⟩
    · simp -implicitDefEqProofs (disch := omega) [qb]
    · simp -implicitDefEqProofs (disch := omega) [qb, Mass.cs, Mass.zero]
  rintro z f s' ⟨k, hk, rfl, hm, h21, h20, h19, h1, h2, h4, hkp, hnx, hg0, hg1, hz⟩
  have hkpa := hkp.1
  have hkpb := hkp.2
  simp only [Mass.cs] at hg1
  by_cases hlt : k < xs.length
  · obtain ⟨x, hxk⟩ : ∃ x, xs[k]? = some x := ⟨xs[k], by simp [hlt]⟩
    obtain ⟨b, off, o, cs, gg, rfl, hb, ho, hc, ht⟩ := IntsAt.at (hx.keep hkp) hxk
    apply zz
    refine Cd.ra (h := ?_)
    apply Run.by_eq
    · intro self
      conv => lhs; simp -implicitDefEqProofs (maxSteps := 300000) (disch := omega) [-getElem?_pos, -getElem?_neg, h21, h20]
    try (with_reducible refine Run.ret ?_)
    apply zz
    apply Cd.ite rfl
    · conv => lhs; simp -implicitDefEqProofs (maxSteps := 300000) (disch := omega) [-getElem?_pos, -getElem?_neg]
    all_goals intro c2
    all_goals try (cases c2; done)
    all_goals try simp only [Bool.not_eq_true', Bool.not_eq_false', decide_eq_true_eq, decide_eq_false_iff_not] at c2
    all_goals apply zz
    · apply zz
      refine Cd.ra (h := ?_)
      apply Run.by_eq
      · intro self
        conv => lhs; simp -implicitDefEqProofs (maxSteps := 300000) (disch := omega) [-getElem?_pos, -getElem?_neg, h21, h19, ho, hc, ht, hlt]
      try (with_reducible refine Run.ret ?_)
      apply zz
      refine Cd.ra (h := ?_)
      apply Run.by_eq
      · intro self
        conv => lhs; simp -implicitDefEqProofs (maxSteps := 300000) (disch := omega) [-getElem?_pos, -getElem?_neg, h2, hg0]
      try (with_reducible refine Run.ret ?_)
      apply zz
      refine Run.call ((isUnit_ev u x v _).mono fun v wr hv => ?_)
      obtain ⟨rfl, r⟩ := hv
      have ra := r.1
      have rb := r.2
      try simp only [pushed_next', upded_next'] at ra rb
      apply Run.by_eq
      · intro self
        conv => lhs; simp -implicitDefEqProofs (maxSteps := 300000) (disch := omega) [-getElem?_pos, -getElem?_neg]
      try (with_reducible refine Run.ret ?_)
      apply zz
      have hx0 := getD_of hxk
      have hfin : unitAt u xs k ≠ 0 → unitsErr u fs xs = unitAt u xs k := fun hne => by
        unfold unitsErr; rw [if_neg (by omega), if_neg c1', firstNZ_at hz (by omega) (by omega) hne]
      cases hU : unitB u x with
      | false =>
        have he : unitAt u xs k = 17 := by unfold unitAt; rw [hx0, hU]; rfl
        apply zz
        apply Cd.ite rfl
        · conv => lhs; simp -implicitDefEqProofs (maxSteps := 300000) (disch := omega) [-getElem?_pos, -getElem?_neg, hU]
        all_goals intro c3
        all_goals try (cases c3; done)
        all_goals try simp only [Bool.not_eq_true', Bool.not_eq_false', decide_eq_true_eq, decide_eq_false_iff_not] at c3
        all_goals apply zz
        apply zz
        refine Cd.ra (h := ?_)
        apply Run.by_eq
        · intro self
          conv => lhs; simp -implicitDefEqProofs (maxSteps := 300000) (disch := omega) [-getElem?_pos, -getElem?_neg, h4, hg1, rb]
        try (with_reducible refine Run.ret ?_)
        apply zz
        apply Leave.mk (by first | exact .inl rfl | exact .inr rfl) (by simp only [Fr.marks_put, fr0_marks, hm, h4, hg1, rb])
        · conv => lhs; simp -implicitDefEqProofs (disch := omega) [Try.results17, hm, h4, hg1, rb]
        refine ⟨?_, ⟨by (try simp only [pushed_next', upded_next']); omega, fun i hi => by simp -implicitDefEqProofs (disch := omega) [hkpb, rb]⟩⟩
        rw [hfin (by rw [he]; decide), he]
        unfold excV; rw [hfin (by rw [he]; decide), he]; rfl
      | true =>
        apply zz
        apply Cd.ite rfl
        · conv => lhs; simp -implicitDefEqProofs (maxSteps := 300000) (disch := omega) [-getElem?_pos, -getElem?_neg, hU]
        all_goals intro c3
        all_goals try (cases c3; done)
        all_goals try simp only [Bool.not_eq_true', Bool.not_eq_false', decide_eq_true_eq, decide_eq_false_iff_not] at c3
        all_goals apply zz
        by_cases k0 : k = 0
        · subst k0
          have he : unitAt u xs 0 = 0 := by unfold unitAt; rw [hx0, hU]; simp
          apply zz
          refine Cd.ra (h := ?_)
          apply Run.by_eq
          · intro self
            conv => lhs; simp -implicitDefEqProofs (maxSteps := 300000) (disch := omega) [-getElem?_pos, -getElem?_neg]
          try (with_reducible refine Run.ret ?_)
          apply zz
          apply Cd.ite rfl
          · conv => lhs; simp -implicitDefEqProofs (maxSteps := 300000) (disch := omega) [-getElem?_pos, -getElem?_neg]
          all_goals intro c4
          all_goals try (cases c4; done)
          all_goals try simp only [Bool.not_eq_true', Bool.not_eq_false', decide_eq_true_eq, decide_eq_false_iff_not] at c4
          all_goals apply zz
          apply zz
          refine Cd.ra (h := ?_)
          apply Run.by_eq
          · intro self
            conv => lhs; simp -implicitDefEqProofs (maxSteps := 300000) (disch := omega) [-getElem?_pos, -getElem?_neg, h21]
          try (with_reducible refine Run.ret ?_)
          apply zz
          refine LoopK.nm (xs.length - (0 + 1)) (by omega) ⟨0 + 1, by omega, rfl, by simp [hm], by simp, by simp [h20], by simp [h19], by simp [h1], by simp [h2], by simp [h4], ⟨by (try simp only [pushed_next', upded_next']); omega, fun i hi => by simp -implicitDefEqProofs (disch := omega) [hkpb, rb]⟩, by (try simp only [pushed_next', upded_next']); omega, ?_, ?_, fun j h1 h2 => ?_⟩
          · simp -implicitDefEqProofs (disch := omega) [hg0, rb]
          · simp -implicitDefEqProofs (disch := omega) [hg1, rb, Mass.cs]
          · obtain rfl : j = 0 := by omega
            exact he
        · obtain ⟨y, hyk⟩ : ∃ y, xs[k - 1]? = some y := ⟨xs[k - 1], by simp <;> omega⟩
          obtain ⟨b', off', o', cs', gg', e1, hb', ho', hc', ht'⟩ := IntsAt.at (hx.keep hkp) hyk
          cases e1
          rw [ho] at ho'; cases ho'
          rw [hc] at hc'; cases hc'
          have hy0 := getD_of hyk
          have hkc : (k : Int) - 1 = ((k - 1 : Nat) : Int) := by omega
          have hk0 : 0 < k := by omega
          apply zz
          refine Cd.ra (h := ?_)
          apply Run.by_eq
          · intro self
            conv => lhs; simp -implicitDefEqProofs (maxSteps := 300000) (disch := omega) [-getElem?_pos, -getElem?_neg, h1, ho, hc, ht', hkc, hk0, rb]
          try (with_reducible refine Run.ret ?_)
          apply zz
          apply Cd.ite rfl
          · conv => lhs; simp -implicitDefEqProofs (maxSteps := 300000) (disch := omega) [-getElem?_pos, -getElem?_neg]
          all_goals intro c4
          all_goals try (cases c4; done)
          all_goals try simp only [Bool.not_eq_true', Bool.not_eq_false', decide_eq_true_eq, decide_eq_false_iff_not] at c4
          all_goals apply zz
          · have he : unitAt u xs k = 7 := by unfold unitAt; rw [hx0, hU, hy0]; simp [c4]; omega
            apply zz
            refine Cd.ra (h := ?_)
            apply Run.by_eq
            · intro self
              conv => lhs; simp -implicitDefEqProofs (maxSteps := 300000) (disch := omega) [-getElem?_pos, -getElem?_neg, h4, hg1, rb]
            try (with_reducible refine Run.ret ?_)
            apply zz
            apply Leave.mk (by first | exact .inl rfl | exact .inr rfl) (by simp only [Fr.marks_put, fr0_marks, hm, h4, hg1, rb])
            · conv => lhs; simp -implicitDefEqProofs (disch := omega) [Try.results17, hm, h4, hg1, rb]
            refine ⟨?_, ⟨by (try simp only [pushed_next', upded_next']); omega, fun i hi => by simp -implicitDefEqProofs (disch := omega) [hkpb, rb]⟩⟩
            rw [hfin (by rw [he]; decide), he]
            unfold excV; rw [hfin (by rw [he]; decide), he]; rfl
          · have he : unitAt u xs k = 0 := by unfold unitAt; rw [hx0, hU, hy0]; simp; omega
            apply zz
            refine Cd.ra (h := ?_)
            apply Run.by_eq
            · intro self
              conv => lhs; simp -implicitDefEqProofs (maxSteps := 300000) (disch := omega) [-getElem?_pos, -getElem?_neg, h21]
            try (with_reducible refine Run.ret ?_)
            apply zz
            refine LoopK.nm (xs.length - (k + 1)) (by omega) ⟨k + 1, by omega, rfl, by simp [hm], by simp, by simp [h20], by simp [h19], by simp [h1], by simp [h2], by simp [h4], ⟨by (try simp only [pushed_next', upded_next']); omega, fun i hi => by simp -implicitDefEqProofs (disch := omega) [hkpb, rb]⟩, by (try simp only [pushed_next', upded_next']); omega, ?_, ?_, fun j h1 h2 => ?_⟩
            · simp -implicitDefEqProofs (disch := omega) [hg0, rb]
            · simp -implicitDefEqProofs (disch := omega) [hg1, rb, Mass.cs]
            · by_cases e : j = k
              · subst e; exact he
              · exact hz j h1 (by omega)
    · simp at c2; omega
  · obtain rfl : k = xs.length := by omega
    have hok : unitsErr u fs xs = 0 := by
      unfold unitsErr; rw [if_neg (by omega), if_neg c1']; exact firstNZ_zero fun j a b => hz j a (by omega)
    apply zz
    refine Cd.ra (h := ?_)
    apply Run.by_eq
    · intro self
      conv => lhs; simp -implicitDefEqProofs (maxSteps := 300000) (disch := omega) [-getElem?_pos, -getElem?_neg, h21, h20]
    try (with_reducible refine Run.ret ?_)
    apply zz
    apply Cd.ite rfl
    · conv => lhs; simp -implicitDefEqProofs (maxSteps := 300000) (disch := omega) [-getElem?_pos, -getElem?_neg]
    all_goals intro c2
    all_goals try (cases c2; done)
    all_goals try simp only [Bool.not_eq_true', Bool.not_eq_false', decide_eq_true_eq, decide_eq_false_iff_not] at c2
    all_goals apply zz
    apply zz
    refine Cd.ra (h := ?_)
    apply Run.by_eq
    · intro self
      conv => lhs; simp -implicitDefEqProofs (maxSteps := 300000) (disch := omega) [-getElem?_pos, -getElem?_neg, h2, hg0, h1]
    try (with_reducible refine Run.ret ?_)
    apply zz
    refine Run.call ((excess_ev u v (.slice a' xs.length c') fs xs _ (hf.keep hkp) (hx.keep hkp) (by omega) hlx (checkErr_le hck)).mono fun v wr hv => ?_)
    obtain ⟨rfl, r⟩ := hv
    have ra := r.1
    have rb := r.2
    try simp only [pushed_next', upded_next'] at ra rb
    apply Run.by_eq
    · intro self
      conv => lhs; simp -implicitDefEqProofs (maxSteps := 300000) (disch := omega) [-getElem?_pos, -getElem?_neg, h4, rb, hg1, Mass.v]
    try (with_reducible refine Run.ret ?_)
    apply zz
    apply Leave.mk (by first | exact .inl rfl | exact .inr rfl) (by simp only [Fr.marks_put, fr0_marks, hm, h4])
    · conv => lhs; simp -implicitDefEqProofs (disch := omega) [Try.results17, hm, h4]
    refine ⟨?_, ⟨by (try simp only [pushed_next', upded_next']); omega, fun i hi => by simp -implicitDefEqProofs (disch := omega) [hkpb, rb]⟩⟩
    unfold excV; rw [hok]; rfl
end Go.Proofs.Ytjehpgflhgpalaa
namespace Go.Proofs.Ytjehpgflhgpalaa
open Go Kern
def Mass.tim (t : Int) (p : Mass) : Mass := ⟨t * p.a, t * p.b, t * p.c, t * p.d⟩
end Go.Proofs.Ytjehpgflhgpalaa
namespace Go.Proofs.Ytjehpgflhgpalaa
open Go Kern
abbrev BoolsAt (s : St) (v : Value) (bs : List Bool) : Prop := SlAt 1 s v (bs.map fun b => [.bool b])
theorem BoolsAt.at {s : St} {a : Option Addr} {m c : Nat} {bs : List Bool} (h : BoolsAt s (.slice a m c) bs) {k : Nat} {x : Bool} (hk : bs[k]? = some x) :
    ∃ b off o cs g, a = some ⟨b, off, none⟩ ∧ b < s.next ∧ s.heap.get b = some o ∧ cellsOf o = some (cs, g) ∧ cs[off + k]? = some (.bool x) := by
  obtain ⟨b, off, o, cs, g, h1, h2, h3, h4, h5⟩ := SlAt.at h (k := k) (e := [.bool x]) (by rw [List.getElem?_map, hk]; rfl)
  refine ⟨b, off, o, cs, g, h1, h2, h3, h4, ?_⟩
  have := takeL_one h5
  rw [List.getElem?_drop, Nat.mul_one] at this
  exact this
end Go.Proofs.Ytjehpgflhgpalaa
namespace Go.Proofs.Ytjehpgflhgpalaa
open Go Kern
def inL (n : Nat) (ys : List Int) : List Bool := (List.range n).map fun i : Nat => decide ((i : Int) - 1 ∈ ys)
end Go.Proofs.Ytjehpgflhgpalaa
namespace Go.Proofs.Ytjehpgflhgpalaa
open Go Kern
theorem ends_in {u : Int} {fs : List FlowD} (h : checkErr u fs = 0) : ∀ f ∈ fs, (-1 ≤ f.fr ∧ f.fr < u) ∧ (-1 ≤ f.to ∧ f.to < u) := fun f hf => by
  obtain ⟨h1, _, _, h2⟩ := checkErr_ok h
  obtain ⟨a, b, _, _⟩ := flowErr_ok (h2 f hf)
  simp only [endB, unitB, Bool.or_eq_true, Bool.and_eq_true, decide_eq_true_eq] at a b
  omega
def okC (c i : Nat) : Bool := decide (97 ≤ c ∧ c ≤ 122) || (decide (48 ≤ c ∧ c ≤ 57) && !decide (i = 0))
def nameL (l : List UInt8) : Bool := decide (1 ≤ l.length) && (decide (l.length ≤ 10) && (List.range l.length).all fun i => okC (l.getD i 0).toNat i)
end Go.Proofs.Ytjehpgflhgpalaa
namespace Go.Proofs.Ytjehpgflhgpalaa
open Go Kern
/-- What a map of links says: who stands above whom leads to one of which there is none above. -/
def Forest (es : List (Int × Int)) (rt : Int → Int) : Prop :=
  (∀ x, lookI es x = none → rt x = x) ∧ (∀ x y, lookI es x = some y → rt x = rt y) ∧ (∀ x, lookI es (rt x) = none) ∧ ∃ d : Int → Nat, ∀ x y, lookI es x = some y → d y < d x
def uni (rt : Int → Int) (a b : Int) : Int → Int := if rt a = rt b then rt else fun x => if rt x = rt a then rt b else rt x
theorem Forest.empty : Forest [] id := ⟨fun _ _ => rfl, fun x y h => by simp [lookI] at h, fun _ => rfl, fun _ => 0, fun x y h => by simp [lookI] at h⟩
theorem lookI_append (es : List (Int × Int)) (a b x : Int) : lookI (es ++ [(a, b)]) x = match lookI es x with | some y => some y | none => if a = x then some b else none := by
  unfold lookI
  rw [List.find?_append]
  cases h : es.find? (fun p => p.1 == x) with
  | some p => simp
  | none =>
    by_cases e : a = x
    · simp [e]
    · simp [e]
theorem Forest.join {es : List (Int × Int)} {rt : Int → Int} (h : Forest es rt) {a b : Int} (hne : rt a ≠ rt b) : Forest (es ++ [(rt a, rt b)]) (uni rt a b) := by
  obtain ⟨h1, h2, h3, d, h4⟩ := h
  have hrr : ∀ x, rt (rt x) = rt x := fun x => h1 _ (h3 x)
  unfold uni
  rw [if_neg hne]
  refine ⟨fun x hx => ?_, fun x y hx => ?_, fun x => ?_, fun x => if rt x = rt a then d x + d (rt b) + 1 else d x, fun x y hx => ?_⟩
  · rw [lookI_append] at hx
    cases hl : lookI es x with
    | some y => rw [hl] at hx; cases hx
    | none =>
      rw [hl] at hx
      by_cases e : rt a = x
      · simp [e] at hx
      · simp only []
        rw [h1 x hl, if_neg (fun q => e q.symm)]
  · rw [lookI_append] at hx
    cases hl : lookI es x with
    | some z =>
      rw [hl] at hx; cases hx
      simp only [h2 x y hl]
    | none =>
      rw [hl] at hx
      by_cases e : rt a = x
      · simp [e] at hx
        subst e
        subst hx
        simp [hrr, hne.symm]
      · simp [e] at hx
  · rw [lookI_append]
    by_cases e : rt x = rt a
    · simp [e, h3 b, hne]
    · have e' : ¬ rt a = rt x := fun q => e q.symm
      simp [e, h3 x, e']
  · rw [lookI_append] at hx
    cases hl : lookI es x with
    | some z =>
      rw [hl] at hx; cases hx
      have := h4 x y hl
      simp only [h2 x y hl]
      split <;> omega
    | none =>
      rw [hl] at hx
      by_cases e : rt a = x
      · simp [e] at hx
        subst e
        subst hx
        simp [hrr, hne.symm]
        omega
      · simp [e] at hx
theorem mapL2_append : ∀ (es : List (Int × Int)) (a b : Int) (c : Nat), mapL2 (es ++ [(a, b)]) c = mapL2 es c ++ [(.int .i64 a, .int .i64 b, c + es.length)]
  | [], a, b, c => rfl
  | (x, y) :: r, a, b, c => by
    show (_ :: mapL2 (r ++ [(a, b)]) (c + 1)) = _
    rw [mapL2_append r a b (c + 1)]
    simp [mapL2, Nat.add_assoc, Nat.add_comm 1]
def HeadsAt (s : St) (r : Nat) (es : List (Int × Int)) : Prop := r < s.next ∧ s.heap.get r = some (.map (mapL2 es 0) es.length)
theorem HeadsAt.keep {s s' : St} {r : Nat} {es : List (Int × Int)} (hk : Keep s s') (h : HeadsAt s r es) : HeadsAt s' r es := ⟨Nat.lt_of_lt_of_le h.1 hk.1, (hk.2 _ h.1).trans h.2⟩
set_option maxRecDepth 100000 in
set_option maxHeartbeats 1000000 in
theorem head_ev (r : Nat) (es : List (Int × Int)) (rt : Int → Int) (x : Int) (s : St) (hm : HeadsAt s r es) (hF : Forest es rt) :
    Ev TT 67 [.agg #[.map (some r)], .int .i64 x] s fun v s' => v = .int .i64 (rt x) ∧ Keep s s' := by
  obtain ⟨hr, hg⟩ := hm
  obtain ⟨h1, h2, h3, d, h4⟩ := hF
  refine Ev.intro (fn := Try.f67) rfl (by kernel_rfl) rfl rfl ?_
  apply zz
  refine Cd.ra (h := ?_)
  apply Run.by_eq
  · intro self
    conv => lhs; simp -implicitDefEqProofs (maxSteps := 300000) (disch := omega) [-getElem?_pos, -getElem?_neg]
  try (with_reducible refine Run.ret ?_)
  apply zz
  refine Cd.inv (fun z f s' => ∃ y : Int, z = d y ∧ rt y = rt x ∧ f.marks = [] ∧ f.get 1 = .int .i64 y ∧ f.get 2 = .pointer (some ⟨s.next, 0, none⟩) ∧ s' = s.pushed (.cells [.map (some r)] none)) (d x) ?_ ?_
  · exact ⟨x, rfl, rfl, by simp, by simp, by simp, by simp⟩
  rintro z f s' ⟨y, rfl, hry, hmk, f1, f2, rfl⟩
  obtain ⟨q, hq, hq2, hq3⟩ := findK_ints y es 0 0
  cases hl : lookI es y with
  | none =>
    obtain rfl : q = none := hq3.2 hl
    apply zz
    refine Cd.ra (h := ?_)
    apply Run.by_eq
    · intro self
      conv => lhs; simp -implicitDefEqProofs (maxSteps := 300000) (disch := omega) [-getElem?_pos, -getElem?_neg, f1, f2, hg, hq]
    try (with_reducible refine Run.ret ?_)
    apply zz
    refine Cd.ra (h := ?_)
    apply Run.by_eq
    · intro self
      conv => lhs; simp -implicitDefEqProofs (maxSteps := 300000) (disch := omega) [-getElem?_pos, -getElem?_neg]
    try (with_reducible refine Run.ret ?_)
    apply zz
    apply Cd.ite rfl
    · conv => lhs; simp -implicitDefEqProofs (maxSteps := 300000) (disch := omega) [-getElem?_pos, -getElem?_neg]
    all_goals intro c0
    all_goals try (cases c0; done)
    all_goals try simp only [Bool.not_eq_true', Bool.not_eq_false', decide_eq_true_eq, decide_eq_false_iff_not] at c0
    all_goals apply zz
    apply zz
    refine Cd.ra (h := ?_)
    apply Run.by_eq
    · intro self
      conv => lhs; simp -implicitDefEqProofs (maxSteps := 300000) (disch := omega) [-getElem?_pos, -getElem?_neg, f1]
    try (with_reducible refine Run.ret ?_)
    apply zz
    apply Leave.mk (by first | exact .inl rfl | exact .inr rfl) (by simp only [Fr.marks_put, fr0_marks, hmk])
    · conv => lhs; simp -implicitDefEqProofs (disch := omega) [Try.results67, hmk]
    exact ⟨by rw [← hry, h1 y hl]; rfl, (Keep.refl _).pushed _⟩
  | some w =>
    rw [hl] at hq2
    obtain ⟨⟨i, v⟩, rfl⟩ : ∃ p, q = some p := by cases q with | none => simp at hq2 | some p => exact ⟨p, rfl⟩
    obtain rfl : v = .int .i64 w := by simpa using hq2
    apply zz
    refine Cd.ra (h := ?_)
    apply Run.by_eq
    · intro self
      conv => lhs; simp -implicitDefEqProofs (maxSteps := 300000) (disch := omega) [-getElem?_pos, -getElem?_neg, f1, f2, hg, hq]
    try (with_reducible refine Run.ret ?_)
    apply zz
    refine Cd.ra (h := ?_)
    apply Run.by_eq
    · intro self
      conv => lhs; simp -implicitDefEqProofs (maxSteps := 300000) (disch := omega) [-getElem?_pos, -getElem?_neg]
    try (with_reducible refine Run.ret ?_)
    apply zz
    apply Cd.ite rfl
    · conv => lhs; simp -implicitDefEqProofs (maxSteps := 300000) (disch := omega) [-getElem?_pos, -getElem?_neg]
    all_goals intro c0
    all_goals try (cases c0; done)
    all_goals try simp only [Bool.not_eq_true', Bool.not_eq_false', decide_eq_true_eq, decide_eq_false_iff_not] at c0
    all_goals apply zz
    apply zz
    refine Cd.ra (h := ?_)
    apply Run.by_eq
    · intro self
      conv => lhs; simp -implicitDefEqProofs (maxSteps := 300000) (disch := omega) [-getElem?_pos, -getElem?_neg]
    try (with_reducible refine Run.ret ?_)
    apply zz
    exact LoopK.nm (d w) (h4 y w hl) ⟨w, rfl, by rw [← h2 y w hl]; exact hry, by simp [hmk], by simp, by simp [f2], rfl⟩
set_option maxRecDepth 100000 in
set_option maxHeartbeats 1000000 in
theorem joined_ev (r : Nat) (es : List (Int × Int)) (rt : Int → Int) (x y : Int) (s : St) (hm : HeadsAt s r es) (hF : Forest es rt) :
    Ev TT 50 [.agg #[.map (some r)], .int .i64 x, .int .i64 y] s fun v s' => v = .bool (decide (rt x = rt y)) ∧ Keep s s' := by
  have hr := hm.1
  refine Ev.intro (fn := Try.f50) rfl (by kernel_rfl) rfl rfl ?_
  apply zz
  refine Cd.ra (h := ?_)
  apply Run.by_eq
  · intro self
    conv => lhs; simp -implicitDefEqProofs (maxSteps := 300000) (disch := omega) [-getElem?_pos, -getElem?_neg]
  try (with_reducible refine Run.ret ?_)
  apply zz
  refine Cd.drawnH (pl := [(0, 0, false, false), (1, 0, false, false), (3, 0, false, false), (4, 0, false, false), (2, 3, true, false), (5, 31, true, false), (6, 63, false, false), (7, 127, false, false)]) [false, false, true, true, false, false, false, false] (by kernel_rfl) (by decide) (by decide) (by conv => lhs; simp only [List.map_cons, List.map_nil]) (by conv => lhs; simp [strip, orderedG, flagH]) ?_
  apply Run.by_eq
  · intro self
    conv => lhs; simp -implicitDefEqProofs (maxSteps := 300000) (disch := omega) [-getElem?_pos, -getElem?_neg]
  try (with_reducible refine Run.ret ?_)
  apply zz
  refine Run.call ((head_ev r es rt x _ (hm.keep ⟨by (try simp only [pushed_next', upded_next']); omega, fun i hi => by simp -implicitDefEqProofs (disch := omega) []⟩) hF).mono fun v wq hv => ?_)
  obtain ⟨rfl, q⟩ := hv
  have qa := q.1
  have qb := q.2
  try simp only [pushed_next', upded_next'] at qa qb
  apply Run.by_eq
  · intro self
    conv => lhs; simp -implicitDefEqProofs (maxSteps := 300000) (disch := omega) [-getElem?_pos, -getElem?_neg, qb]
  try (with_reducible refine Run.ret ?_)
  apply zz
  refine Run.call ((head_ev r es rt y _ (hm.keep ⟨by (try simp only [pushed_next', upded_next']); omega, fun i hi => by simp -implicitDefEqProofs (disch := omega) [qb]⟩) hF).mono fun v wt hv => ?_)
  obtain ⟨rfl, t⟩ := hv
  have ta := t.1
  have tb := t.2
  try simp only [pushed_next', upded_next'] at ta tb
  apply Run.by_eq
  · intro self
    conv => lhs; simp -implicitDefEqProofs (maxSteps := 300000) (disch := omega) [-getElem?_pos, -getElem?_neg, qb, tb]
  try (with_reducible refine Run.ret ?_)
  apply zz
  apply Leave.mk (by first | exact .inl rfl | exact .inr rfl) (by simp only [Fr.marks_put, fr0_marks])
  · conv => lhs; simp -implicitDefEqProofs (disch := omega) [Try.results50]
  exact ⟨rfl, ⟨by (try simp only [pushed_next', upded_next']); omega, fun i hi => by simp -implicitDefEqProofs (disch := omega) [qb, tb]⟩⟩
set_option maxRecDepth 100000 in
set_option maxHeartbeats 1000000 in
theorem join_ev (r : Nat) (es : List (Int × Int)) (rt : Int → Int) (x y : Int) (s : St) (hm : HeadsAt s r es) (hF : Forest es rt) :
    Ev TT 66 [.agg #[.map (some r)], .int .i64 x, .int .i64 y] s fun v s' => v = .bool (!decide (rt x = rt y)) ∧ s.next ≤ s'.next ∧ (∀ i, i < s.next → i ≠ r → s'.heap.get i = s.heap.get i) ∧ ∃ es', HeadsAt s' r es' ∧ Forest es' (uni rt x y) := by
  have hr := hm.1
  have hg := hm.2
  refine Ev.intro (fn := Try.f66) rfl (by kernel_rfl) rfl rfl ?_
  apply zz
  refine Cd.ra (h := ?_)
  apply Run.by_eq
  · intro self
    conv => lhs; simp -implicitDefEqProofs (maxSteps := 300000) (disch := omega) [-getElem?_pos, -getElem?_neg]
  try (with_reducible refine Run.ret ?_)
  apply zz
  refine Cd.drawnH (pl := [(0, 0, false, false), (1, 0, false, false), (3, 0, false, false), (4, 0, false, false), (2, 3, true, false), (5, 31, true, false), (6, 63, false, false), (7, 127, false, false)]) [false, false, true, true, false, false, false, false] (by kernel_rfl) (by decide) (by decide) (by conv => lhs; simp only [List.map_cons, List.map_nil]) (by conv => lhs; simp [strip, orderedG, flagH]) ?_
  apply Run.by_eq
  · intro self
    conv => lhs; simp -implicitDefEqProofs (maxSteps := 300000) (disch := omega) [-getElem?_pos, -getElem?_neg]
  try (with_reducible refine Run.ret ?_)
  apply zz
  refine Run.call ((head_ev r es rt x _ (hm.keep ⟨by (try simp only [pushed_next', upded_next']); omega, fun i hi => by simp -implicitDefEqProofs (disch := omega) []⟩) hF).mono fun v wq hv => ?_)
  obtain ⟨rfl, q⟩ := hv
  have qa := q.1
  have qb := q.2
  try simp only [pushed_next', upded_next'] at qa qb
  apply Run.by_eq
  · intro self
    conv => lhs; simp -implicitDefEqProofs (maxSteps := 300000) (disch := omega) [-getElem?_pos, -getElem?_neg, qb]
  try (with_reducible refine Run.ret ?_)
  apply zz
  refine Run.call ((head_ev r es rt y _ (hm.keep ⟨by (try simp only [pushed_next', upded_next']); omega, fun i hi => by simp -implicitDefEqProofs (disch := omega) [qb]⟩) hF).mono fun v wt hv => ?_)
  obtain ⟨rfl, t⟩ := hv
  have ta := t.1
  have tb := t.2
  try simp only [pushed_next', upded_next'] at ta tb
  apply Run.by_eq
  · intro self
    conv => lhs; simp -implicitDefEqProofs (maxSteps := 300000) (disch := omega) [-getElem?_pos, -getElem?_neg, qb, tb]
  try (with_reducible refine Run.ret ?_)
  apply zz
  refine Cd.ra (h := ?_)
  apply Run.by_eq
  · intro self
    conv => lhs; simp -implicitDefEqProofs (maxSteps := 300000) (disch := omega) [-getElem?_pos, -getElem?_neg]
  try (with_reducible refine Run.ret ?_)
  apply zz
  apply Cd.ite rfl
  · conv => lhs; simp -implicitDefEqProofs (maxSteps := 300000) (disch := omega) [-getElem?_pos, -getElem?_neg]
  all_goals intro c0
  all_goals try (cases c0; done)
  all_goals try simp only [Bool.not_eq_true', Bool.not_eq_false', decide_eq_true_eq, decide_eq_false_iff_not] at c0
  all_goals apply zz
  · apply zz
    refine Cd.ra (h := ?_)
    apply Run.by_eq
    · intro self
      conv => lhs; simp -implicitDefEqProofs (maxSteps := 300000) (disch := omega) [-getElem?_pos, -getElem?_neg]
    try (with_reducible refine Run.ret ?_)
    apply zz
    apply Leave.mk (by first | exact .inl rfl | exact .inr rfl) (by simp only [Fr.marks_put, fr0_marks])
    · conv => lhs; simp -implicitDefEqProofs (disch := omega) [Try.results66]
    refine ⟨by simp [tupled, c0], by omega, fun i hi _ => ?_, es, ⟨by omega, ?_⟩, ?_⟩
    · simp -implicitDefEqProofs (disch := omega) [qb, tb]
    · simp -implicitDefEqProofs (disch := omega) [qb, tb, hg]
    · unfold uni; rw [if_pos c0]; exact hF
  · obtain ⟨f, hf, hf2, hf3⟩ := findK_ints (rt x) es 0 0
    obtain rfl : f = none := hf3.2 (hF.2.2.1 x)
    apply zz
    refine Cd.ra (h := ?_)
    apply Run.by_eq
    · intro self
      conv => lhs; simp -implicitDefEqProofs (maxSteps := 300000) (disch := omega) [-getElem?_pos, -getElem?_neg, qb, tb, hg, hf]
    try (with_reducible refine Run.ret ?_)
    apply zz
    refine Cd.ra (h := ?_)
    apply Run.by_eq
    · intro self
      conv => lhs; simp -implicitDefEqProofs (maxSteps := 300000) (disch := omega) [-getElem?_pos, -getElem?_neg]
    try (with_reducible refine Run.ret ?_)
    apply zz
    apply Leave.mk (by first | exact .inl rfl | exact .inr rfl) (by simp only [Fr.marks_put, fr0_marks])
    · conv => lhs; simp -implicitDefEqProofs (disch := omega) [Try.results66]
    refine ⟨by simp [tupled, c0], by (try simp only [upded_next']); omega, fun i hi hir => ?_, es ++ [(rt x, rt y)], ⟨by (try simp only [upded_next']); omega, ?_⟩, hF.join c0⟩
    · simp -implicitDefEqProofs (disch := omega) [qb, tb]
    · simp -implicitDefEqProofs (disch := omega) [mapL2_append]
/-- The root after all flows that are not measured, but one, from number i on. -/
def rtF (lo : Int) : List FlowD → Nat → (Int → Int) → (Int → Int)
  | [], _, rt => rt
  | f :: r, i, rt => rtF lo r (i + 1) (if f.me = false ∧ (i : Int) ≠ lo then uni rt f.fr f.to else rt)
def rtStep (lo : Int) (rt : Int → Int) (i : Nat) (f : FlowD) : Int → Int := if f.me = false ∧ (i : Int) ≠ lo then uni rt f.fr f.to else rt
theorem rtF_take (lo : Int) : ∀ (fs : List FlowD) (i : Nat) (rt : Int → Int) (k : Nat) (f : FlowD), fs[k]? = some f → rtF lo (fs.take (k + 1)) i rt = rtStep lo (rtF lo (fs.take k) i rt) (i + k) f
  | [], _, _, _, _, h => by simp at h
  | g :: r, i, rt, 0, f, h => by simp at h; subst h; simp [rtF, rtStep]
  | g :: r, i, rt, k + 1, f, h => by
    show rtF lo (r.take (k + 1)) (i + 1) _ = rtStep lo (rtF lo (r.take k) (i + 1) _) (i + (k + 1)) f
    rw [rtF_take lo r (i + 1) _ k f (by simpa using h)]
    rw [show i + 1 + k = i + (k + 1) by omega]
set_option maxRecDepth 100000 in
set_option maxHeartbeats 2000000 in
theorem joins_ev (u lo : Int) (v : Value) (fs : List FlowD) (s : St) (hf : FlAt s v fs) (hl : fs.length ≤ 1000000) :
    Ev TT 49 [plantV u v, .int .i64 lo] s fun r s' => Keep s s' ∧ ∃ b es, r = .agg #[.map (some b)] ∧ s.next ≤ b ∧ HeadsAt s' b es ∧ Forest es (rtF lo fs 0 id) := by
  obtain ⟨a, c, rfl⟩ := hf.shape
  rw [List.length_map] at hf ⊢
  unfold plantV
  refine Ev.intro (fn := Try.f49) rfl (by kernel_rfl) rfl rfl ?_
  apply zz
  refine Cd.ra (h := ?_)
  apply Run.by_eq
  · intro self
    conv => lhs; simp -implicitDefEqProofs (maxSteps := 300000) (disch := omega) [-getElem?_pos, -getElem?_neg]
  try (with_reducible refine Run.ret ?_)
  apply zz
  refine Cd.ra (h := ?_)
  apply Run.by_eq
  · intro self
    conv => lhs; simp -implicitDefEqProofs (maxSteps := 300000) (disch := omega) [-getElem?_pos, -getElem?_neg]
  try (with_reducible refine Run.ret ?_)
  apply zz
  refine Cd.ra (h := ?_)
  apply Run.by_eq
  · intro self
    conv => lhs; simp -implicitDefEqProofs (maxSteps := 300000) (disch := omega) [-getElem?_pos, -getElem?_neg]
  try (with_reducible refine Run.ret ?_)
  apply zz
  refine Cd.inv (fun z f s' => ∃ k : Nat, k ≤ fs.length ∧ z = fs.length - k ∧ f.marks = [] ∧ f.get 13 = .int .i64 k ∧ f.get 12 = .int .i64 fs.length ∧ f.get 11 = .slice a fs.length c ∧ f.get 1 = .int .i64 lo ∧ f.get 4 = .pointer (some ⟨s.next + 1, 0, none⟩) ∧ f.get 5 = .pointer (some ⟨s.next + 1 + 1 + 1, 0, none⟩) ∧ Keep s s' ∧ s.next + 1 + 1 + 1 < s'.next ∧ s'.heap.get (s.next + 1) = some (.cells [.map none] none) ∧ s'.heap.get (s.next + 1 + 1 + 1) = some (.cells [.map (some (s.next + 1 + 1))] none) ∧ ∃ es, s'.heap.get (s.next + 1 + 1) = some (.map (mapL2 es 0) es.length) ∧ Forest es (rtF lo (fs.take k) 0 id)) fs.length ?_ ?_
  · refine ⟨0, by omega, rfl, by simp, by simp, by simp, by simp, by simp, by simp, by simp, ⟨by (try simp only [pushed_next', upded_next']); omega, fun i hi => by simp -implicitDefEqProofs (disch := omega) []⟩, by simp, by simp -implicitDefEqProofs (disch := omega), by simp -implicitDefEqProofs (disch := omega), [], by simp -implicitDefEqProofs (disch := omega) [mapL2], Forest.empty⟩
  rintro z f s' ⟨k, hk, rfl, hm, h13, h12, h11, h1, h4, h5, hkp, hnx, hg1, hg3, es, hg2, hF⟩
  have hkpa := hkp.1
  have hkpb := hkp.2
  by_cases hlt : k < fs.length
  · obtain ⟨g, hg⟩ : ∃ g, fs[k]? = some g := ⟨fs[k], by simp [hlt]⟩
    have hstep := rtF_take lo fs 0 id k g hg
    rw [Nat.zero_add] at hstep
    obtain ⟨b, off, o, cs, gg, rfl, hb, ho, hc, ht⟩ := FlAt.at (hf.keep hkp) hg
    obtain ⟨g0, g1, gm, m⟩ := g
    rw [FlowD.cs] at ht
    simp only [] at ht
    apply zz
    refine Cd.ra (h := ?_)
    apply Run.by_eq
    · intro self
      conv => lhs; simp -implicitDefEqProofs (maxSteps := 300000) (disch := omega) [-getElem?_pos, -getElem?_neg, h13, h12]
    try (with_reducible refine Run.ret ?_)
    apply zz
    apply Cd.ite rfl
    · conv => lhs; simp -implicitDefEqProofs (maxSteps := 300000) (disch := omega) [-getElem?_pos, -getElem?_neg]
    all_goals intro c0
    all_goals try (cases c0; done)
    all_goals try simp only [Bool.not_eq_true', Bool.not_eq_false', decide_eq_true_eq, decide_eq_false_iff_not] at c0
    all_goals apply zz
    · apply zz
      refine Cd.ra (h := ?_)
      apply Run.by_eq
      · intro self
        conv => lhs; simp -implicitDefEqProofs (maxSteps := 300000) (disch := omega) [-getElem?_pos, -getElem?_neg, h13, h11, ho, hc, ht, hlt]
      try (with_reducible refine Run.ret ?_)
      apply zz
      by_cases hcase : gm = false ∧ (k : Int) ≠ lo
      · obtain ⟨rfl, hne⟩ := hcase
        apply zz
        refine Cd.ra (h := ?_)
        apply Run.by_eq
        · intro self
          conv => lhs; simp -implicitDefEqProofs (maxSteps := 300000) (disch := omega) [-getElem?_pos, -getElem?_neg, h1, hne]
        try (with_reducible refine Run.ret ?_)
        apply zz
        apply Cd.ite rfl
        · conv => lhs; simp -implicitDefEqProofs (maxSteps := 300000) (disch := omega) [-getElem?_pos, -getElem?_neg]
        all_goals intro c1
        all_goals try (cases c1; done)
        all_goals try simp only [Bool.not_eq_true', Bool.not_eq_false', decide_eq_true_eq, decide_eq_false_iff_not] at c1
        all_goals apply zz
        apply zz
        refine Cd.ra (h := ?_)
        apply Run.by_eq
        · intro self
          conv => lhs; simp -implicitDefEqProofs (maxSteps := 300000) (disch := omega) [-getElem?_pos, -getElem?_neg, h5, hg3]
        try (with_reducible refine Run.ret ?_)
        apply zz
        have hHA : HeadsAt ((s'.pushed (.cells [.int .i64 0, .int .i64 0, .bool false, .int .i64 0, .int .i64 0, .int .i64 0, .int .i64 0] none)).upded s'.next (.cells [.int .i64 g0, .int .i64 g1, .bool false, .int .i64 m.a, .int .i64 m.b, .int .i64 m.c, .int .i64 m.d] none)) (s.next + 1 + 1) es := ⟨by (try simp only [pushed_next', upded_next']); omega, by simp -implicitDefEqProofs (disch := omega) [hg2]⟩
        refine Run.call ((join_ev (s.next + 1 + 1) es _ g0 g1 _ hHA hF).mono fun v w1 hv => ?_)
        obtain ⟨rfl, qa, qb, es', hH', hF'⟩ := hv
        simp only [pushed_next', upded_next'] at qa qb
        apply Run.by_eq
        · intro self
          conv => lhs; simp -implicitDefEqProofs (maxSteps := 300000) (disch := omega) [-getElem?_pos, -getElem?_neg]
        try (with_reducible refine Run.ret ?_)
        apply zz
        refine Cd.ra (h := ?_)
        apply Run.by_eq
        · intro self
          conv => lhs; simp -implicitDefEqProofs (maxSteps := 300000) (disch := omega) [-getElem?_pos, -getElem?_neg, h13]
        try (with_reducible refine Run.ret ?_)
        apply zz
        refine LoopK.nm (fs.length - (k + 1)) (by omega) ⟨k + 1, by omega, rfl, by simp [hm], by simp, by simp [h12], by simp [h11], by simp [h1], by simp [h4], by simp [h5], ⟨by omega, fun i hi => by rw [qb i (by omega) (by omega)]; simp -implicitDefEqProofs (disch := omega) [hkpb]⟩, by omega, ?_, ?_, es', hH'.2, ?_⟩
        · rw [qb _ (by omega) (by omega)]; simp -implicitDefEqProofs (disch := omega) [hg1]
        · rw [qb _ (by omega) (by omega)]; simp -implicitDefEqProofs (disch := omega) [hg3]
        · rw [hstep]; unfold rtStep; rw [if_pos ⟨rfl, hne⟩]; exact hF'
      · have hstay : rtF lo (fs.take (k + 1)) 0 id = rtF lo (fs.take k) 0 id := by rw [hstep]; unfold rtStep; rw [if_neg hcase]
        have hfin : LoopK (fun z f s' => ∃ k : Nat, k ≤ fs.length ∧ z = fs.length - k ∧ f.marks = [] ∧ f.get 13 = .int .i64 k ∧ f.get 12 = .int .i64 fs.length ∧ True) 0 (fun _ _ _ => True) .ret f s' := trivial
        clear hfin
        cases gm with
        | true =>
          apply zz
          refine Cd.ra (h := ?_)
          apply Run.by_eq
          · intro self
            conv => lhs; simp -implicitDefEqProofs (maxSteps := 300000) (disch := omega) [-getElem?_pos, -getElem?_neg, h1]
          try (with_reducible refine Run.ret ?_)
          apply zz
          apply Cd.ite rfl
          · conv => lhs; simp -implicitDefEqProofs (maxSteps := 300000) (disch := omega) [-getElem?_pos, -getElem?_neg]
          all_goals intro c1
          all_goals try (cases c1; done)
          all_goals try simp only [Bool.not_eq_true', Bool.not_eq_false', decide_eq_true_eq, decide_eq_false_iff_not] at c1
          all_goals apply zz
          apply zz
          refine Cd.ra (h := ?_)
          apply Run.by_eq
          · intro self
            conv => lhs; simp -implicitDefEqProofs (maxSteps := 300000) (disch := omega) [-getElem?_pos, -getElem?_neg, h13]
          try (with_reducible refine Run.ret ?_)
          apply zz
          refine LoopK.nm (fs.length - (k + 1)) (by omega) ⟨k + 1, by omega, rfl, by simp [hm], by simp, by simp [h12], by simp [h11], by simp [h1], by simp [h4], by simp [h5], ⟨by (try simp only [pushed_next', upded_next']); omega, fun i hi => by simp -implicitDefEqProofs (disch := omega) [hkpb]⟩, by (try simp only [pushed_next', upded_next']); omega, ?_, ?_, es, ?_, ?_⟩
          · simp -implicitDefEqProofs (disch := omega) [hg1]
          · simp -implicitDefEqProofs (disch := omega) [hg3]
          · simp -implicitDefEqProofs (disch := omega) [hg2]
          · rw [hstay]; exact hF
        | false =>
          have heq : (k : Int) = lo := Classical.byContradiction fun h => hcase ⟨rfl, h⟩
          apply zz
          refine Cd.ra (h := ?_)
          apply Run.by_eq
          · intro self
            conv => lhs; simp -implicitDefEqProofs (maxSteps := 300000) (disch := omega) [-getElem?_pos, -getElem?_neg, h1, heq]
          try (with_reducible refine Run.ret ?_)
          apply zz
          apply Cd.ite rfl
          · conv => lhs; simp -implicitDefEqProofs (maxSteps := 300000) (disch := omega) [-getElem?_pos, -getElem?_neg]
          all_goals intro c1
          all_goals try (cases c1; done)
          all_goals try simp only [Bool.not_eq_true', Bool.not_eq_false', decide_eq_true_eq, decide_eq_false_iff_not] at c1
          all_goals apply zz
          apply zz
          refine Cd.ra (h := ?_)
          apply Run.by_eq
          · intro self
            conv => lhs; simp -implicitDefEqProofs (maxSteps := 300000) (disch := omega) [-getElem?_pos, -getElem?_neg, h13]
          try (with_reducible refine Run.ret ?_)
          apply zz
          refine LoopK.nm (fs.length - (k + 1)) (by omega) ⟨k + 1, by omega, rfl, by simp [hm], by simp, by simp [h12], by simp [h11], by simp [h1], by simp [h4], by simp [h5], ⟨by (try simp only [pushed_next', upded_next']); omega, fun i hi => by simp -implicitDefEqProofs (disch := omega) [hkpb]⟩, by (try simp only [pushed_next', upded_next']); omega, ?_, ?_, es, ?_, ?_⟩
          · simp -implicitDefEqProofs (disch := omega) [hg1]
          · simp -implicitDefEqProofs (disch := omega) [hg3]
          · simp -implicitDefEqProofs (disch := omega) [hg2]
          · rw [hstay]; exact hF
    · simp at c0; omega
  · obtain rfl : k = fs.length := by omega
    rw [List.take_length] at hF
    apply zz
    refine Cd.ra (h := ?_)
    apply Run.by_eq
    · intro self
      conv => lhs; simp -implicitDefEqProofs (maxSteps := 300000) (disch := omega) [-getElem?_pos, -getElem?_neg, h13, h12]
    try (with_reducible refine Run.ret ?_)
    apply zz
    apply Cd.ite rfl
    · conv => lhs; simp -implicitDefEqProofs (maxSteps := 300000) (disch := omega) [-getElem?_pos, -getElem?_neg]
    all_goals intro c0
    all_goals try (cases c0; done)
    all_goals try simp only [Bool.not_eq_true', Bool.not_eq_false', decide_eq_true_eq, decide_eq_false_iff_not] at c0
    all_goals apply zz
    apply zz
    refine Cd.ra (h := ?_)
    apply Run.by_eq
    · intro self
      conv => lhs; simp -implicitDefEqProofs (maxSteps := 300000) (disch := omega) [-getElem?_pos, -getElem?_neg, h5, hg3, h4, hg1]
    try (with_reducible refine Run.ret ?_)
    apply zz
    apply Leave.mk (by first | exact .inl rfl | exact .inr rfl) (by simp only [Fr.marks_put, fr0_marks, hm, h4])
    · conv => lhs; simp -implicitDefEqProofs (disch := omega) [Try.results49, hm, h4]
    exact ⟨⟨by (try simp only [pushed_next', upded_next']); omega, fun i hi => by simp -implicitDefEqProofs (disch := omega) [hkpb]⟩, s.next + 1 + 1, es, rfl, by omega, ⟨by (try simp only [upded_next']); omega, by simp -implicitDefEqProofs (disch := omega) [hg2]⟩, hF⟩
end Go.Proofs.Ytjehpgflhgpalaa
namespace Go.Proofs.Ytjehpgflhgpalaa
open Go Kern
/-- Those of the first j that have the root of k. -/
def clsN (rt : Int → Int) (k j : Nat) : List Int := ((List.range j).filter fun x : Nat => decide (rt x = rt k)).map fun x : Nat => (x : Int)
def isLead (rt : Int → Int) (n k : Nat) : Bool := decide ((clsN rt k n).head? = some (k : Int)) && !decide (rt k = rt (-1))
def leads (rt : Int → Int) (n k : Nat) : List Nat := (List.range k).filter (isLead rt n)
theorem clsN_succ (rt : Int → Int) (k j : Nat) : clsN rt k (j + 1) = if rt j = rt k then clsN rt k j ++ [(j : Int)] else clsN rt k j := by
  unfold clsN
  rw [List.range_succ, List.filter_append, List.map_append]
  by_cases h : rt j = rt k <;> simp [h]
theorem leads_succ (rt : Int → Int) (n k : Nat) : leads rt n (k + 1) = if isLead rt n k = true then leads rt n k ++ [k] else leads rt n k := by
  unfold leads
  rw [List.range_succ, List.filter_append]
  by_cases h : isLead rt n k = true <;> simp [h]
theorem cls_self (rt : Int → Int) {n k : Nat} (h : k < n) : clsN rt k n ≠ [] := by
  intro e
  have : (k : Int) ∈ clsN rt k n := by
    unfold clsN
    exact List.mem_map.2 ⟨k, by simp [h], rfl⟩
  rw [e] at this; cases this
theorem clsN_length (rt : Int → Int) (k j : Nat) : (clsN rt k j).length ≤ j := by
  unfold clsN
  rw [List.length_map]
  exact Nat.le_trans (List.length_filter_le _ _) (by simp)
/-- The units that are gathered, in a block of their own. -/
def OwnU (N : Nat) (s : St) (w : Value) (cs : List Int) : Prop :=
  (cs = [] ∧ w = .slice none 0 0) ∨ ∃ b, w = .slice (some ⟨b, 0, none⟩) cs.length cs.length ∧ cs ≠ [] ∧ N ≤ b ∧ b < s.next ∧ s.heap.get b = some (.cells (cs.map (Value.int .i64)) (some 1))
theorem OwnU.ints {N : Nat} {s : St} {w : Value} {cs : List Int} (h : OwnU N s w cs) : IntsAt s w cs := by
  rcases h with ⟨rfl, rfl⟩ | ⟨b, rfl, hne, h1, h2, h3⟩
  · exact .nil 0
  · have := SlAt.mk (n := 1) (s := s) (off := 0) (c := cs.length) (l := cs.map fun x => [.int .i64 x]) h2 h3 rfl (fun i e he => ?_)
    · rw [List.length_map] at this; exact this
    · rw [List.getElem?_map] at he
      cases hb : cs[i]? with
      | none => rw [hb] at he; cases he
      | some y =>
        rw [hb] at he; cases he
        rw [Nat.zero_add, Nat.mul_one]
        have hd : (cs.map (Value.int .i64)).drop i = .int .i64 y :: (cs.map (Value.int .i64)).drop (i + 1) := by
          rw [List.drop_eq_getElem_cons (by simpa using (List.getElem?_eq_some_iff.1 hb).1)]
          have := (List.getElem?_eq_some_iff.1 hb).2
          simp [this]
        rw [hd]; rfl
set_option maxRecDepth 100000 in
set_option maxHeartbeats 4000000 in
theorem iter_ev (n : Nat) (v yv : Value) (fs : List FlowD) (bp : Nat) (s : St) (X : Nat → Prop) (J : Nat → St → Prop) (hn : n ≤ 8) (hf : FlAt s v fs) (hl : fs.length ≤ 1000000)
    (hbp : bp < s.next) (hgp : s.heap.get bp = some (.cells [.int .i64 n, v] none)) (hX : ∀ i, X i → i < s.next) (hXp : ¬ X bp) (hJ0 : J 0 s)
    (hJs : ∀ k s1 s2, J k s1 → s1.next ≤ s2.next → (∀ i, i < s.next → s2.heap.get i = s1.heap.get i) → J k s2)
    (hskip : ∀ k s1, k < n → isLead (rtF (-1) fs 0 id) n k = false → J k s1 → J (k + 1) s1)
    (hyield : ∀ k s1 w, k < n → isLead (rtF (-1) fs 0 id) n k = true → J k s1 → s.next ≤ s1.next → IntsAt s1 w (clsN (rtF (-1) fs 0 id) k n) → (∃ bw, s.next ≤ bw ∧ w = .slice (some ⟨bw, 0, none⟩) (clsN (rtF (-1) fs 0 id) k n).length (clsN (rtF (-1) fs 0 id) k n).length) →
      Evn TT (fun self => callV self yv [.int .i64 (leads (rtF (-1) fs 0 id) n k).length, w] s1) fun p => p.1 = .bool true ∧ J (k + 1) p.2 ∧ s1.next ≤ p.2.next ∧ ∀ i, i < s1.next → ¬ X i → p.2.heap.get i = s1.heap.get i) :
    Ev TT 59 [yv, .pointer (some ⟨bp, 0, none⟩)] s fun _ s' => J n s' ∧ s.next ≤ s'.next ∧ ∀ i, i < s.next → ¬ X i → s'.heap.get i = s.heap.get i := by
  refine Ev.intro (fn := Try.f59) rfl (by kernel_rfl) rfl rfl ?_
  apply zz
  refine Cd.ra (h := ?_)
  apply Run.by_eq
  · intro self
    conv => lhs; simp -implicitDefEqProofs (maxSteps := 300000) (disch := omega) [-getElem?_pos, -getElem?_neg, hgp]
  try (with_reducible refine Run.ret ?_)
  apply zz
  refine Run.call ((joins_ev n (-1) v fs _ hf hl).mono fun r w1 hv => ?_)
  obtain ⟨hk1, b, es, rfl, hbs, hH, hF⟩ := hv
  generalize rtF (-1) fs 0 id = rt at *
  have k1a := hk1.1
  have k1b := hk1.2
  have hHl := hH.1
  apply Run.by_eq
  · intro self
    conv => lhs; simp -implicitDefEqProofs (maxSteps := 300000) (disch := omega) [-getElem?_pos, -getElem?_neg]
  try (with_reducible refine Run.ret ?_)
  apply zz
  refine Cd.ra (h := ?_)
  apply Run.by_eq
  · intro self
    conv => lhs; simp -implicitDefEqProofs (maxSteps := 300000) (disch := omega) [-getElem?_pos, -getElem?_neg]
  try (with_reducible refine Run.ret ?_)
  apply zz
  refine Cd.ra (h := ?_)
  apply Run.by_eq
  · intro self
    conv => lhs; simp -implicitDefEqProofs (maxSteps := 300000) (disch := omega) [-getElem?_pos, -getElem?_neg, k1b, hgp]
  try (with_reducible refine Run.ret ?_)
  apply zz
  refine Cd.inv (fun z f s' => ∃ k : Nat, k ≤ n ∧ z = n - k ∧ f.marks = [] ∧ f.get 12 = .int .i64 k ∧ f.get 11 = .int .i64 n ∧ f.get 0 = yv ∧ f.get 1 = .pointer (some ⟨bp, 0, none⟩) ∧ f.get 3 = .pointer (some ⟨w1.next, 0, none⟩) ∧ f.get 4 = .int .i64 (leads rt n k).length ∧ w1.next < s'.next ∧ (∀ i, i < s.next → ¬ X i → s'.heap.get i = s.heap.get i) ∧ s'.heap.get w1.next = some (.cells [.map (some b)] none) ∧ HeadsAt s' b es ∧ J k s') n ?_ ?_
  · refine ⟨0, by omega, rfl, by simp, by simp, by simp, by simp, by simp, by simp, by simp [leads], by simp, fun i hi hx => ?_, by simp, ⟨by (try simp only [pushed_next', upded_next']); omega, ?_⟩, hJs 0 s _ hJ0 (by (try simp only [pushed_next', upded_next']); omega) fun i hi => ?_⟩
    · simp -implicitDefEqProofs (disch := omega) [k1b]
    · simp -implicitDefEqProofs (disch := omega) [hH.2]
    · simp -implicitDefEqProofs (disch := omega) [k1b]
  rintro z f s' ⟨k, hk, rfl, hm, h12, h11, h0, h1, h3, h4, hnx, hold, hgh, hHA, hJ⟩
  have hgp' : s'.heap.get bp = some (.cells [.int .i64 n, v] none) := (hold bp hbp hXp).trans hgp
  by_cases hlt : k < n
  · apply zz
    refine Cd.ra (h := ?_)
    apply Run.by_eq
    · intro self
      conv => lhs; simp -implicitDefEqProofs (maxSteps := 300000) (disch := omega) [-getElem?_pos, -getElem?_neg, h12, h11]
    try (with_reducible refine Run.ret ?_)
    apply zz
    apply Cd.ite rfl
    · conv => lhs; simp -implicitDefEqProofs (maxSteps := 300000) (disch := omega) [-getElem?_pos, -getElem?_neg]
    all_goals intro c0
    all_goals try (cases c0; done)
    all_goals try simp only [Bool.not_eq_true', Bool.not_eq_false', decide_eq_true_eq, decide_eq_false_iff_not] at c0
    all_goals apply zz
    · apply zz
      refine Cd.ra (h := ?_)
      apply Run.by_eq
      · intro self
        conv => lhs; simp -implicitDefEqProofs (maxSteps := 300000) (disch := omega) [-getElem?_pos, -getElem?_neg, h12]
      try (with_reducible refine Run.ret ?_)
      apply zz
      refine Cd.ra (h := ?_)
      apply Run.by_eq
      · intro self
        conv => lhs; simp -implicitDefEqProofs (maxSteps := 300000) (disch := omega) [-getElem?_pos, -getElem?_neg]
      try (with_reducible refine Run.ret ?_)
      apply zz
      refine Cd.ra (h := ?_)
      apply Run.by_eq
      · intro self
        conv => lhs; simp -implicitDefEqProofs (maxSteps := 300000) (disch := omega) [-getElem?_pos, -getElem?_neg, h1, hgp']
      try (with_reducible refine Run.ret ?_)
      apply zz
      refine Cd.inv (fun z2 f2 s2 => ∃ j : Nat, j ≤ n ∧ z2 = n - j ∧ f2.marks = [] ∧ f2.get 17 = .int .i64 j ∧ f2.get 16 = .int .i64 n ∧ f2.get 12 = .int .i64 k ∧ f2.get 11 = .int .i64 n ∧ f2.get 0 = yv ∧ f2.get 1 = .pointer (some ⟨bp, 0, none⟩) ∧ f2.get 3 = .pointer (some ⟨w1.next, 0, none⟩) ∧ f2.get 4 = .int .i64 (leads rt n k).length ∧ f2.get 5 = .int .i64 k ∧ OwnU (w1.next + 1) s2 (f2.get 6) (clsN rt k j) ∧ w1.next < s2.next ∧ (∀ i, i < s.next → ¬ X i → s2.heap.get i = s.heap.get i) ∧ s2.heap.get w1.next = some (.cells [.map (some b)] none) ∧ HeadsAt s2 b es ∧ J k s2) n ?_ ?_
      · refine ⟨0, by omega, rfl, by simp [hm], by simp, by simp, by simp [h12], by simp [h11], by simp [h0], by simp [h1], by simp [h3], by simp [h4], by simp, .inl ⟨rfl, by simp⟩, hnx, hold, hgh, hHA, hJ⟩
      rintro z2 f2 s2 ⟨j, hj, rfl, gm, g17, g16, g12, g11, g0, g1, g3, g4, g5, hU, gnx, gold, ggh, gHA, gJ⟩
      have gHl := gHA.1
      by_cases hjn : j < n
      · apply zz
        refine Cd.ra (h := ?_)
        apply Run.by_eq
        · intro self
          conv => lhs; simp -implicitDefEqProofs (maxSteps := 300000) (disch := omega) [-getElem?_pos, -getElem?_neg, g17, g16]
        try (with_reducible refine Run.ret ?_)
        apply zz
        apply Cd.ite rfl
        · conv => lhs; simp -implicitDefEqProofs (maxSteps := 300000) (disch := omega) [-getElem?_pos, -getElem?_neg]
        all_goals intro d0
        all_goals try (cases d0; done)
        all_goals try simp only [Bool.not_eq_true', Bool.not_eq_false', decide_eq_true_eq, decide_eq_false_iff_not] at d0
        all_goals apply zz
        · apply zz
          refine Cd.ra (h := ?_)
          apply Run.by_eq
          · intro self
            conv => lhs; simp -implicitDefEqProofs (maxSteps := 300000) (disch := omega) [-getElem?_pos, -getElem?_neg, g17]
          try (with_reducible refine Run.ret ?_)
          apply zz
          refine Cd.ra (h := ?_)
          apply Run.by_eq
          · intro self
            conv => lhs; simp -implicitDefEqProofs (maxSteps := 300000) (disch := omega) [-getElem?_pos, -getElem?_neg, g3, ggh, g5]
          try (with_reducible refine Run.ret ?_)
          apply zz
          refine Run.call ((joined_ev b es rt j k _ gHA hF).mono fun v wq hv => ?_)
          obtain ⟨rfl, q⟩ := hv
          have qa := q.1
          have qb := q.2
          try simp only [pushed_next', upded_next'] at qa qb
          apply Run.by_eq
          · intro self
            conv => lhs; simp -implicitDefEqProofs (maxSteps := 300000) (disch := omega) [-getElem?_pos, -getElem?_neg]
          try (with_reducible refine Run.ret ?_)
          apply zz
          have hcn := clsN_succ rt k j
          by_cases hr : rt j = rt k
          · rw [if_pos hr] at hcn
            apply zz
            apply Cd.ite rfl
            · conv => lhs; simp -implicitDefEqProofs (maxSteps := 300000) (disch := omega) [-getElem?_pos, -getElem?_neg, hr]
            all_goals intro d1
            all_goals try (cases d1; done)
            all_goals try simp only [Bool.not_eq_true', Bool.not_eq_false', decide_eq_true_eq, decide_eq_false_iff_not] at d1
            all_goals apply zz
            rcases hU with ⟨hce, hw⟩ | ⟨bu, hw, hne, hb1, hb2, hb3⟩
            · apply zz
              refine Cd.ra (h := ?_)
              apply Run.by_eq
              · intro self
                conv => lhs; simp -implicitDefEqProofs (maxSteps := 300000) (disch := omega) [-getElem?_pos, -getElem?_neg, hw, appV_nil (size := 1) (g := none) (new := [.int .i64 (j : Int)]) (get_pushed_new _ _) rfl rfl]
              try (with_reducible refine Run.ret ?_)
              apply zz
              refine Cd.ra (h := ?_)
              apply Run.by_eq
              · intro self
                conv => lhs; simp -implicitDefEqProofs (maxSteps := 300000) (disch := omega) [-getElem?_pos, -getElem?_neg, g17]
              try (with_reducible refine Run.ret ?_)
              apply zz
              refine LoopK.nm (n - (j + 1)) (by omega) ⟨j + 1, by omega, rfl, by simp [gm], by simp, by simp [g16], by simp [g12], by simp [g11], by simp [g0], by simp [g1], by simp [g3], by simp [g4], by simp [g5], ?_, by (try simp only [pushed_next', upded_next']); omega, fun i hi hx => ?_, ?_, ⟨by (try simp only [pushed_next', upded_next']); omega, ?_⟩, hJs k s2 _ gJ (by (try simp only [pushed_next', upded_next']); omega) fun i hi => ?_⟩
              · rw [hcn, hce]
                exact .inr ⟨wq.next + 1, by simp, by simp, by omega, by simp, by simp⟩
              · rw [← gold i hi hx]; simp -implicitDefEqProofs (disch := omega) [qb]
              · simp -implicitDefEqProofs (disch := omega) [qb, ggh]
              · simp -implicitDefEqProofs (disch := omega) [qb, gHA.2]
              · simp -implicitDefEqProofs (disch := omega) [qb]
            · have hcl := clsN_length rt k j
              have hm1 : (wq.pushed (.cells [.int .i64 (j : Int)] none)).heap.get bu = some (.cells ((clsN rt k j).map (Value.int .i64)) (some 1)) := by simp -implicitDefEqProofs (disch := omega) [qb, hb3]
              have hap := appV_more (size := 1) (n := (clsN rt k j).length) (b2 := wq.next) hm1 (get_pushed_new _ _) rfl rfl (by simp) (by omega)
              apply zz
              refine Cd.ra (h := ?_)
              apply Run.by_eq
              · intro self
                conv => lhs; simp -implicitDefEqProofs (maxSteps := 300000) (disch := omega) [-getElem?_pos, -getElem?_neg, hw, hap]
              try (with_reducible refine Run.ret ?_)
              apply zz
              refine Cd.ra (h := ?_)
              apply Run.by_eq
              · intro self
                conv => lhs; simp -implicitDefEqProofs (maxSteps := 300000) (disch := omega) [-getElem?_pos, -getElem?_neg, g17]
              try (with_reducible refine Run.ret ?_)
              apply zz
              refine LoopK.nm (n - (j + 1)) (by omega) ⟨j + 1, by omega, rfl, by simp [gm], by simp, by simp [g16], by simp [g12], by simp [g11], by simp [g0], by simp [g1], by simp [g3], by simp [g4], by simp [g5], ?_, by (try simp only [pushed_next', upded_next']); omega, fun i hi hx => ?_, ?_, ⟨by (try simp only [pushed_next', upded_next']); omega, ?_⟩, hJs k s2 _ gJ (by (try simp only [pushed_next', upded_next']); omega) fun i hi => ?_⟩
              · rw [hcn]
                exact .inr ⟨wq.next + 1, by simp, by simp, by omega, by simp, by simp⟩
              · rw [← gold i hi hx]; simp -implicitDefEqProofs (disch := omega) [qb]
              · simp -implicitDefEqProofs (disch := omega) [qb, ggh]
              · simp -implicitDefEqProofs (disch := omega) [qb, gHA.2]
              · simp -implicitDefEqProofs (disch := omega) [qb]
          · rw [if_neg hr] at hcn
            apply zz
            apply Cd.ite rfl
            · conv => lhs; simp -implicitDefEqProofs (maxSteps := 300000) (disch := omega) [-getElem?_pos, -getElem?_neg, hr]
            all_goals intro d1
            all_goals try (cases d1; done)
            all_goals try simp only [Bool.not_eq_true', Bool.not_eq_false', decide_eq_true_eq, decide_eq_false_iff_not] at d1
            all_goals apply zz
            apply zz
            refine Cd.ra (h := ?_)
            apply Run.by_eq
            · intro self
              conv => lhs; simp -implicitDefEqProofs (maxSteps := 300000) (disch := omega) [-getElem?_pos, -getElem?_neg, g17]
            try (with_reducible refine Run.ret ?_)
            apply zz
            refine LoopK.nm (n - (j + 1)) (by omega) ⟨j + 1, by omega, rfl, by simp [gm], by simp, by simp [g16], by simp [g12], by simp [g11], by simp [g0], by simp [g1], by simp [g3], by simp [g4], by simp [g5], ?_, by (try simp only [pushed_next', upded_next']); omega, fun i hi hx => ?_, ?_, ⟨by (try simp only [pushed_next', upded_next']); omega, ?_⟩, hJs k s2 _ gJ (by (try simp only [pushed_next', upded_next']); omega) fun i hi => ?_⟩
            · rw [hcn]
              rcases hU with ⟨hce, hw⟩ | ⟨bu, hw, hne, hb1, hb2, hb3⟩
              · exact .inl ⟨hce, by simp [hw]⟩
              · exact .inr ⟨bu, by simp [hw], hne, hb1, by omega, by rw [qb _ hb2]; exact hb3⟩
            · rw [← gold i hi hx]; simp -implicitDefEqProofs (disch := omega) [qb]
            · simp -implicitDefEqProofs (disch := omega) [qb, ggh]
            · simp -implicitDefEqProofs (disch := omega) [qb, gHA.2]
            · simp -implicitDefEqProofs (disch := omega) [qb]
        · simp at d0; omega
      · obtain rfl : j = n := by omega
        apply zz
        refine Cd.ra (h := ?_)
        apply Run.by_eq
        · intro self
          conv => lhs; simp -implicitDefEqProofs (maxSteps := 300000) (disch := omega) [-getElem?_pos, -getElem?_neg, g17, g16]
        try (with_reducible refine Run.ret ?_)
        apply zz
        apply Cd.ite rfl
        · conv => lhs; simp -implicitDefEqProofs (maxSteps := 300000) (disch := omega) [-getElem?_pos, -getElem?_neg]
        all_goals intro d0
        all_goals try (cases d0; done)
        all_goals try simp only [Bool.not_eq_true', Bool.not_eq_false', decide_eq_true_eq, decide_eq_false_iff_not] at d0
        all_goals apply zz
        obtain ⟨hd, tl, hcl⟩ : ∃ hd tl, clsN rt k j = hd :: tl := by
          cases hc : clsN rt k j with
          | nil => exact absurd hc (cls_self rt hlt)
          | cons a l => exact ⟨a, l, rfl⟩
        have hints := hU.ints
        rcases hU with ⟨hce, hw⟩ | ⟨bu, hw, hne, hb1, hb2, hb3⟩
        · rw [hcl] at hce; cases hce
        rw [hcl] at hb3 hw
        simp only [List.map_cons, List.length_cons] at hb3 hw
        rw [hw] at hints
        have hskipEnd : isLead rt j k = false → ∀ (f3 : Fr) (s3 : St), f3.marks = [] → f3.get 12 = .int .i64 k → f3.get 11 = .int .i64 j → f3.get 0 = yv → f3.get 1 = .pointer (some ⟨bp, 0, none⟩) → f3.get 3 = .pointer (some ⟨w1.next, 0, none⟩) → f3.get 4 = .int .i64 (leads rt j k).length → Keep s2 s3 →
            ∃ k' : Nat, k' = k + 1 ∧ (leads rt j k').length = (leads rt j k).length ∧ w1.next < s3.next ∧ (∀ i, i < s.next → ¬ X i → s3.heap.get i = s.heap.get i) ∧ s3.heap.get w1.next = some (.cells [.map (some b)] none) ∧ HeadsAt s3 b es ∧ J k' s3 := fun hL f3 s3 _ _ _ _ _ _ _ hk3 => by
          refine ⟨k + 1, rfl, by rw [leads_succ, hL]; rfl, Nat.lt_of_lt_of_le gnx hk3.1, fun i hi hx => (hk3.2 i (by omega)).trans (gold i hi hx), (hk3.2 _ gnx).trans ggh, gHA.keep hk3, hskip k s3 hlt hL (hJs k s2 s3 gJ hk3.1 fun i hi => hk3.2 i (by omega))⟩
        by_cases hdk : hd = (k : Int)
        · subst hdk
          apply zz
          refine Cd.ra (h := ?_)
          apply Run.by_eq
          · intro self
            conv => lhs; simp -implicitDefEqProofs (maxSteps := 300000) (disch := omega) [-getElem?_pos, -getElem?_neg, hw, hb3, g5, g3, ggh]
          try (with_reducible refine Run.ret ?_)
          apply zz
          refine Run.call ((joined_ev b es rt k (-1) _ gHA hF).mono fun v wq hv => ?_)
          obtain ⟨rfl, q⟩ := hv
          have qa := q.1
          have qb := q.2
          try simp only [pushed_next', upded_next'] at qa qb
          apply Run.by_eq
          · intro self
            conv => lhs; simp -implicitDefEqProofs (maxSteps := 300000) (disch := omega) [-getElem?_pos, -getElem?_neg]
          try (with_reducible refine Run.ret ?_)
          apply zz
          by_cases hro : rt k = rt (-1)
          · have hL : isLead rt j k = false := by unfold isLead; simp [hro]
            apply zz
            apply Cd.ite rfl
            · conv => lhs; simp -implicitDefEqProofs (maxSteps := 300000) (disch := omega) [-getElem?_pos, -getElem?_neg, hro]
            all_goals intro d2
            all_goals try (cases d2; done)
            all_goals try simp only [Bool.not_eq_true', Bool.not_eq_false', decide_eq_true_eq, decide_eq_false_iff_not] at d2
            all_goals apply zz
            apply zz
            refine Cd.ra (h := ?_)
            apply Run.by_eq
            · intro self
              conv => lhs; simp -implicitDefEqProofs (maxSteps := 300000) (disch := omega) [-getElem?_pos, -getElem?_neg, g12]
            try (with_reducible refine Run.ret ?_)
            apply zz
            obtain ⟨k', rfl, e1, e2, e3, e4, e5, e6⟩ := hskipEnd hL f2 wq gm g12 g11 g0 g1 g3 g4 q
            exact LoopK.nm (j - (k + 1)) (by omega) ⟨k + 1, by omega, rfl, by simp [gm], by simp, by simp [g11], by simp [g0], by simp [g1], by simp [g3], by simp [g4, e1], e2, e3, e4, e5, e6⟩
          · have hL : isLead rt j k = true := by unfold isLead; simp [hro, hcl]
            apply zz
            apply Cd.ite rfl
            · conv => lhs; simp -implicitDefEqProofs (maxSteps := 300000) (disch := omega) [-getElem?_pos, -getElem?_neg, hro]
            all_goals intro d2
            all_goals try (cases d2; done)
            all_goals try simp only [Bool.not_eq_true', Bool.not_eq_false', decide_eq_true_eq, decide_eq_false_iff_not] at d2
            all_goals apply zz
            apply zz
            refine Cd.ra (h := ?_)
            apply Run.by_eq
            · intro self
              conv => lhs; simp -implicitDefEqProofs (maxSteps := 300000) (disch := omega) [-getElem?_pos, -getElem?_neg, g0, g4, hw]
            try (with_reducible refine Run.ret ?_)
            apply zz
            refine Run.callV ((hyield k wq _ hlt hL (hJs k s2 wq gJ q.1 fun i hi => q.2 i (by omega)) (by omega) (hints.keep q) ⟨bu, by omega, by rw [hcl]; rfl⟩).mono fun p hp => ?_)
            obtain ⟨pv, ps⟩ := p
            obtain ⟨rfl, p1, p2, p3⟩ := hp
            simp only [] at p1 p2 p3
            have hll : (leads rt j k).length ≤ k := by unfold leads; exact Nat.le_trans (List.length_filter_le _ _) (by simp)
            have hXo : ∀ i, s.next ≤ i → ¬ X i := fun i hi hx => absurd (hX i hx) (by omega)
            apply Run.by_eq
            · intro self
              conv => lhs; simp -implicitDefEqProofs (maxSteps := 300000) (disch := omega) [-getElem?_pos, -getElem?_neg]
            try (with_reducible refine Run.ret ?_)
            apply zz
            apply Cd.ite rfl
            · conv => lhs; simp -implicitDefEqProofs (maxSteps := 300000) (disch := omega) [-getElem?_pos, -getElem?_neg]
            all_goals intro d3
            all_goals try (cases d3; done)
            all_goals try simp only [Bool.not_eq_true', Bool.not_eq_false', decide_eq_true_eq, decide_eq_false_iff_not] at d3
            all_goals apply zz
            apply zz
            refine Cd.ra (h := ?_)
            apply Run.by_eq
            · intro self
              conv => lhs; simp -implicitDefEqProofs (maxSteps := 300000) (disch := omega) [-getElem?_pos, -getElem?_neg, g4]
            try (with_reducible refine Run.ret ?_)
            apply zz
            refine Cd.ra (h := ?_)
            apply Run.by_eq
            · intro self
              conv => lhs; simp -implicitDefEqProofs (maxSteps := 300000) (disch := omega) [-getElem?_pos, -getElem?_neg, g12]
            try (with_reducible refine Run.ret ?_)
            apply zz
            refine LoopK.nm (j - (k + 1)) (by omega) ⟨k + 1, by omega, rfl, by simp [gm], by simp, by simp [g11], by simp [g0], by simp [g1], by simp [g3], ?_, by omega, fun i hi hx => ?_, ?_, ⟨by omega, ?_⟩, p1⟩
            · rw [leads_succ, hL]; simp
            · rw [p3 i (by omega) hx, qb i (by omega)]; exact gold i hi hx
            · rw [p3 _ (by omega) (hXo _ (by omega)), qb _ (by omega)]; exact ggh
            · rw [p3 _ (by omega) (hXo _ hbs), qb _ (by omega)]; exact gHA.2
        · have hL : isLead rt j k = false := by unfold isLead; simp [hcl, hdk]
          apply zz
          refine Cd.ra (h := ?_)
          apply Run.by_eq
          · intro self
            conv => lhs; simp -implicitDefEqProofs (maxSteps := 300000) (disch := omega) [-getElem?_pos, -getElem?_neg, hw, hb3, g5, hdk]
          try (with_reducible refine Run.ret ?_)
          apply zz
          apply Cd.ite rfl
          · conv => lhs; simp -implicitDefEqProofs (maxSteps := 300000) (disch := omega) [-getElem?_pos, -getElem?_neg]
          all_goals intro d2
          all_goals try (cases d2; done)
          all_goals try simp only [Bool.not_eq_true', Bool.not_eq_false', decide_eq_true_eq, decide_eq_false_iff_not] at d2
          all_goals apply zz
          apply zz
          refine Cd.ra (h := ?_)
          apply Run.by_eq
          · intro self
            conv => lhs; simp -implicitDefEqProofs (maxSteps := 300000) (disch := omega) [-getElem?_pos, -getElem?_neg, g12]
          try (with_reducible refine Run.ret ?_)
          apply zz
          obtain ⟨k', rfl, e1, e2, e3, e4, e5, e6⟩ := hskipEnd hL f2 s2 gm g12 g11 g0 g1 g3 g4 (Keep.refl _)
          exact LoopK.nm (j - (k + 1)) (by omega) ⟨k + 1, by omega, rfl, by simp [gm], by simp, by simp [g11], by simp [g0], by simp [g1], by simp [g3], by simp [g4, e1], e2, e3, e4, e5, e6⟩
    · simp at c0; omega
  · obtain rfl : k = n := by omega
    apply zz
    refine Cd.ra (h := ?_)
    apply Run.by_eq
    · intro self
      conv => lhs; simp -implicitDefEqProofs (maxSteps := 300000) (disch := omega) [-getElem?_pos, -getElem?_neg, h12, h11]
    try (with_reducible refine Run.ret ?_)
    apply zz
    apply Cd.ite rfl
    · conv => lhs; simp -implicitDefEqProofs (maxSteps := 300000) (disch := omega) [-getElem?_pos, -getElem?_neg]
    all_goals intro c0
    all_goals try (cases c0; done)
    all_goals try simp only [Bool.not_eq_true', Bool.not_eq_false', decide_eq_true_eq, decide_eq_false_iff_not] at c0
    all_goals apply zz
    apply Leave.mk (by first | exact .inl rfl | exact .inr rfl) (by simp only [Fr.marks_put, fr0_marks, hm])
    · conv => lhs; simp -implicitDefEqProofs (disch := omega) [Try.results59, hm]
    exact ⟨hJ, by omega, hold⟩
end Go.Proofs.Ytjehpgflhgpalaa
namespace Go.Proofs.Ytjehpgflhgpalaa
open Go Kern
set_option maxRecDepth 100000 in
theorem parts_ev (u : Int) (v : Value) (s : St) : Ev TT 38 [plantV u v] s fun r s' => Keep s s' ∧ ∃ bp, r = .func (.func 59) #[] #[.pointer (some ⟨bp, 0, none⟩)] ∧ s.next ≤ bp ∧ bp < s'.next ∧ s'.heap.get bp = some (.cells [.int .i64 u, v] none) := by
  unfold plantV
  refine Ev.intro (fn := Try.f38) rfl (by kernel_rfl) rfl rfl ?_
  apply zz
  refine Cd.ra (h := ?_)
  apply Run.by_eq
  · intro self
    conv => lhs; simp -implicitDefEqProofs (maxSteps := 300000) (disch := omega) [-getElem?_pos, -getElem?_neg]
  try (with_reducible refine Run.ret ?_)
  apply zz
  refine Cd.ra (h := ?_)
  apply Run.by_eq
  · intro self
    conv => lhs; simp -implicitDefEqProofs (maxSteps := 300000) (disch := omega) [-getElem?_pos, -getElem?_neg]
  try (with_reducible refine Run.ret ?_)
  apply zz
  apply Leave.mk (by first | exact .inl rfl | exact .inr rfl) (by simp only [Fr.marks_put, fr0_marks])
  · conv => lhs; simp -implicitDefEqProofs (disch := omega) [Try.results38]
  exact ⟨(Keep.refl _).pushed _, s.next, rfl, Nat.le_refl _, by simp, by simp⟩
def idxR (rt : Int → Int) (r : Int) : List Nat → Int → Int
  | [], _ => -1
  | l :: t, i => if rt l = r then i else idxR rt r t (i + 1)
def partAt (rt : Int → Int) (n k x : Nat) : Int := idxR rt (rt x) (leads rt n k) 0
def partL (rt : Int → Int) (n k : Nat) : List Int := (List.range n).map (partAt rt n k)
theorem idxR_none {rt : Int → Int} {r : Int} : ∀ {L : List Nat} (i : Int), (∀ l ∈ L, rt l ≠ r) → idxR rt r L i = -1
  | [], _, _ => rfl
  | l :: t, i, h => by
    simp only [idxR, if_neg (h l (.head _))]
    exact idxR_none (i + 1) fun l hl => h l (.tail _ hl)
theorem idxR_append {rt : Int → Int} {r : Int} {k : Nat} : ∀ {L : List Nat} (i : Int), idxR rt r (L ++ [k]) i = if (∃ l ∈ L, rt l = r) then idxR rt r L i else if rt k = r then i + L.length else -1
  | [], i => by simp [idxR]
  | l :: t, i => by
    by_cases h : rt l = r
    · simp [idxR, h]
    · simp only [List.cons_append, idxR, if_neg h, idxR_append (L := t) (i + 1)]
      have e : (∃ x ∈ l :: t, rt x = r) ↔ ∃ x ∈ t, rt x = r := by simp [h]
      simp only [e, List.length_cons]
      by_cases h2 : ∃ x ∈ t, rt x = r
      · rw [if_pos h2, if_pos h2]
      · rw [if_neg h2, if_neg h2]
        by_cases h3 : rt k = r
        · rw [if_pos h3, if_pos h3]; push_cast; omega
        · rw [if_neg h3, if_neg h3]
theorem clsN_first {rt : Int → Int} {n k l : Nat} (h : isLead rt n k = true) (hl : l < k) (hk : k < n) : rt l ≠ rt k := by
  intro e
  simp only [isLead, Bool.and_eq_true, decide_eq_true_eq] at h
  obtain ⟨h1, _⟩ := h
  unfold clsN at h1
  have hsplit : List.range n = List.range (l + 1) ++ (List.range n).drop (l + 1) := by
    rw [← List.take_append_drop (l + 1) (List.range n), List.take_range]
    simp [show min (l + 1) n = l + 1 by omega]
  rw [hsplit, List.filter_append, List.map_append, List.head?_append] at h1
  have hmem : (l : Int) ∈ ((List.range (l + 1)).filter fun x : Nat => decide (rt x = rt k)).map fun x : Nat => (x : Int) := List.mem_map.2 ⟨l, by simp [e], rfl⟩
  cases hc : ((List.range (l + 1)).filter fun x : Nat => decide (rt x = rt k)).map (fun x : Nat => (x : Int)) with
  | nil => rw [hc] at hmem; cases hmem
  | cons a t =>
    rw [hc] at h1
    simp at h1
    have ha : a ∈ ((List.range (l + 1)).filter fun x : Nat => decide (rt x = rt k)).map (fun x : Nat => (x : Int)) := by rw [hc]; exact .head _
    obtain ⟨y, hy, rfl⟩ := List.mem_map.1 ha
    have := List.mem_range.1 (List.mem_filter.1 hy).1
    omega
theorem mem_leads {rt : Int → Int} {n k l : Nat} : l ∈ leads rt n k ↔ l < k ∧ isLead rt n l = true := by unfold leads; simp
theorem mem_cls {rt : Int → Int} {n k : Nat} {x : Nat} (hx : x < n) : (x : Int) ∈ clsN rt k n ↔ rt x = rt k := by
  unfold clsN
  constructor
  · intro h
    obtain ⟨y, hy, e⟩ := List.mem_map.1 h
    have : y = x := by omega
    subst this
    simpa using (List.mem_filter.1 hy).2
  · intro h
    exact List.mem_map.2 ⟨x, by simp [hx, h], rfl⟩
theorem partL_lead {rt : Int → Int} {n k : Nat} (hk : k < n) (h : isLead rt n k = true) : (List.range n).map (fun x : Nat => if (x : Int) ∈ clsN rt k n then ((leads rt n k).length : Int) else partAt rt n k x) = partL rt n (k + 1) := by
  unfold partL
  apply List.map_congr_left
  intro x hx
  have hxn : x < n := by simpa using hx
  unfold partAt
  rw [leads_succ, if_pos h, idxR_append, Int.zero_add]
  simp only [mem_cls hxn]
  by_cases e : rt x = rt k
  · rw [if_pos e, if_neg, if_pos e.symm]
    rintro ⟨l, hl, e2⟩
    obtain ⟨hl1, _⟩ := mem_leads.1 hl
    exact clsN_first h hl1 hk (e2.trans e)
  · rw [if_neg e]
    by_cases h2 : ∃ l ∈ leads rt n k, rt l = rt x
    · rw [if_pos h2]
    · rw [if_neg h2, if_neg (fun q => e q.symm)]
      exact idxR_none _ fun l hl e2 => h2 ⟨l, hl, e2⟩
theorem partL_skip {rt : Int → Int} {n k : Nat} (h : isLead rt n k = false) : partL rt n (k + 1) = partL rt n k := by
  unfold partL partAt
  rw [leads_succ, if_neg (by rw [h]; decide)]
theorem partL_zero (rt : Int → Int) (n : Nat) : partL rt n 0 = List.replicate n (-1) := by
  apply List.ext_getElem?
  intro i
  by_cases h : i < n <;> simp [partL, partAt, leads, idxR, h]
theorem Fr.get_mk (f : Fr) (m : List Nat) (t : Tmp) : Fr.get ⟨f.tmps, m⟩ t = f.get t := rfl
theorem ints_of_cells {s : St} {b c : Nat} {xs : List Int} {g : Option Nat} (h2 : b < s.next) (h3 : s.heap.get b = some (.cells (xs.map (Value.int .i64)) g)) : IntsAt s (.slice (some ⟨b, 0, none⟩) xs.length c) xs := by
  have := SlAt.mk (n := 1) (s := s) (off := 0) (c := c) (l := xs.map fun x => [.int .i64 x]) h2 h3 rfl (fun i e he => ?_)
  · rw [List.length_map] at this; exact this
  · rw [List.getElem?_map] at he
    cases hb : xs[i]? with
    | none => rw [hb] at he; cases he
    | some y =>
      rw [hb] at he; cases he
      rw [Nat.zero_add, Nat.mul_one]
      have hd : (xs.map (Value.int .i64)).drop i = .int .i64 y :: (xs.map (Value.int .i64)).drop (i + 1) := by
        rw [List.drop_eq_getElem_cons (by simpa using (List.getElem?_eq_some_iff.1 hb).1)]
        have := (List.getElem?_eq_some_iff.1 hb).2
        simp [this]
      rw [hd]; rfl
theorem range_set {g h : Nat → Int} {n k : Nat} (hk : k < n) (ho : ∀ x, x < n → x ≠ k → h x = g x) {w : Int} (hw : w = h k) : ((List.range n).map fun x : Nat => Value.int .i64 (g x)).set k (.int .i64 w) = (List.range n).map fun x : Nat => Value.int .i64 (h x) := by
  subst hw
  apply List.ext_getElem?
  intro i
  rw [List.getElem?_set]
  by_cases e : k = i
  · subst e; simp [hk]
  · rw [if_neg e]
    by_cases hi : i < n
    · simp [hi, ho i hi (fun q => e q.symm)]
    · simp [hi]
def partsErrL (u : Int) (fs : List FlowD) : List Int := if checkErr u fs = 0 then partL (rtF (-1) fs 0 id) u.toNat u.toNat else []
set_option maxRecDepth 100000 in
set_option maxHeartbeats 4000000 in
theorem partsP_ev (u : Int) (v : Value) (fs : List FlowD) (s : St) (hf : FlAt s v fs) (hl : fs.length ≤ 1000000) :
    Ev TT 14 [plantV u v] s fun r s' => Keep s s' ∧ ∃ w, r = .tuple #[w, .int .i64 (checkErr u fs)] ∧ IntsAt s' w (partsErrL u fs) := by
  unfold plantV
  refine Ev.intro (fn := Try.f14) rfl (by kernel_rfl) rfl rfl ?_
  apply zz
  refine Cd.ra (h := ?_)
  apply Run.by_eq
  · intro self
    conv => lhs; simp -implicitDefEqProofs (maxSteps := 300000) (disch := omega) [-getElem?_pos, -getElem?_neg]
  try (with_reducible refine Run.ret ?_)
  apply zz
  refine Cd.ra (h := ?_)
  apply Run.by_eq
  · intro self
    conv => lhs; simp -implicitDefEqProofs (maxSteps := 300000) (disch := omega) [-getElem?_pos, -getElem?_neg]
  try (with_reducible refine Run.ret ?_)
  apply zz
  refine Run.call ((check_ev u v fs _ (hf.keep ⟨by (try simp only [pushed_next', upded_next']); omega, fun i hi => by simp -implicitDefEqProofs (disch := omega) []⟩) hl).mono fun v wq hv => ?_)
  obtain ⟨rfl, q⟩ := hv
  have qa := q.1
  have qb := q.2
  try simp only [pushed_next', upded_next'] at qa qb
  apply Run.by_eq
  · intro self
    conv => lhs; simp -implicitDefEqProofs (maxSteps := 300000) (disch := omega) [-getElem?_pos, -getElem?_neg]
  try (with_reducible refine Run.ret ?_)
  apply zz
  refine Cd.ra (h := ?_)
  apply Run.by_eq
  · intro self
    conv => lhs; simp -implicitDefEqProofs (maxSteps := 300000) (disch := omega) [-getElem?_pos, -getElem?_neg]
  try (with_reducible refine Run.ret ?_)
  apply zz
  apply Cd.ite rfl
  · conv => lhs; simp -implicitDefEqProofs (maxSteps := 300000) (disch := omega) [-getElem?_pos, -getElem?_neg]
  all_goals intro c0
  all_goals try (cases c0; done)
  all_goals try simp only [Bool.not_eq_true', Bool.not_eq_false', decide_eq_true_eq, decide_eq_false_iff_not] at c0
  all_goals apply zz
  · apply zz
    refine Cd.ra (h := ?_)
    apply Run.by_eq
    · intro self
      conv => lhs; simp -implicitDefEqProofs (maxSteps := 300000) (disch := omega) [-getElem?_pos, -getElem?_neg]
    try (with_reducible refine Run.ret ?_)
    apply zz
    apply Leave.mk (by first | exact .inl rfl | exact .inr rfl) (by simp only [Fr.marks_put, fr0_marks])
    · conv => lhs; simp -implicitDefEqProofs (disch := omega) [Try.results14]
    refine ⟨⟨by (try simp only [pushed_next', upded_next']); omega, fun i hi => by simp -implicitDefEqProofs (disch := omega) [qb]⟩, _, rfl, ?_⟩
    unfold partsErrL; rw [if_neg c0]; exact .nil 0
  have hck : checkErr u fs = 0 := c0
  obtain ⟨hu1, hu2, hl20, _⟩ := checkErr_ok hck
  obtain ⟨n, hn⟩ : ∃ n : Nat, u = n := ⟨u.toNat, by omega⟩
  subst hn
  have hn8 : n ≤ 8 := by omega
  apply zz
  refine Cd.ra (h := ?_)
  apply Run.by_eq
  · intro self
    conv => lhs; simp -implicitDefEqProofs (maxSteps := 300000) (disch := omega) [-getElem?_pos, -getElem?_neg, qb]
  try (with_reducible refine Run.ret ?_)
  apply zz
  refine Cd.ra (h := ?_)
  apply Run.by_eq
  · intro self
    conv => lhs; simp -implicitDefEqProofs (maxSteps := 300000) (disch := omega) [-getElem?_pos, -getElem?_neg]
  try (with_reducible refine Run.ret ?_)
  apply zz
  refine Cd.inv (fun z f s' => ∃ k : Nat, k ≤ n ∧ z = n - k ∧ f.marks = [] ∧ f.get 21 = .int .i64 k ∧ f.get 20 = .int .i64 n ∧ f.get 1 = .pointer (some ⟨s.next, 0, none⟩) ∧ f.get 5 = .pointer (some ⟨wq.next + 1, 0, none⟩) ∧ Keep s s' ∧ wq.next + 1 < s'.next ∧ s'.heap.get s.next = some (.cells [.int .i64 n, v] none) ∧ s'.heap.get (wq.next + 1) = some (.cells [.slice (some ⟨wq.next, 0, none⟩) n n] none) ∧ s'.heap.get wq.next = some (.cells ((List.range n).map fun x : Nat => Value.int .i64 (if x < k then -1 else 0)) none)) n ?_ ?_
  · refine ⟨0, by omega, rfl, by simp, by simp, by simp, by simp, by simp, ⟨by (try simp only [pushed_next', upded_next']); omega, fun i hi => by simp -implicitDefEqProofs (disch := omega) [qb]⟩, by simp, ?_, ?_, ?_⟩
    · simp -implicitDefEqProofs (disch := omega) [qb]
    · simp -implicitDefEqProofs (disch := omega)
    · simp -implicitDefEqProofs (disch := omega) [repeatL_single]
      apply List.ext_getElem?
      intro i
      by_cases h : i < n <;> simp [h]
  rintro z f s' ⟨k, hk, rfl, hm, h21, h20, h1, h5, hkp, hnx, hg0, hg5, hgo⟩
  have hkpa := hkp.1
  have hkpb := hkp.2
  by_cases hlt : k < n
  · have hput := putL_set (Value.int .i64 (-1)) k ((List.range n).map fun x : Nat => Value.int .i64 (if x < k then -1 else 0)) (by simpa using hlt)
    rw [range_set (h := fun x => if x < k + 1 then -1 else 0) hlt (fun x _ hx => by by_cases e : x < k <;> simp [e] <;> omega) (by simp)] at hput
    apply zz
    refine Cd.ra (h := ?_)
    apply Run.by_eq
    · intro self
      conv => lhs; simp -implicitDefEqProofs (maxSteps := 300000) (disch := omega) [-getElem?_pos, -getElem?_neg, h21, h20]
    try (with_reducible refine Run.ret ?_)
    apply zz
    apply Cd.ite rfl
    · conv => lhs; simp -implicitDefEqProofs (maxSteps := 300000) (disch := omega) [-getElem?_pos, -getElem?_neg]
    all_goals intro c1
    all_goals try (cases c1; done)
    all_goals try simp only [Bool.not_eq_true', Bool.not_eq_false', decide_eq_true_eq, decide_eq_false_iff_not] at c1
    all_goals apply zz
    · apply zz
      refine Cd.ra (h := ?_)
      apply Run.by_eq
      · intro self
        conv => lhs; simp -implicitDefEqProofs (maxSteps := 300000) (disch := omega) [-getElem?_pos, -getElem?_neg, h21]
      try (with_reducible refine Run.ret ?_)
      apply zz
      refine Cd.ra (h := ?_)
      apply Run.by_eq
      · intro self
        conv => lhs; simp -implicitDefEqProofs (maxSteps := 300000) (disch := omega) [-getElem?_pos, -getElem?_neg, h5, hg5, hgo, hlt, hput]
      try (with_reducible refine Run.ret ?_)
      apply zz
      refine Cd.ra (h := ?_)
      apply Run.by_eq
      · intro self
        conv => lhs; simp -implicitDefEqProofs (maxSteps := 300000) (disch := omega) [-getElem?_pos, -getElem?_neg, h21]
      try (with_reducible refine Run.ret ?_)
      apply zz
      refine LoopK.nm (n - (k + 1)) (by omega) ⟨k + 1, by omega, rfl, by simp [hm], by simp, by simp [h20], by simp [h1], by simp [h5], ⟨by (try simp only [pushed_next', upded_next']); omega, fun i hi => by simp -implicitDefEqProofs (disch := omega) [hkpb]⟩, by (try simp only [upded_next']); omega, ?_, ?_, ?_⟩
      · simp -implicitDefEqProofs (disch := omega) [hg0]
      · simp -implicitDefEqProofs (disch := omega) [hg5]
      · rw [get_upded_same]
    · simp at c1; omega
  obtain rfl : k = n := by omega
  have hgo1 : s'.heap.get wq.next = some (.cells ((partL (rtF (-1) fs 0 id) k 0).map (Value.int .i64)) none) := by
    rw [hgo, partL_zero]
    congr 2
    apply List.ext_getElem?
    intro i
    by_cases h : i < k <;> simp [h]
  clear hgo
  generalize hrt : rtF (-1) fs 0 id = rt at hgo1
  apply zz
  refine Cd.ra (h := ?_)
  apply Run.by_eq
  · intro self
    conv => lhs; simp -implicitDefEqProofs (maxSteps := 300000) (disch := omega) [-getElem?_pos, -getElem?_neg, h21, h20]
  try (with_reducible refine Run.ret ?_)
  apply zz
  apply Cd.ite rfl
  · conv => lhs; simp -implicitDefEqProofs (maxSteps := 300000) (disch := omega) [-getElem?_pos, -getElem?_neg]
  all_goals intro c1
  all_goals try (cases c1; done)
  all_goals try simp only [Bool.not_eq_true', Bool.not_eq_false', decide_eq_true_eq, decide_eq_false_iff_not] at c1
  all_goals apply zz
  apply zz
  refine Cd.ra (h := ?_)
  apply Run.by_eq
  · intro self
    conv => lhs; simp -implicitDefEqProofs (maxSteps := 300000) (disch := omega) [-getElem?_pos, -getElem?_neg, h1, hg0]
  try (with_reducible refine Run.ret ?_)
  apply zz
  refine Run.call ((parts_ev k v _).mono fun r w1 hv => ?_)
  obtain ⟨hk1, bp, rfl, hbp1, hbp2, hgp⟩ := hv
  have k1a := hk1.1
  have k1b := hk1.2
  apply Run.by_eq
  · intro self
    conv => lhs; simp -implicitDefEqProofs (maxSteps := 300000) (disch := omega) [-getElem?_pos, -getElem?_neg]
  try (with_reducible refine Run.ret ?_)
  apply zz
  refine Cd.range (gi := 59) (first := #[]) (captured := #[.pointer (some ⟨bp, 0, none⟩)]) rfl (by simp) ?_
  generalize hR : ALoop.mk true none _ _ _ _ _ = R0
  show Ev TT 59 [.func (.yield (w1.next + 1)) #[] #[], .pointer (some ⟨bp, 0, none⟩)] _ _
  refine (iter_ev k v (.func (.yield (w1.next + 1)) #[] #[]) fs bp _ (fun i => i = wq.next ∨ i = w1.next + 1)
    (fun j s2 => s2.heap.get (w1.next + 1) = some (.loop R0) ∧ s2.heap.get wq.next = some (.cells ((partL rt k j).map (Value.int .i64)) none) ∧ s2.heap.get (wq.next + 1) = some (.cells [.slice (some ⟨wq.next, 0, none⟩) k k] none) ∧ s2.heap.get w1.next = some (.deferred true) ∧ w1.next + 1 < s2.next)
    hn8 (hf.keep ⟨by (try simp only [pushed_next', upded_next']); omega, fun i hi => by simp -implicitDefEqProofs (disch := omega) [k1b, hkpb]⟩) hl ?_ ?_ ?_ ?_ ?_ ?_ ?_ ?_).mono fun _ s2 hres => ?_
  · simp only [pushed_next']; omega
  · simp -implicitDefEqProofs (disch := omega) [hgp]
  · rintro i (rfl | rfl) <;> simp only [pushed_next'] <;> omega
  · rintro (h | h) <;> omega
  · refine ⟨?_, ?_, ?_, ?_, ?_⟩
    · simp -implicitDefEqProofs (disch := omega)
    · simp -implicitDefEqProofs (disch := omega) [k1b, hgo1]
    · simp -implicitDefEqProofs (disch := omega) [k1b, hg5]
    · simp -implicitDefEqProofs (disch := omega)
    · simp
  · rintro j s1 s2 ⟨j1, j2, j3, j4, j5⟩ h1 h2
    simp only [pushed_next'] at h2
    exact ⟨by rw [h2 _ (by omega)]; exact j1, by rw [h2 _ (by omega)]; exact j2, by rw [h2 _ (by omega)]; exact j3, by rw [h2 _ (by omega)]; exact j4, by omega⟩
  · rintro j s1 hj hL ⟨j1, j2, j3, j4, j5⟩
    rw [hrt] at hL
    exact ⟨j1, by rw [partL_skip hL]; exact j2, j3, j4, j5⟩
  · rintro j s1 w hj hL ⟨j1, j2, j3, j4, j5⟩ hs1 hw ⟨bw, hbw, rfl⟩
    rw [hrt] at hL hw ⊢
    simp only [pushed_next'] at hs1 hbw
    show Evn TT (fun self => exRound self (w1.next + 1) _ s1) _
    subst hR
    refine Evn.round j1 rfl ?_
    show Cd TT true _ _ ((((Fr.mk _ []).put (some 30) _).put (some 31) _)) _ _
    dsimp only
    have hbl : w1.next + 1 ≠ wq.next := by omega
    have hbb : w1.next + 1 ≠ wq.next + 1 := by omega
    apply zz
    refine Cd.ra (h := ?_)
    apply Run.by_eq
    · intro self
      conv => lhs; simp -implicitDefEqProofs (maxSteps := 300000) (disch := omega) [-getElem?_pos, -getElem?_neg, Fr.get_mk]
    try (with_reducible refine Run.ret ?_)
    apply zz
    refine Cd.ra (h := ?_)
    apply Run.by_eq
    · intro self
      conv => lhs; simp -implicitDefEqProofs (maxSteps := 300000) (disch := omega) [-getElem?_pos, -getElem?_neg, Fr.get_mk]
    try (with_reducible refine Run.ret ?_)
    apply zz
    refine ⟨rfl, _, j1, rfl, rfl, ?_⟩
    dsimp only
    apply zz
    refine Cd.ra (h := ?_)
    apply Run.by_eq
    · intro self
      conv => lhs; simp -implicitDefEqProofs (maxSteps := 300000) (disch := omega) [-getElem?_pos, -getElem?_neg, Fr.get_mk]
    try (with_reducible refine Run.ret ?_)
    apply zz
    generalize hLf : ALoop.mk false none _ _ _ _ _ = Lf
    refine Cd.inv (fun z2 f2 s3 => ∃ i : Nat, i ≤ (clsN rt j k).length ∧ z2 = (clsN rt j k).length - i ∧ f2.get 34 = .int .i64 i ∧ f2.get 33 = .int .i64 (clsN rt j k).length ∧ f2.get 32 = .slice (some ⟨bw, 0, none⟩) (clsN rt j k).length (clsN rt j k).length ∧ f2.get 7 = .int .i64 (leads rt k j).length ∧ f2.get 5 = .pointer (some ⟨wq.next + 1, 0, none⟩) ∧ s1.next = s3.next ∧ (∀ x, x < s1.next → ¬ (x = wq.next ∨ x = w1.next + 1) → s3.heap.get x = s1.heap.get x) ∧ s3.heap.get (w1.next + 1) = some (.loop Lf) ∧ s3.heap.get wq.next = some (.cells ((List.range k).map fun x : Nat => Value.int .i64 (if (x : Int) ∈ (clsN rt j k).take i then ((leads rt k j).length : Int) else partAt rt k j x)) none)) (clsN rt j k).length ?_ ?_
    · refine ⟨0, by omega, rfl, by simp, by simp, by simp, by simp [Fr.get_mk], by simp [Fr.get_mk, h5], by simp, fun x hx hX => ?_, ?_, ?_⟩
      · rw [get_upded_other _ _ _ _ (fun e => hX (.inr e))]
      · rw [get_upded_same]
      · rw [get_upded_other _ _ _ _ (by omega), j2]
        simp [partL, List.map_map, Function.comp_def]
    rintro z2 f2 s3 ⟨i, hi, rfl, g34, g33, g32, g7, g5, hnx3, hold3, hlp3, hbo3⟩
    have hsl := hold3 (wq.next + 1) (by omega) (by omega)
    have hcll := clsN_length rt j k
    rw [j3] at hsl
    by_cases hic : i < (clsN rt j k).length
    · obtain ⟨y, hy⟩ : ∃ y, (clsN rt j k)[i]? = some y := ⟨(clsN rt j k)[i], by simp [hic]⟩
      obtain ⟨x, hx, rfl⟩ : ∃ x : Nat, x < k ∧ (x : Int) = y := by
        have := List.mem_of_getElem? hy
        unfold clsN at this
        obtain ⟨x, hx, e⟩ := List.mem_map.1 this
        exact ⟨x, by simpa using (List.mem_filter.1 hx).1, e⟩
      obtain ⟨b, off, o, cs, gg, e1, hb, ho, hc, ht⟩ := IntsAt.at hw hy
      cases e1
      rw [← hold3 bw hb (by omega)] at ho
      have hput := putL_set (Value.int .i64 ((leads rt k j).length : Int)) x ((List.range k).map fun x : Nat => Value.int .i64 (if (x : Int) ∈ (clsN rt j k).take i then ((leads rt k j).length : Int) else partAt rt k j x)) (by simpa using hx)
      have htk : (clsN rt j k).take (i + 1) = (clsN rt j k).take i ++ [(x : Int)] := by rw [List.take_add_one, hy]; rfl
      rw [range_set (h := fun z : Nat => if (z : Int) ∈ (clsN rt j k).take (i + 1) then ((leads rt k j).length : Int) else partAt rt k j z) hx (fun z _ hz => by
        have : ¬ (z : Int) = (x : Int) := by omega
        rw [htk]; simp [this]) (by rw [htk]; simp)] at hput
      rw [Nat.zero_add] at ht
      apply zz
      refine Cd.ra (h := ?_)
      apply Run.by_eq
      · intro self
        conv => lhs; simp -implicitDefEqProofs (maxSteps := 300000) (disch := omega) [-getElem?_pos, -getElem?_neg, g34, g33]
      try (with_reducible refine Run.ret ?_)
      apply zz
      apply Cd.ite rfl
      · conv => lhs; simp -implicitDefEqProofs (maxSteps := 300000) (disch := omega) [-getElem?_pos, -getElem?_neg]
      all_goals intro e0
      all_goals try (cases e0; done)
      all_goals try simp only [Bool.not_eq_true', Bool.not_eq_false', decide_eq_true_eq, decide_eq_false_iff_not] at e0
      all_goals apply zz
      · apply zz
        refine Cd.ra (h := ?_)
        apply Run.by_eq
        · intro self
          conv => lhs; simp -implicitDefEqProofs (maxSteps := 300000) (disch := omega) [-getElem?_pos, -getElem?_neg, g34, g32, ho, hc, ht, hic]
        try (with_reducible refine Run.ret ?_)
        apply zz
        refine Cd.ra (h := ?_)
        apply Run.by_eq
        · intro self
          conv => lhs; simp -implicitDefEqProofs (maxSteps := 300000) (disch := omega) [-getElem?_pos, -getElem?_neg, g5, g7, hsl, hbo3, hx, hput]
        try (with_reducible refine Run.ret ?_)
        apply zz
        refine Cd.ra (h := ?_)
        apply Run.by_eq
        · intro self
          conv => lhs; simp -implicitDefEqProofs (maxSteps := 300000) (disch := omega) [-getElem?_pos, -getElem?_neg, g34]
        try (with_reducible refine Run.ret ?_)
        apply zz
        refine LoopK.nm ((clsN rt j k).length - (i + 1)) (by omega) ⟨i + 1, by omega, rfl, by simp, by simp [g33], by simp [g32], by simp [g7], by simp [g5], by (try simp only [upded_next']); omega, fun z hz hX => ?_, ?_, ?_⟩
        · rw [get_upded_other _ _ _ _ (fun e => hX (.inl e))]; exact hold3 z hz hX
        · rw [get_upded_other _ _ _ _ (by omega)]; exact hlp3
        · rw [get_upded_same]
      · simp at e0; omega
    · obtain rfl : i = (clsN rt j k).length := by omega
      rw [List.take_length] at hbo3
      have hpl := partL_lead hj hL
      have hbo4 : s3.heap.get wq.next = some (.cells ((partL rt k (j + 1)).map (Value.int .i64)) none) := by
        rw [hbo3, ← hpl, List.map_map]; rfl
      apply zz
      refine Cd.ra (h := ?_)
      apply Run.by_eq
      · intro self
        conv => lhs; simp -implicitDefEqProofs (maxSteps := 300000) (disch := omega) [-getElem?_pos, -getElem?_neg, g34, g33]
      try (with_reducible refine Run.ret ?_)
      apply zz
      apply Cd.ite rfl
      · conv => lhs; simp -implicitDefEqProofs (maxSteps := 300000) (disch := omega) [-getElem?_pos, -getElem?_neg]
      all_goals intro e0
      all_goals try (cases e0; done)
      all_goals try simp only [Bool.not_eq_true', Bool.not_eq_false', decide_eq_true_eq, decide_eq_false_iff_not] at e0
      all_goals apply zz
      refine ⟨rfl, Lf, hlp3, rfl, ⟨?_, ?_, ?_, ?_, ?_⟩, ?_, fun z hz hX => ?_⟩
      · rw [get_upded_same]; subst hLf; rfl
      · rw [get_upded_other _ _ _ _ (by omega)]; exact hbo4
      · rw [get_upded_other _ _ _ _ (by omega)]; exact hsl
      · rw [get_upded_other _ _ _ _ (by omega), hold3 w1.next (by omega) (by omega)]; exact j4
      · simp only [upded_next']; omega
      · simp only [upded_next']; omega
      · exact (get_upded_other _ _ _ _ (fun e => hX (.inr e))).trans (hold3 z hz hX)
  · obtain ⟨⟨j1, j2, j3, j4, j5⟩, r2, r3⟩ := hres
    simp only [pushed_next'] at r2 r3
    refine ⟨R0, j1, by rw [← hR], by rw [← hR], ?_⟩
    apply zz
    refine Cd.ra (h := ?_)
    apply Run.by_eq
    · intro self
      conv => lhs; simp -implicitDefEqProofs (maxSteps := 300000) (disch := omega) [-getElem?_pos, -getElem?_neg, Fr.get_mk, h5, j3]
    try (with_reducible refine Run.ret ?_)
    apply zz
    apply Leave.one (m := w1.next) (by first | exact .inl rfl | exact .inr rfl) (by simp only [Fr.marks_put, hm])
    · simp -implicitDefEqProofs (disch := omega) [j4]
    · conv => lhs; simp -implicitDefEqProofs (disch := omega) [Try.results14]
    have hold : ∀ i, i < s.next → s2.heap.get i = s.heap.get i := fun i hi => by
      rw [r3 i (by omega) (by omega)]
      simp -implicitDefEqProofs (disch := omega) [k1b, hkpb]
    refine ⟨⟨by (try simp only [upded_next']); omega, fun i hi => by simp -implicitDefEqProofs (disch := omega) [hold]⟩, .slice (some ⟨wq.next, 0, none⟩) k k, by rw [hck]; rfl, ?_⟩
    have he : partsErrL k fs = partL rt k k := by unfold partsErrL; rw [if_pos hck, hrt]; rfl
    rw [he]
    have := ints_of_cells (s := (s2.upded (w1.next + 1) .dead).upded w1.next .dead) (b := wq.next) (c := k) (xs := partL rt k k) (g := none) (by (try simp only [upded_next']); omega) (by simp -implicitDefEqProofs (disch := omega) [j2])
    rw [show (partL rt k k).length = k by simp [partL]] at this
    exact this
end Go.Proofs.Ytjehpgflhgpalaa
namespace Go.Proofs.Ytjehpgflhgpalaa
open Go Kern
theorem takeL_append {α : Type} : ∀ (a b : List α), takeL a.length (a ++ b) = some a
  | [], b => rfl
  | x :: a, b => by show ob (takeL a.length (a ++ b)) (fun r => some (x :: r)) = _; rw [takeL_append a b]; rfl
theorem drop_flat {α : Type} {n : Nat} : ∀ {l : List (List α)} {i : Nat} {e : List α}, (∀ x ∈ l, x.length = n) → l[i]? = some e → takeL n (l.flatten.drop (i * n)) = some e
  | [], i, e, _, h => by simp at h
  | x :: r, 0, e, hl, h => by
    simp at h; subst h
    rw [Nat.zero_mul, List.drop_zero, List.flatten_cons, ← hl x (.head _)]
    exact takeL_append _ _
  | x :: r, i + 1, e, hl, h => by
    have hx := hl x (.head _)
    rw [List.flatten_cons, show (i + 1) * n = x.length + i * n by rw [Nat.add_mul, hx]; omega, ← List.drop_drop, List.drop_left]
    exact drop_flat (fun y hy => hl y (.tail _ hy)) (by simpa using h)
theorem sl_of_cells {n : Nat} {s : St} {b c : Nat} {l : List (List Value)} {g : Option Nat} (h2 : b < s.next) (hl : ∀ x ∈ l, x.length = n) (h3 : s.heap.get b = some (.cells l.flatten g)) : SlAt n s (.slice (some ⟨b, 0, none⟩) l.length c) l :=
  SlAt.mk h2 h3 rfl fun i e he => by rw [Nat.zero_add]; exact drop_flat hl he
def flatF (fs : List FlowD) : List Value := (fs.map FlowD.cs).flatten
def OwnF (N : Nat) (s : St) (w : Value) (fs : List FlowD) : Prop :=
  (fs = [] ∧ w = .slice none 0 0) ∨ ∃ b, w = .slice (some ⟨b, 0, none⟩) fs.length fs.length ∧ fs ≠ [] ∧ N ≤ b ∧ b < s.next ∧ s.heap.get b = some (.cells (flatF fs) (some 7))
theorem OwnF.flows {N : Nat} {s : St} {w : Value} {fs : List FlowD} (h : OwnF N s w fs) : FlAt s w fs := by
  rcases h with ⟨rfl, rfl⟩ | ⟨b, rfl, hne, h1, h2, h3⟩
  · exact .nil 0
  · have := sl_of_cells (n := 7) (c := fs.length) (l := fs.map FlowD.cs) h2 (fun x hx => by obtain ⟨f, _, rfl⟩ := List.mem_map.1 hx; rfl) h3
    rw [List.length_map] at this; exact this
end Go.Proofs.Ytjehpgflhgpalaa
namespace Go.Proofs.Ytjehpgflhgpalaa
open Go Kern
theorem takeL_at {α : Type} : ∀ {n : Nat} {l r : List α} {i : Nat}, takeL n l = some r → i < n → l[i]? = r[i]?
  | 0, _, _, _, _, h => by omega
  | n + 1, [], r, _, h, _ => by cases h
  | n + 1, x :: l, r, i, h, hi => by
    obtain ⟨t, h1, h2⟩ := ob_eq (show ob (takeL n l) (fun t => some (x :: t)) = some r from h)
    cases h2
    cases i with
    | zero => rfl
    | succ i => simpa using takeL_at h1 (by omega)
section
variable {T : Tab} {self : Self} {f : Fr} {s : St} {ρ : Env} {H : Tree AObj}
@[simp] theorem act_max2 (x y : Operand) (tys : Array TypeId) : actO T self (.call ⟨.builtin .max, #[x, y], tys⟩) f s = pureR (vExt true x [y] f.eval s.heap) s := rfl
@[simp] theorem act_min2 (x y : Operand) (tys : Array TypeId) : actO T self (.call ⟨.builtin .min, #[x, y], tys⟩) f s = pureR (vExt false x [y] f.eval s.heap) s := rfl
@[simp] theorem vExt_one (mx : Bool) (x y : Operand) : vExt mx x [y] ρ H = ext2 mx (ρ x) (ρ y) := by
  show ob (ext2 mx (ρ x) (ρ y)) some = _
  cases ext2 mx (ρ x) (ρ y) <;> rfl
@[simp] theorem ext2_max (k : IntKind) (a b : Int) : ext2 true (.int k a) (.int k b) = some (.int k (max a b)) := by
  show some (Value.int k (bt (bt true (intLt a b) (intLt b a)) b a)) = _
  rw [intLt_eq, bt_true]
  by_cases h : a < b
  · rw [decide_eq_true h, bt_true, show max a b = b by omega]
  · rw [decide_eq_false h, bt_false, show max a b = a by omega]
@[simp] theorem ext2_min (k : IntKind) (a b : Int) : ext2 false (.int k a) (.int k b) = some (.int k (min a b)) := by
  show some (Value.int k (bt (bt false (intLt a b) (intLt b a)) b a)) = _
  rw [intLt_eq b a, bt_false]
  by_cases h : b < a
  · rw [decide_eq_true h, bt_true, show min a b = b by omega]
  · rw [decide_eq_false h, bt_false, show min a b = a by omega]
end
def relab (h : Nat → Int) (a b : Int) : Nat → Int := fun x => if h x = max a b then min a b else h x
def labStep (lo : Int) (h : Nat → Int) (i : Nat) (f : FlowD) : Nat → Int :=
  if f.me = true ∨ (i : Int) = lo then h else relab h (h (f.fr + 1).toNat) (h (f.to + 1).toNat)
def labF (lo : Int) : List FlowD → Nat → (Nat → Int) → (Nat → Int)
  | [], _, h => h
  | f :: r, i, h => labF lo r (i + 1) (labStep lo h i f)
def cellsF (m : Nat) (h : Nat → Int) : List Value := (List.range m).map fun x : Nat => Value.int .i64 (h x)
end Go.Proofs.Ytjehpgflhgpalaa
namespace Go.Proofs.Ytjehpgflhgpalaa
open Go Kern
def Same (n : Nat) (rt : Int → Int) (h : Nat → Int) : Prop :=
  (∀ i, i ≤ n → 0 ≤ h i ∧ h i ≤ i ∧ h (h i).toNat = h i) ∧ ∀ i j, i ≤ n → j ≤ n → (h i = h j ↔ rt ((i : Int) - 1) = rt ((j : Int) - 1))
theorem Same.init (n : Nat) : Same n id fun x => x :=
  ⟨fun i hi => ⟨by dsimp only; omega, by dsimp only; omega, by dsimp only; omega⟩, fun i j _ _ => by simp only [id]; omega⟩
theorem Same.step {n : Nat} {rt : Int → Int} {h : Nat → Int} (hs : Same n rt h) {x y : Int} (hx : -1 ≤ x ∧ x < n) (hy : -1 ≤ y ∧ y < n) : Same n (uni rt x y) (relab h (h (x + 1).toNat) (h (y + 1).toNat)) := by
  obtain ⟨h1, h2⟩ := hs
  have px : (x + 1).toNat ≤ n := by omega
  have py : (y + 1).toNat ≤ n := by omega
  have ex : (((x + 1).toNat : Nat) : Int) - 1 = x := by omega
  have ey : (((y + 1).toNat : Nat) : Int) - 1 = y := by omega
  have hab := h2 _ _ px py
  rw [ex, ey] at hab
  have ha := h1 _ px
  have hb := h1 _ py
  have ca : ∀ i, i ≤ n → (h i = h (x + 1).toNat ↔ rt ((i : Int) - 1) = rt x) := fun i hi => by have := h2 i _ hi px; rw [ex] at this; exact this
  have cb : ∀ i, i ≤ n → (h i = h (y + 1).toNat ↔ rt ((i : Int) - 1) = rt y) := fun i hi => by have := h2 i _ hi py; rw [ey] at this; exact this
  generalize h (x + 1).toNat = A at *
  generalize h (y + 1).toNat = B at *
  unfold uni relab
  by_cases hr : rt x = rt y
  · have hAB : A = B := hab.2 hr
    subst hAB
    rw [if_pos hr]
    have hid : (fun z => if h z = max A A then min A A else h z) = h := by funext z; by_cases e : h z = A <;> simp [e]
    rw [hid]
    exact ⟨h1, h2⟩
  · have hAB : A ≠ B := fun e => hr (hab.1 e)
    rw [if_neg hr]
    refine ⟨fun i hi => ?_, fun i j hi hj => ?_⟩
    · obtain ⟨b1, b2, b3⟩ := h1 i hi
      by_cases e : h i = max A B
      · simp only [e, if_true]
        refine ⟨by omega, by omega, ?_⟩
        have hm : h (min A B).toNat = min A B := by
          by_cases q : A ≤ B
          · rw [show min A B = A by omega]; exact ha.2.2
          · rw [show min A B = B by omega]; exact hb.2.2
        rw [hm, if_neg (by omega)]
      · simp only [e, if_false]
        exact ⟨b1, b2, by rw [b3, if_neg e]⟩
    · have hij := h2 i j hi hj
      have ci := ca i hi
      have cj := ca j hj
      have di := cb i hi
      have dj := cb j hj
      have hry : rt y ≠ rt x := fun e => hr e.symm
      by_cases i1 : rt ((i : Int) - 1) = rt x
      · have hi1 := ci.2 i1
        by_cases j1 : rt ((j : Int) - 1) = rt x
        · have hj1 := cj.2 j1
          simp [i1, j1, hi1, hj1]
        · have hj1 : h j ≠ A := fun e => j1 (cj.1 e)
          by_cases j2 : rt ((j : Int) - 1) = rt y
          · have hj2 := dj.2 j2
            simp only [i1, if_true, j2, hry, if_false, hi1, hj2, iff_true]
            by_cases q : A ≤ B
            · rw [if_neg (by omega), if_pos (by omega)]; omega
            · rw [if_pos (by omega), if_neg (by omega)]; omega
          · have hj2 : h j ≠ B := fun e => j2 (dj.1 e)
            simp only [i1, if_true, j1, if_false, hi1]
            rw [if_neg (show ¬ h j = max A B by omega)]
            constructor
            · intro e; split at e <;> omega
            · intro e; exact absurd e.symm j2
      · have hi1 : h i ≠ A := fun e => i1 (ci.1 e)
        by_cases i2 : rt ((i : Int) - 1) = rt y
        · have hi2 := di.2 i2
          by_cases j1 : rt ((j : Int) - 1) = rt x
          · have hj1 := cj.2 j1
            simp only [i2, hry, if_false, j1, if_true, hi2, hj1, iff_true]
            by_cases q : A ≤ B
            · rw [if_pos (by omega), if_neg (by omega)]; omega
            · rw [if_neg (by omega), if_pos (by omega)]; omega
          · have hj1 : h j ≠ A := fun e => j1 (cj.1 e)
            by_cases j2 : rt ((j : Int) - 1) = rt y
            · have hj2 := dj.2 j2
              simp [i2, j2, hi2, hj2]
            · have hj2 : h j ≠ B := fun e => j2 (dj.1 e)
              simp only [i2, hry, if_false, j1, hi2]
              rw [if_neg (show ¬ h j = max A B by omega)]
              constructor
              · intro e; split at e <;> omega
              · intro e; exact absurd e.symm j2
        · have hi2 : h i ≠ B := fun e => i2 (di.1 e)
          simp only [i1, if_false]
          rw [if_neg (show ¬ h i = max A B by omega)]
          by_cases j1 : rt ((j : Int) - 1) = rt x
          · have hj1 := cj.2 j1
            simp only [j1, if_true, hj1]
            constructor
            · intro e; split at e <;> omega
            · intro e; exact absurd e i2
          · have hj1 : h j ≠ A := fun e => j1 (cj.1 e)
            simp only [j1, if_false]
            by_cases j2 : rt ((j : Int) - 1) = rt y
            · have hj2 := dj.2 j2
              rw [hj2]
              constructor
              · intro e; split at e <;> omega
              · intro e; exact absurd (e.trans j2) i2
            · have hj2 : h j ≠ B := fun e => j2 (dj.1 e)
              rw [if_neg (show ¬ h j = max A B by omega)]
              exact hij
theorem Same.flows {n : Nat} {lo : Int} : ∀ {fs : List FlowD} {i : Nat} {rt : Int → Int} {h : Nat → Int}, Same n rt h → (∀ f ∈ fs, (-1 ≤ f.fr ∧ f.fr < n) ∧ (-1 ≤ f.to ∧ f.to < n)) → Same n (rtF lo fs i rt) (labF lo fs i h)
  | [], _, _, _, hs, _ => hs
  | f :: r, i, rt, h, hs, hf => by
    have h0 := hf f (.head _)
    show Same n (rtF lo r (i + 1) _) (labF lo r (i + 1) _)
    refine Same.flows ?_ fun g hg => hf g (.tail _ hg)
    unfold labStep
    by_cases hm : f.me = false ∧ (i : Int) ≠ lo
    · rw [if_pos hm, if_neg (by rw [hm.1]; simp; exact hm.2)]
      exact hs.step h0.1 h0.2
    · rw [if_neg hm, if_pos (by cases hme : f.me <;> simp_all)]
      exact hs
def refO (L : Nat → Int) : Nat → List Int × Int
  | 0 => ([], 0)
  | x + 1 => if L (x + 1) = 0 then ((refO L x).1 ++ [-1], (refO L x).2) else if L (x + 1) = (x : Int) + 1 then ((refO L x).1 ++ [(refO L x).2], (refO L x).2 + 1) else ((refO L x).1 ++ [(refO L x).1.getD (L (x + 1) - 1).toNat 0], (refO L x).2)
theorem isLead_of {rt : Int → Int} {n k : Nat} (hk : k < n) (h : ∀ l : Nat, l < k → rt l ≠ rt k) (ho : rt k ≠ rt (-1)) : isLead rt n k = true := by
  unfold isLead
  rw [Bool.and_eq_true, decide_eq_true_eq]
  refine ⟨?_, by simpa using ho⟩
  unfold clsN
  have hsplit : List.range n = List.range k ++ k :: (List.range n).drop (k + 1) := by
    have h1 : (List.range n).drop k = k :: (List.range n).drop (k + 1) := by
      rw [List.drop_eq_getElem_cons (by simpa using hk)]
      simp
    rw [← h1]
    have h2 : List.range k = (List.range n).take k := by rw [List.take_range, show min k n = k by omega]
    rw [h2, List.take_append_drop]
  rw [hsplit, List.filter_append]
  have : (List.range k).filter (fun x : Nat => decide (rt x = rt k)) = [] := by
    rw [List.filter_eq_nil_iff]
    intro l hl
    simpa using h l (by simpa using hl)
  rw [this]
  simp
end Go.Proofs.Ytjehpgflhgpalaa
namespace Go.Proofs.Ytjehpgflhgpalaa
open Go Kern
set_option maxRecDepth 100000 in
set_option maxHeartbeats 4000000 in
theorem iterJ_ev (n : Nat) (v yv : Value) (fs : List FlowD) (bp : Nat) (s : St) (X : Nat → Prop) (J : Nat → St → Prop) (B : Nat → St → Prop) (hn : n ≤ 8) (hf : FlAt s v fs) (hl : fs.length ≤ 1000000)
    (hbp : bp < s.next) (hgp : s.heap.get bp = some (.cells [.int .i64 n, v] none)) (hX : ∀ i, X i → i < s.next) (hXp : ¬ X bp) (hJ0 : J 0 s)
    (hJs : ∀ k s1 s2, J k s1 → s1.next ≤ s2.next → (∀ i, i < s.next → s2.heap.get i = s1.heap.get i) → J k s2)
    (hskip : ∀ k s1, k < n → isLead (rtF (-1) fs 0 id) n k = false → J k s1 → J (k + 1) s1)
    (hyield : ∀ k s1 w, k < n → isLead (rtF (-1) fs 0 id) n k = true → J k s1 → s.next ≤ s1.next → IntsAt s1 w (clsN (rtF (-1) fs 0 id) k n) → (∃ bw, s.next ≤ bw ∧ w = .slice (some ⟨bw, 0, none⟩) (clsN (rtF (-1) fs 0 id) k n).length (clsN (rtF (-1) fs 0 id) k n).length) →
      Evn TT (fun self => callV self yv [.int .i64 (leads (rtF (-1) fs 0 id) n k).length, w] s1) fun p => ((p.1 = .bool true ∧ J (k + 1) p.2) ∨ (p.1 = .bool false ∧ B k p.2)) ∧ s1.next ≤ p.2.next ∧ ∀ i, i < s1.next → ¬ X i → p.2.heap.get i = s1.heap.get i) :
    Ev TT 59 [yv, .pointer (some ⟨bp, 0, none⟩)] s fun _ s' => (J n s' ∨ ∃ k, k < n ∧ isLead (rtF (-1) fs 0 id) n k = true ∧ B k s') ∧ s.next ≤ s'.next ∧ ∀ i, i < s.next → ¬ X i → s'.heap.get i = s.heap.get i := by
  refine Ev.intro (fn := Try.f59) rfl (by kernel_rfl) rfl rfl ?_
  apply zz
  refine Cd.ra (h := ?_)
  apply Run.by_eq
  · intro self
    conv => lhs; simp -implicitDefEqProofs (maxSteps := 300000) (disch := omega) [-getElem?_pos, -getElem?_neg, hgp]
  try (with_reducible refine Run.ret ?_)
  apply zz
  refine Run.call ((joins_ev n (-1) v fs _ hf hl).mono fun r w1 hv => ?_)
  obtain ⟨hk1, b, es, rfl, hbs, hH, hF⟩ := hv
  generalize rtF (-1) fs 0 id = rt at *
  have k1a := hk1.1
  have k1b := hk1.2
  have hHl := hH.1
  apply Run.by_eq
  · intro self
    conv => lhs; simp -implicitDefEqProofs (maxSteps := 300000) (disch := omega) [-getElem?_pos, -getElem?_neg]
  try (with_reducible refine Run.ret ?_)
  apply zz
  refine Cd.ra (h := ?_)
  apply Run.by_eq
  · intro self
    conv => lhs; simp -implicitDefEqProofs (maxSteps := 300000) (disch := omega) [-getElem?_pos, -getElem?_neg]
  try (with_reducible refine Run.ret ?_)
  apply zz
  refine Cd.ra (h := ?_)
  apply Run.by_eq
  · intro self
    conv => lhs; simp -implicitDefEqProofs (maxSteps := 300000) (disch := omega) [-getElem?_pos, -getElem?_neg, k1b, hgp]
  try (with_reducible refine Run.ret ?_)
  apply zz
  refine Cd.inv (fun z f s' => ∃ k : Nat, k ≤ n ∧ z = n - k ∧ f.marks = [] ∧ f.get 12 = .int .i64 k ∧ f.get 11 = .int .i64 n ∧ f.get 0 = yv ∧ f.get 1 = .pointer (some ⟨bp, 0, none⟩) ∧ f.get 3 = .pointer (some ⟨w1.next, 0, none⟩) ∧ f.get 4 = .int .i64 (leads rt n k).length ∧ w1.next < s'.next ∧ (∀ i, i < s.next → ¬ X i → s'.heap.get i = s.heap.get i) ∧ s'.heap.get w1.next = some (.cells [.map (some b)] none) ∧ HeadsAt s' b es ∧ J k s') n ?_ ?_
  · refine ⟨0, by omega, rfl, by simp, by simp, by simp, by simp, by simp, by simp, by simp [leads], by simp, fun i hi hx => ?_, by simp, ⟨by (try simp only [pushed_next', upded_next']); omega, ?_⟩, hJs 0 s _ hJ0 (by (try simp only [pushed_next', upded_next']); omega) fun i hi => ?_⟩
    · simp -implicitDefEqProofs (disch := omega) [k1b]
    · simp -implicitDefEqProofs (disch := omega) [hH.2]
    · simp -implicitDefEqProofs (disch := omega) [k1b]
  rintro z f s' ⟨k, hk, rfl, hm, h12, h11, h0, h1, h3, h4, hnx, hold, hgh, hHA, hJ⟩
  have hgp' : s'.heap.get bp = some (.cells [.int .i64 n, v] none) := (hold bp hbp hXp).trans hgp
  by_cases hlt : k < n
  · apply zz
    refine Cd.ra (h := ?_)
    apply Run.by_eq
    · intro self
      conv => lhs; simp -implicitDefEqProofs (maxSteps := 300000) (disch := omega) [-getElem?_pos, -getElem?_neg, h12, h11]
    try (with_reducible refine Run.ret ?_)
    apply zz
    apply Cd.ite rfl
    · conv => lhs; simp -implicitDefEqProofs (maxSteps := 300000) (disch := omega) [-getElem?_pos, -getElem?_neg]
    all_goals intro c0
    all_goals try (cases c0; done)
    all_goals try simp only [Bool.not_eq_true', Bool.not_eq_false', decide_eq_true_eq, decide_eq_false_iff_not] at c0
    all_goals apply zz
    · apply zz
      refine Cd.ra (h := ?_)
      apply Run.by_eq
      · intro self
        conv => lhs; simp -implicitDefEqProofs (maxSteps := 300000) (disch := omega) [-getElem?_pos, -getElem?_neg, h12]
      try (with_reducible refine Run.ret ?_)
      apply zz
      refine Cd.ra (h := ?_)
      apply Run.by_eq
      · intro self
        conv => lhs; simp -implicitDefEqProofs (maxSteps := 300000) (disch := omega) [-getElem?_pos, -getElem?_neg]
      try (with_reducible refine Run.ret ?_)
      apply zz
      refine Cd.ra (h := ?_)
      apply Run.by_eq
      · intro self
        conv => lhs; simp -implicitDefEqProofs (maxSteps := 300000) (disch := omega) [-getElem?_pos, -getElem?_neg, h1, hgp']
      try (with_reducible refine Run.ret ?_)
      apply zz
      refine Cd.inv (fun z2 f2 s2 => ∃ j : Nat, j ≤ n ∧ z2 = n - j ∧ f2.marks = [] ∧ f2.get 17 = .int .i64 j ∧ f2.get 16 = .int .i64 n ∧ f2.get 12 = .int .i64 k ∧ f2.get 11 = .int .i64 n ∧ f2.get 0 = yv ∧ f2.get 1 = .pointer (some ⟨bp, 0, none⟩) ∧ f2.get 3 = .pointer (some ⟨w1.next, 0, none⟩) ∧ f2.get 4 = .int .i64 (leads rt n k).length ∧ f2.get 5 = .int .i64 k ∧ OwnU (w1.next + 1) s2 (f2.get 6) (clsN rt k j) ∧ w1.next < s2.next ∧ (∀ i, i < s.next → ¬ X i → s2.heap.get i = s.heap.get i) ∧ s2.heap.get w1.next = some (.cells [.map (some b)] none) ∧ HeadsAt s2 b es ∧ J k s2) n ?_ ?_
      · refine ⟨0, by omega, rfl, by simp [hm], by simp, by simp, by simp [h12], by simp [h11], by simp [h0], by simp [h1], by simp [h3], by simp [h4], by simp, .inl ⟨rfl, by simp⟩, hnx, hold, hgh, hHA, hJ⟩
      rintro z2 f2 s2 ⟨j, hj, rfl, gm, g17, g16, g12, g11, g0, g1, g3, g4, g5, hU, gnx, gold, ggh, gHA, gJ⟩
      have gHl := gHA.1
      by_cases hjn : j < n
      · apply zz
        refine Cd.ra (h := ?_)
        apply Run.by_eq
        · intro self
          conv => lhs; simp -implicitDefEqProofs (maxSteps := 300000) (disch := omega) [-getElem?_pos, -getElem?_neg, g17, g16]
        try (with_reducible refine Run.ret ?_)
        apply zz
        apply Cd.ite rfl
        · conv => lhs; simp -implicitDefEqProofs (maxSteps := 300000) (disch := omega) [-getElem?_pos, -getElem?_neg]
        all_goals intro d0
        all_goals try (cases d0; done)
        all_goals try simp only [Bool.not_eq_true', Bool.not_eq_false', decide_eq_true_eq, decide_eq_false_iff_not] at d0
        all_goals apply zz
        · apply zz
          refine Cd.ra (h := ?_)
          apply Run.by_eq
          · intro self
            conv => lhs; simp -implicitDefEqProofs (maxSteps := 300000) (disch := omega) [-getElem?_pos, -getElem?_neg, g17]
          try (with_reducible refine Run.ret ?_)
          apply zz
          refine Cd.ra (h := ?_)
          apply Run.by_eq
          · intro self
            conv => lhs; simp -implicitDefEqProofs (maxSteps := 300000) (disch := omega) [-getElem?_pos, -getElem?_neg, g3, ggh, g5]
          try (with_reducible refine Run.ret ?_)
          apply zz
          refine Run.call ((joined_ev b es rt j k _ gHA hF).mono fun v wq hv => ?_)
          obtain ⟨rfl, q⟩ := hv
          have qa := q.1
          have qb := q.2
          try simp only [pushed_next', upded_next'] at qa qb
          apply Run.by_eq
          · intro self
            conv => lhs; simp -implicitDefEqProofs (maxSteps := 300000) (disch := omega) [-getElem?_pos, -getElem?_neg]
          try (with_reducible refine Run.ret ?_)
          apply zz
          have hcn := clsN_succ rt k j
          by_cases hr : rt j = rt k
          · rw [if_pos hr] at hcn
            apply zz
            apply Cd.ite rfl
            · conv => lhs; simp -implicitDefEqProofs (maxSteps := 300000) (disch := omega) [-getElem?_pos, -getElem?_neg, hr]
            all_goals intro d1
            all_goals try (cases d1; done)
            all_goals try simp only [Bool.not_eq_true', Bool.not_eq_false', decide_eq_true_eq, decide_eq_false_iff_not] at d1
            all_goals apply zz
            rcases hU with ⟨hce, hw⟩ | ⟨bu, hw, hne, hb1, hb2, hb3⟩
            · apply zz
              refine Cd.ra (h := ?_)
              apply Run.by_eq
              · intro self
                conv => lhs; simp -implicitDefEqProofs (maxSteps := 300000) (disch := omega) [-getElem?_pos, -getElem?_neg, hw, appV_nil (size := 1) (g := none) (new := [.int .i64 (j : Int)]) (get_pushed_new _ _) rfl rfl]
              try (with_reducible refine Run.ret ?_)
              apply zz
              refine Cd.ra (h := ?_)
              apply Run.by_eq
              · intro self
                conv => lhs; simp -implicitDefEqProofs (maxSteps := 300000) (disch := omega) [-getElem?_pos, -getElem?_neg, g17]
              try (with_reducible refine Run.ret ?_)
              apply zz
              refine LoopK.nm (n - (j + 1)) (by omega) ⟨j + 1, by omega, rfl, by simp [gm], by simp, by simp [g16], by simp [g12], by simp [g11], by simp [g0], by simp [g1], by simp [g3], by simp [g4], by simp [g5], ?_, by (try simp only [pushed_next', upded_next']); omega, fun i hi hx => ?_, ?_, ⟨by (try simp only [pushed_next', upded_next']); omega, ?_⟩, hJs k s2 _ gJ (by (try simp only [pushed_next', upded_next']); omega) fun i hi => ?_⟩
              · rw [hcn, hce]
                exact .inr ⟨wq.next + 1, by simp, by simp, by omega, by simp, by simp⟩
              · rw [← gold i hi hx]; simp -implicitDefEqProofs (disch := omega) [qb]
              · simp -implicitDefEqProofs (disch := omega) [qb, ggh]
              · simp -implicitDefEqProofs (disch := omega) [qb, gHA.2]
              · simp -implicitDefEqProofs (disch := omega) [qb]
            · have hcl := clsN_length rt k j
              have hm1 : (wq.pushed (.cells [.int .i64 (j : Int)] none)).heap.get bu = some (.cells ((clsN rt k j).map (Value.int .i64)) (some 1)) := by simp -implicitDefEqProofs (disch := omega) [qb, hb3]
              have hap := appV_more (size := 1) (n := (clsN rt k j).length) (b2 := wq.next) hm1 (get_pushed_new _ _) rfl rfl (by simp) (by omega)
              apply zz
              refine Cd.ra (h := ?_)
              apply Run.by_eq
              · intro self
                conv => lhs; simp -implicitDefEqProofs (maxSteps := 300000) (disch := omega) [-getElem?_pos, -getElem?_neg, hw, hap]
              try (with_reducible refine Run.ret ?_)
              apply zz
              refine Cd.ra (h := ?_)
              apply Run.by_eq
              · intro self
                conv => lhs; simp -implicitDefEqProofs (maxSteps := 300000) (disch := omega) [-getElem?_pos, -getElem?_neg, g17]
              try (with_reducible refine Run.ret ?_)
              apply zz
              refine LoopK.nm (n - (j + 1)) (by omega) ⟨j + 1, by omega, rfl, by simp [gm], by simp, by simp [g16], by simp [g12], by simp [g11], by simp [g0], by simp [g1], by simp [g3], by simp [g4], by simp [g5], ?_, by (try simp only [pushed_next', upded_next']); omega, fun i hi hx => ?_, ?_, ⟨by (try simp only [pushed_next', upded_next']); omega, ?_⟩, hJs k s2 _ gJ (by (try simp only [pushed_next', upded_next']); omega) fun i hi => ?_⟩
              · rw [hcn]
                exact .inr ⟨wq.next + 1, by simp, by simp, by omega, by simp, by simp⟩
              · rw [← gold i hi hx]; simp -implicitDefEqProofs (disch := omega) [qb]
              · simp -implicitDefEqProofs (disch := omega) [qb, ggh]
              · simp -implicitDefEqProofs (disch := omega) [qb, gHA.2]
              · simp -implicitDefEqProofs (disch := omega) [qb]
          · rw [if_neg hr] at hcn
            apply zz
            apply Cd.ite rfl
            · conv => lhs; simp -implicitDefEqProofs (maxSteps := 300000) (disch := omega) [-getElem?_pos, -getElem?_neg, hr]
            all_goals intro d1
            all_goals try (cases d1; done)
            all_goals try simp only [Bool.not_eq_true', Bool.not_eq_false', decide_eq_true_eq, decide_eq_false_iff_not] at d1
            all_goals apply zz
            apply zz
            refine Cd.ra (h := ?_)
            apply Run.by_eq
            · intro self
              conv => lhs; simp -implicitDefEqProofs (maxSteps := 300000) (disch := omega) [-getElem?_pos, -getElem?_neg, g17]
            try (with_reducible refine Run.ret ?_)
            apply zz
            refine LoopK.nm (n - (j + 1)) (by omega) ⟨j + 1, by omega, rfl, by simp [gm], by simp, by simp [g16], by simp [g12], by simp [g11], by simp [g0], by simp [g1], by simp [g3], by simp [g4], by simp [g5], ?_, by (try simp only [pushed_next', upded_next']); omega, fun i hi hx => ?_, ?_, ⟨by (try simp only [pushed_next', upded_next']); omega, ?_⟩, hJs k s2 _ gJ (by (try simp only [pushed_next', upded_next']); omega) fun i hi => ?_⟩
            · rw [hcn]
              rcases hU with ⟨hce, hw⟩ | ⟨bu, hw, hne, hb1, hb2, hb3⟩
              · exact .inl ⟨hce, by simp [hw]⟩
              · exact .inr ⟨bu, by simp [hw], hne, hb1, by omega, by rw [qb _ hb2]; exact hb3⟩
            · rw [← gold i hi hx]; simp -implicitDefEqProofs (disch := omega) [qb]
            · simp -implicitDefEqProofs (disch := omega) [qb, ggh]
            · simp -implicitDefEqProofs (disch := omega) [qb, gHA.2]
            · simp -implicitDefEqProofs (disch := omega) [qb]
        · simp at d0; omega
      · obtain rfl : j = n := by omega
        apply zz
        refine Cd.ra (h := ?_)
        apply Run.by_eq
        · intro self
          conv => lhs; simp -implicitDefEqProofs (maxSteps := 300000) (disch := omega) [-getElem?_pos, -getElem?_neg, g17, g16]
        try (with_reducible refine Run.ret ?_)
        apply zz
        apply Cd.ite rfl
        · conv => lhs; simp -implicitDefEqProofs (maxSteps := 300000) (disch := omega) [-getElem?_pos, -getElem?_neg]
        all_goals intro d0
        all_goals try (cases d0; done)
        all_goals try simp only [Bool.not_eq_true', Bool.not_eq_false', decide_eq_true_eq, decide_eq_false_iff_not] at d0
        all_goals apply zz
        obtain ⟨hd, tl, hcl⟩ : ∃ hd tl, clsN rt k j = hd :: tl := by
          cases hc : clsN rt k j with
          | nil => exact absurd hc (cls_self rt hlt)
          | cons a l => exact ⟨a, l, rfl⟩
        have hints := hU.ints
        rcases hU with ⟨hce, hw⟩ | ⟨bu, hw, hne, hb1, hb2, hb3⟩
        · rw [hcl] at hce; cases hce
        rw [hcl] at hb3 hw
        simp only [List.map_cons, List.length_cons] at hb3 hw
        rw [hw] at hints
        have hskipEnd : isLead rt j k = false → ∀ (f3 : Fr) (s3 : St), f3.marks = [] → f3.get 12 = .int .i64 k → f3.get 11 = .int .i64 j → f3.get 0 = yv → f3.get 1 = .pointer (some ⟨bp, 0, none⟩) → f3.get 3 = .pointer (some ⟨w1.next, 0, none⟩) → f3.get 4 = .int .i64 (leads rt j k).length → Keep s2 s3 →
            ∃ k' : Nat, k' = k + 1 ∧ (leads rt j k').length = (leads rt j k).length ∧ w1.next < s3.next ∧ (∀ i, i < s.next → ¬ X i → s3.heap.get i = s.heap.get i) ∧ s3.heap.get w1.next = some (.cells [.map (some b)] none) ∧ HeadsAt s3 b es ∧ J k' s3 := fun hL f3 s3 _ _ _ _ _ _ _ hk3 => by
          refine ⟨k + 1, rfl, by rw [leads_succ, hL]; rfl, Nat.lt_of_lt_of_le gnx hk3.1, fun i hi hx => (hk3.2 i (by omega)).trans (gold i hi hx), (hk3.2 _ gnx).trans ggh, gHA.keep hk3, hskip k s3 hlt hL (hJs k s2 s3 gJ hk3.1 fun i hi => hk3.2 i (by omega))⟩
        by_cases hdk : hd = (k : Int)
        · subst hdk
          apply zz
          refine Cd.ra (h := ?_)
          apply Run.by_eq
          · intro self
            conv => lhs; simp -implicitDefEqProofs (maxSteps := 300000) (disch := omega) [-getElem?_pos, -getElem?_neg, hw, hb3, g5, g3, ggh]
          try (with_reducible refine Run.ret ?_)
          apply zz
          refine Run.call ((joined_ev b es rt k (-1) _ gHA hF).mono fun v wq hv => ?_)
          obtain ⟨rfl, q⟩ := hv
          have qa := q.1
          have qb := q.2
          try simp only [pushed_next', upded_next'] at qa qb
          apply Run.by_eq
          · intro self
            conv => lhs; simp -implicitDefEqProofs (maxSteps := 300000) (disch := omega) [-getElem?_pos, -getElem?_neg]
          try (with_reducible refine Run.ret ?_)
          apply zz
          by_cases hro : rt k = rt (-1)
          · have hL : isLead rt j k = false := by unfold isLead; simp [hro]
            apply zz
            apply Cd.ite rfl
            · conv => lhs; simp -implicitDefEqProofs (maxSteps := 300000) (disch := omega) [-getElem?_pos, -getElem?_neg, hro]
            all_goals intro d2
            all_goals try (cases d2; done)
            all_goals try simp only [Bool.not_eq_true', Bool.not_eq_false', decide_eq_true_eq, decide_eq_false_iff_not] at d2
            all_goals apply zz
            apply zz
            refine Cd.ra (h := ?_)
            apply Run.by_eq
            · intro self
              conv => lhs; simp -implicitDefEqProofs (maxSteps := 300000) (disch := omega) [-getElem?_pos, -getElem?_neg, g12]
            try (with_reducible refine Run.ret ?_)
            apply zz
            obtain ⟨k', rfl, e1, e2, e3, e4, e5, e6⟩ := hskipEnd hL f2 wq gm g12 g11 g0 g1 g3 g4 q
            exact LoopK.nm (j - (k + 1)) (by omega) ⟨k + 1, by omega, rfl, by simp [gm], by simp, by simp [g11], by simp [g0], by simp [g1], by simp [g3], by simp [g4, e1], e2, e3, e4, e5, e6⟩
          · have hL : isLead rt j k = true := by unfold isLead; simp [hro, hcl]
            apply zz
            apply Cd.ite rfl
            · conv => lhs; simp -implicitDefEqProofs (maxSteps := 300000) (disch := omega) [-getElem?_pos, -getElem?_neg, hro]
            all_goals intro d2
            all_goals try (cases d2; done)
            all_goals try simp only [Bool.not_eq_true', Bool.not_eq_false', decide_eq_true_eq, decide_eq_false_iff_not] at d2
            all_goals apply zz
            apply zz
            refine Cd.ra (h := ?_)
            apply Run.by_eq
            · intro self
              conv => lhs; simp -implicitDefEqProofs (maxSteps := 300000) (disch := omega) [-getElem?_pos, -getElem?_neg, g0, g4, hw]
            try (with_reducible refine Run.ret ?_)
            apply zz
            refine Run.callV ((hyield k wq _ hlt hL (hJs k s2 wq gJ q.1 fun i hi => q.2 i (by omega)) (by omega) (hints.keep q) ⟨bu, by omega, by rw [hcl]; rfl⟩).mono fun p hp => ?_)
            obtain ⟨pv, ps⟩ := p
            obtain ⟨p1, p2, p3⟩ := hp
            simp only [] at p1 p2 p3
            have hll : (leads rt j k).length ≤ k := by unfold leads; exact Nat.le_trans (List.length_filter_le _ _) (by simp)
            have hXo : ∀ i, s.next ≤ i → ¬ X i := fun i hi hx => absurd (hX i hx) (by omega)
            rcases p1 with ⟨rfl, p1⟩ | ⟨rfl, p1⟩
            · apply Run.by_eq
              · intro self
                conv => lhs; simp -implicitDefEqProofs (maxSteps := 300000) (disch := omega) [-getElem?_pos, -getElem?_neg]
              try (with_reducible refine Run.ret ?_)
              apply zz
              apply Cd.ite rfl
              · conv => lhs; simp -implicitDefEqProofs (maxSteps := 300000) (disch := omega) [-getElem?_pos, -getElem?_neg]
              all_goals intro d3
              all_goals try (cases d3; done)
              all_goals try simp only [Bool.not_eq_true', Bool.not_eq_false', decide_eq_true_eq, decide_eq_false_iff_not] at d3
              all_goals apply zz
              apply zz
              refine Cd.ra (h := ?_)
              apply Run.by_eq
              · intro self
                conv => lhs; simp -implicitDefEqProofs (maxSteps := 300000) (disch := omega) [-getElem?_pos, -getElem?_neg, g4]
              try (with_reducible refine Run.ret ?_)
              apply zz
              refine Cd.ra (h := ?_)
              apply Run.by_eq
              · intro self
                conv => lhs; simp -implicitDefEqProofs (maxSteps := 300000) (disch := omega) [-getElem?_pos, -getElem?_neg, g12]
              try (with_reducible refine Run.ret ?_)
              apply zz
              refine LoopK.nm (j - (k + 1)) (by omega) ⟨k + 1, by omega, rfl, by simp [gm], by simp, by simp [g11], by simp [g0], by simp [g1], by simp [g3], ?_, by omega, fun i hi hx => ?_, ?_, ⟨by omega, ?_⟩, p1⟩
              · rw [leads_succ, hL]; simp
              · rw [p3 i (by omega) hx, qb i (by omega)]; exact gold i hi hx
              · rw [p3 _ (by omega) (hXo _ (by omega)), qb _ (by omega)]; exact ggh
              · rw [p3 _ (by omega) (hXo _ hbs), qb _ (by omega)]; exact gHA.2
            · apply Run.by_eq
              · intro self
                conv => lhs; simp -implicitDefEqProofs (maxSteps := 300000) (disch := omega) [-getElem?_pos, -getElem?_neg]
              try (with_reducible refine Run.ret ?_)
              apply zz
              apply Cd.ite rfl
              · conv => lhs; simp -implicitDefEqProofs (maxSteps := 300000) (disch := omega) [-getElem?_pos, -getElem?_neg]
              all_goals intro d3
              all_goals try (cases d3; done)
              all_goals try simp only [Bool.not_eq_true', Bool.not_eq_false', decide_eq_true_eq, decide_eq_false_iff_not] at d3
              all_goals apply zz
              apply Leave.mk (by first | exact .inl rfl | exact .inr rfl) (by simp only [Fr.marks_put, fr0_marks, gm])
              · conv => lhs; simp -implicitDefEqProofs (disch := omega) [Try.results59, gm]
              refine ⟨.inr ⟨k, hlt, hL, p1⟩, by omega, fun i hi hx => ?_⟩
              rw [p3 i (by omega) hx, qb i (by omega)]; exact gold i hi hx
        · have hL : isLead rt j k = false := by unfold isLead; simp [hcl, hdk]
          apply zz
          refine Cd.ra (h := ?_)
          apply Run.by_eq
          · intro self
            conv => lhs; simp -implicitDefEqProofs (maxSteps := 300000) (disch := omega) [-getElem?_pos, -getElem?_neg, hw, hb3, g5, hdk]
          try (with_reducible refine Run.ret ?_)
          apply zz
          apply Cd.ite rfl
          · conv => lhs; simp -implicitDefEqProofs (maxSteps := 300000) (disch := omega) [-getElem?_pos, -getElem?_neg]
          all_goals intro d2
          all_goals try (cases d2; done)
          all_goals try simp only [Bool.not_eq_true', Bool.not_eq_false', decide_eq_true_eq, decide_eq_false_iff_not] at d2
          all_goals apply zz
          apply zz
          refine Cd.ra (h := ?_)
          apply Run.by_eq
          · intro self
            conv => lhs; simp -implicitDefEqProofs (maxSteps := 300000) (disch := omega) [-getElem?_pos, -getElem?_neg, g12]
          try (with_reducible refine Run.ret ?_)
          apply zz
          obtain ⟨k', rfl, e1, e2, e3, e4, e5, e6⟩ := hskipEnd hL f2 s2 gm g12 g11 g0 g1 g3 g4 (Keep.refl _)
          exact LoopK.nm (j - (k + 1)) (by omega) ⟨k + 1, by omega, rfl, by simp [gm], by simp, by simp [g11], by simp [g0], by simp [g1], by simp [g3], by simp [g4, e1], e2, e3, e4, e5, e6⟩
    · simp at c0; omega
  · obtain rfl : k = n := by omega
    apply zz
    refine Cd.ra (h := ?_)
    apply Run.by_eq
    · intro self
      conv => lhs; simp -implicitDefEqProofs (maxSteps := 300000) (disch := omega) [-getElem?_pos, -getElem?_neg, h12, h11]
    try (with_reducible refine Run.ret ?_)
    apply zz
    apply Cd.ite rfl
    · conv => lhs; simp -implicitDefEqProofs (maxSteps := 300000) (disch := omega) [-getElem?_pos, -getElem?_neg]
    all_goals intro c0
    all_goals try (cases c0; done)
    all_goals try simp only [Bool.not_eq_true', Bool.not_eq_false', decide_eq_true_eq, decide_eq_false_iff_not] at c0
    all_goals apply zz
    apply Leave.mk (by first | exact .inl rfl | exact .inr rfl) (by simp only [Fr.marks_put, fr0_marks, hm])
    · conv => lhs; simp -implicitDefEqProofs (disch := omega) [Try.results59, hm]
    exact ⟨.inl hJ, by omega, hold⟩
end Go.Proofs.Ytjehpgflhgpalaa
namespace Go.Proofs.Ytjehpgflhgpalaa
open Go Kern
/-- The first kind of which there is something. -/
def nzK (m : Mass) : Option Nat := if m.a ≠ 0 then some 0 else if m.b ≠ 0 then some 1 else if m.c ≠ 0 then some 2 else if m.d ≠ 0 then some 3 else none
theorem nzK_none {m : Mass} : nzK m = none ↔ m = Mass.zero := by
  obtain ⟨a, b, c, d⟩ := m
  unfold nzK Mass.zero
  by_cases ha : a = 0 <;> by_cases hb : b = 0 <;> by_cases hc : c = 0 <;> by_cases hd : d = 0 <;> simp_all
theorem nzK_at {m : Mass} {k : Nat} (hk : k < 4) (hz : ∀ j, j < k → m.at j = 0) (h : m.at k ≠ 0) : nzK m = some k := by
  match k, hk with
  | 0, _ => simp only [Mass.at] at h; simp [nzK, h]
  | 1, _ => have h0 := hz 0 (by omega); simp only [Mass.at] at h h0; simp [nzK, h, h0]
  | 2, _ => have h0 := hz 0 (by omega); have h1 := hz 1 (by omega); simp only [Mass.at] at h h0 h1; simp [nzK, h, h0, h1]
  | 3, _ => have h0 := hz 0 (by omega); have h1 := hz 1 (by omega); have h2 := hz 2 (by omega); simp only [Mass.at] at h h0 h1 h2; simp [nzK, h, h0, h1, h2]
theorem nzK_zero {m : Mass} (h : ∀ j, j < 4 → m.at j = 0) : nzK m = none := by
  have h0 := h 0 (by omega); have h1 := h 1 (by omega); have h2 := h 2 (by omega); have h3 := h 3 (by omega)
  simp only [Mass.at] at h0 h1 h2 h3
  simp [nzK, h0, h1, h2, h3]
theorem nzK_some {m : Mass} {k : Nat} (h : nzK m = some k) : k < 4 ∧ m.at k ≠ 0 := by
  unfold nzK at h
  repeat' split at h
  all_goals first | (cases h; done) | (cases h; exact ⟨by omega, by simp_all [Mass.at]⟩)
/-- What proves that there is no balance, if it is part k. -/
def provAt (rt : Int → Int) (fs : List FlowD) (n k : Nat) : Option (List Int × Nat) :=
  if isLead rt n k = true then (nzK (excM (clsN rt k n) fs)).map fun j => (clsN rt k n, j) else none
def provF (rt : Int → Int) (fs : List FlowD) (n : Nat) : Nat → Nat → Option (List Int × Nat)
  | 0, _ => none
  | c + 1, k => match provAt rt fs n k with
    | some p => some p
    | none => provF rt fs n c (k + 1)
theorem provF_none {rt : Int → Int} {fs : List FlowD} {n : Nat} : ∀ {c k : Nat}, (∀ j, k ≤ j → j < k + c → provAt rt fs n j = none) → provF rt fs n c k = none
  | 0, _, _ => rfl
  | c + 1, k, h => by
    unfold provF
    rw [h k (Nat.le_refl _) (by omega)]
    exact provF_none fun j h1 h2 => h j (by omega) (by omega)
theorem provF_at {rt : Int → Int} {fs : List FlowD} {n : Nat} {p : List Int × Nat} : ∀ {c i k : Nat}, (∀ j, i ≤ j → j < k → provAt rt fs n j = none) → i ≤ k → k < i + c → provAt rt fs n k = some p → provF rt fs n c i = some p
  | 0, _, _, _, h1, h2, _ => by omega
  | c + 1, i, k, h, h1, h2, hp => by
    unfold provF
    by_cases e : i = k
    · subst e; rw [hp]
    · rw [h i (Nat.le_refl _) (by omega)]
      exact provF_at (fun j a b => h j (by omega) b) (by omega) (by omega) hp
theorem provF_some {rt : Int → Int} {fs : List FlowD} {n : Nat} {p : List Int × Nat} : ∀ {c i : Nat}, provF rt fs n c i = some p → ∃ k, k < i + c ∧ provAt rt fs n k = some p
  | 0, _, h => by cases h
  | c + 1, i, h => by
    unfold provF at h
    split at h
    · rename_i q hq; cases h; exact ⟨i, by omega, hq⟩
    · obtain ⟨k, h1, h2⟩ := provF_some h; exact ⟨k, by omega, h2⟩
/-- What is found: units, kind and error. -/
def proveR (u : Int) (fs : List FlowD) : List Int × Int × Int :=
  if checkErr u fs ≠ 0 then ([], 0, checkErr u fs) else match provF (rtF (-1) fs 0 id) fs u.toNat u.toNat 0 with
    | some p => (p.1, p.2, 0)
    | none => ([], 0, 5)
def leakB (xs : List Int) (f : FlowD) : Bool := !f.me && (decide (f.fr ∈ xs) != decide (f.to ∈ xs))
def refutesR (u : Int) (fs : List FlowD) (xs : List Int) (kind : Int) : Int :=
  if unitsErr u fs xs ≠ 0 then unitsErr u fs xs else if kind < 0 ∨ 4 ≤ kind then 18 else if (excM xs fs).at kind.toNat = 0 ∨ fs.any (leakB xs) = true then 11 else 0
theorem uni_same {rt : Int → Int} {a b x y : Int} (h : rt x = rt y) : uni rt a b x = uni rt a b y := by
  unfold uni
  split
  · exact h
  · simp only [h]
theorem uni_ends (rt : Int → Int) (a b : Int) : uni rt a b a = uni rt a b b := by
  unfold uni
  by_cases h : rt a = rt b
  · rw [if_pos h]; exact h
  · rw [if_neg h]
    simp only [if_true]
    rw [if_neg (fun q => h q.symm)]
theorem rtF_same (lo : Int) {x y : Int} : ∀ (fs : List FlowD) (i : Nat) (rt : Int → Int), rt x = rt y → rtF lo fs i rt x = rtF lo fs i rt y
  | [], _, _, h => h
  | f :: r, i, rt, h => by
    unfold rtF
    refine rtF_same lo r (i + 1) _ ?_
    split
    · exact uni_same h
    · exact h
theorem rtF_ends (lo : Int) : ∀ (fs : List FlowD) (i : Nat) (rt : Int → Int) (k : Nat) (f : FlowD), fs[k]? = some f → f.me = false → ((i + k : Nat) : Int) ≠ lo → rtF lo fs i rt f.fr = rtF lo fs i rt f.to
  | [], _, _, _, _, h, _, _ => by simp at h
  | g :: r, i, rt, 0, f, h, hm, hl => by
    simp at h; subst h
    unfold rtF
    rw [if_pos ⟨hm, hl⟩]
    exact rtF_same lo r (i + 1) _ (uni_ends rt g.fr g.to)
  | g :: r, i, rt, k + 1, f, h, hm, hl => by
    unfold rtF
    exact rtF_ends lo r (i + 1) _ k f (by simpa using h) hm (by rw [show i + 1 + k = i + (k + 1) by omega]; exact hl)
theorem cls_no_leak {fs : List FlowD} {n k : Nat} (hk : k < n) (hL : isLead (rtF (-1) fs 0 id) n k = true) (hf : ∀ f ∈ fs, (-1 ≤ f.fr ∧ f.fr < n) ∧ (-1 ≤ f.to ∧ f.to < n)) : fs.any (leakB (clsN (rtF (-1) fs 0 id) k n)) = false := by
  rw [List.any_eq_false]
  intro f hfm
  obtain ⟨i, hi⟩ := List.getElem?_of_mem hfm
  unfold leakB
  cases hm : f.me with
  | true => simp
  | false =>
    have he := rtF_ends (-1) fs 0 id i f hi hm (by omega)
    have key : ∀ x : Int, -1 ≤ x → x < n → (x ∈ clsN (rtF (-1) fs 0 id) k n ↔ rtF (-1) fs 0 id x = rtF (-1) fs 0 id k) := fun x h1 h2 => by
      by_cases h0 : x = -1
      · subst h0
        simp only [isLead, Bool.and_eq_true, Bool.not_eq_true', decide_eq_false_iff_not] at hL
        constructor
        · intro h
          unfold clsN at h
          obtain ⟨y, _, e⟩ := List.mem_map.1 h
          omega
        · intro h; exact absurd h.symm hL.2
      · obtain ⟨y, rfl⟩ : ∃ y : Nat, x = y := ⟨x.toNat, by omega⟩
        exact mem_cls (by omega)
    obtain ⟨⟨a, b⟩, c, d⟩ := hf f hfm
    have h1 := key f.fr a b
    have h2 := key f.to c d
    rw [he] at h1
    simp [h1, h2]
theorem clsN_sorted (rt : Int → Int) (k n : Nat) : (clsN rt k n).Pairwise (· < ·) := by
  unfold clsN
  rw [List.pairwise_map]
  exact (List.pairwise_lt_range.filter _).imp fun h => by omega
theorem cls_units {u : Int} {fs : List FlowD} {n k : Nat} {rt : Int → Int} (hu : u = n) (hc : checkErr u fs = 0) (hk : k < n) : unitsErr u fs (clsN rt k n) = 0 := by
  unfold unitsErr
  rw [if_neg (by omega), if_neg (by have := cls_self rt hk; intro h; exact this (List.eq_nil_of_length_eq_zero h))]
  refine firstNZ_zero fun j _ hj => ?_
  rw [Nat.zero_add] at hj
  unfold unitAt
  have hg : (clsN rt k n).getD j 0 = (clsN rt k n)[j] := by rw [List.getD_eq_getElem?_getD, List.getElem?_eq_getElem hj]; rfl
  have hb : unitB u ((clsN rt k n)[j]) = true := by
    have := List.getElem_mem hj
    unfold clsN at this
    obtain ⟨y, hy, e⟩ := List.mem_map.1 this
    have hy := List.mem_range.1 (List.mem_filter.1 hy).1
    unfold unitB
    simp only [Bool.and_eq_true, decide_eq_true_eq]
    change (y : Int) = (clsN rt k n)[j] at e
    omega
  rw [hg, hb]
  simp only [Bool.not_true, Bool.false_eq_true, if_false]
  rw [if_neg]
  rintro ⟨h0, hle⟩
  have hj1 : j - 1 < (clsN rt k n).length := by omega
  have hg1 : (clsN rt k n).getD (j - 1) 0 = (clsN rt k n)[j - 1] := by rw [List.getD_eq_getElem?_getD, List.getElem?_eq_getElem hj1]; rfl
  rw [hg1] at hle
  have := List.pairwise_iff_getElem.1 (clsN_sorted rt k n) (j - 1) j hj1 hj (by omega)
  omega
theorem prove_refutes {u : Int} {fs : List FlowD} (h : (proveR u fs).2.2 = 0) : refutesR u fs (proveR u fs).1 (proveR u fs).2.1 = 0 := by
  unfold proveR at h ⊢
  by_cases hc : checkErr u fs = 0
  · obtain ⟨hu1, hu2, _, _⟩ := checkErr_ok hc
    obtain ⟨n, rfl⟩ : ∃ n : Nat, u = n := ⟨u.toNat, by omega⟩
    rw [if_neg (by simp [hc])] at h ⊢
    rw [show (n : Int).toNat = n from rfl] at *
    cases hp : provF (rtF (-1) fs 0 id) fs n n 0 with
    | none => rw [hp] at h; cases h
    | some p =>
      obtain ⟨k, hk, hat⟩ := provF_some hp
      rw [Nat.zero_add] at hk
      unfold provAt at hat
      split at hat
      · rename_i hL
        cases hz : nzK (excM (clsN (rtF (-1) fs 0 id) k n) fs) with
        | none => rw [hz] at hat; cases hat
        | some j =>
          rw [hz] at hat
          simp at hat
          subst hat
          obtain ⟨h1, h2⟩ := nzK_some hz
          unfold refutesR
          simp only []
          rw [cls_units rfl hc hk, if_neg (by simp), if_neg (by omega), if_neg]
          rintro (h3 | h3)
          · exact h2 (by simpa using h3)
          · rw [cls_no_leak hk hL (ends_in hc)] at h3; cases h3
      · cases hat
  · rw [if_pos (by simp [hc])] at h
    exact absurd h hc
end Go.Proofs.Ytjehpgflhgpalaa
