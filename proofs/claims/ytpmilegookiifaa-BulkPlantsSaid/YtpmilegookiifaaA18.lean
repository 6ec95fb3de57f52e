/-
  The law returns true in the calculated run, for every input.
-/
import Derived.Test.YtpmilegookiifaaA17
namespace Go.Proofs.Ytpmilegookiifaa
open Go Kern
theorem un39 : Try.prog.underlying 39 = some (.array 4 3) := by kernel_rfl
theorem un3 : Try.prog.underlying 3 = some (.int .i64) := by kernel_rfl
theorem ce39 : Try.prog.cellsOf 39 = 4 := by kernel_rfl
theorem ce3 : Try.prog.cellsOf 3 = 1 := by kernel_rfl
theorem keyLit3 {d : Nat} {a : Int} (h : (Lit.int .i64 a).wf = true) : Try.prog.keyLits (d + 1) 3 [.int .i64 a] = some [.int .i64 a] := by
  unfold Program.keyLits; rw [un3]; simp [h]
theorem wf_of {a : Int} (h : -4611686018427387904 ≤ a ∧ a ≤ 4611686018427387904) : (Lit.int .i64 a).wf = true := by
  simp [Lit.wf, IntKind.min, IntKind.max, IntKind.bits, IntKind.signed]
  omega
theorem keyLits39 {m : Mass} (h : m.le 4611686018427387904) : Try.prog.keyLits 21 39 m.cs = some [.int .i64 m.a, .int .i64 m.b, .int .i64 m.c, .int .i64 m.d] := by
  obtain ⟨h1, h2, h3, h4⟩ : (Lit.int .i64 m.a).wf = true ∧ (Lit.int .i64 m.b).wf = true ∧ (Lit.int .i64 m.c).wf = true ∧ (Lit.int .i64 m.d).wf = true := by
    unfold Mass.le at h; exact ⟨wf_of (by omega), wf_of (by omega), wf_of (by omega), wf_of (by omega)⟩
  unfold Program.keyLits; rw [un39]
  simp [ce39, ce3, Mass.cs, List.range, List.range.loop, keyLit3 h1, keyLit3 h2, keyLit3 h3, keyLit3 h4]
theorem formed39 (x y z t : Value) : Value.formed Try.prog 39 (.agg #[x, y, z, t]) = true := by
  simp [Value.formed, un39, ce39]
theorem litsEq_self (a b c d : Int) : litsEq [.int .i64 a, .int .i64 b, .int .i64 c, .int .i64 d] [.int .i64 a, .int .i64 b, .int .i64 c, .int .i64 d] = true := by
  simp [litsEq, litEq, kindEq_refl, intEq_eq]
theorem aggEq39 {m : Mass} (h : m.le 4611686018427387904) : aggEq TT 39 #[.int .i64 m.a, .int .i64 m.b, .int .i64 m.c, .int .i64 m.d] #[.int .i64 m.a, .int .i64 m.b, .int .i64 m.c, .int .i64 m.d] = some true := by
  unfold aggEq
  have h1 := keyLits39 h
  unfold Mass.cs at h1
  change gd _ (ob (Try.prog.keyLits 21 39 _) fun la => ob (Try.prog.keyLits 21 39 _) fun lb => some (litsEq la lb)) = _
  rw [h1, show Value.formed TT.prog 39 (.agg #[.int .i64 m.a, .int .i64 m.b, .int .i64 m.c, .int .i64 m.d]) = true from formed39 _ _ _ _]
  show gd (_ && true && true) (some (litsEq _ _)) = _
  rw [litsEq_self]; rfl

@[simp] theorem binVal_boolE (t : TypeId) (fl : Bool) (a b : Bool) : binVal TT .bool t fl .eql (.bool a) (.bool b) = some (.bool (a == b)) := by
  cases a <;> cases b <;> rfl
theorem flag39 : (TT.prog.keyTypeAt 20 39 && !TT.prog.eqGuardType TT.prog.depth 39) = true := by kernel_rfl
@[simp] theorem binVal_39 (a b : Array Value) : binVal TT (.array 4 3) 39 (TT.prog.keyTypeAt 20 39 && !TT.prog.eqGuardType TT.prog.depth 39) .eql (.agg a) (.agg b) = ob (aggEq TT 39 a b) fun r => some (.bool r) := by
  rw [flag39]; rfl
theorem veq_of {n k : Nat} {s : St} {v : Value} {l : List (List Value)} (h : SlAt n s v l) : veq (k + 1) v v = true := by
  cases h with
  | nil c => exact veq_sliceN _ _ _
  | mk hb ho hc he => exact veq_slice _ _ _ _ _
theorem partsErrL_le {u : Int} {fs : List FlowD} : (partsErrL u fs).length ≤ 1000000 := by
  unfold partsErrL
  by_cases h : checkErr u fs = 0
  · rw [if_pos h]
    have := checkErr_ok h
    simp [partL]; omega
  · rw [if_neg h]; simp
theorem excV_le {u : Int} {fs : List FlowD} {xs : List Int} : (excV u fs xs).le 4611686018427387904 := by
  unfold excV
  by_cases h : unitsErr u fs xs = 0
  · rw [if_pos h]
    have hc := unitsErr_ok h
    obtain ⟨_, _, hl, _⟩ := checkErr_ok hc
    have := exc_bound (xs := xs) (fs := fs) (B := 1000000000000) (by omega) (checkErr_le hc) fs.length
    rw [List.take_length] at this
    exact this.mono (by have : (fs.length : Int) ≤ 20 := by omega
                        omega)
  · rw [if_neg h]; simp [Mass.le, Mass.zero]
set_option maxRecDepth 100000 in
set_option maxHeartbeats 4000000 in
theorem law_ev (b : ByteArray) (u : Int) (v w : Value) (fs : List FlowD) (xs : List Int) (s : St) (hf : FlAt s v fs) (hx : IntsAt s w xs) :
    Ev TT 3 [.string b, plantV u v, w] s fun r _ => r = .bool true := by
  obtain ⟨a, c, rfl⟩ := hf.shape
  rw [List.length_map] at hf ⊢
  obtain ⟨a', c', rfl⟩ := hx.shape
  rw [List.length_map] at hx ⊢
  unfold plantV
  refine Ev.intro (fn := Try.f3) rfl (by kernel_rfl) rfl rfl ?_
  with_reducible repeat first|apply Z0|apply Z1|apply Z2|apply Z3|apply Z4|apply Z5|refine Z6 rfl ?_|apply Z7|apply Z8|apply Z9|apply Z10|apply Z11|apply Z12|apply Z13|apply Z14|apply Z15|apply Z16
  with_reducible repeat first|apply Z0|apply Z1|apply Z2|apply Z3|apply Z4|apply Z5|refine Z6 rfl ?_|apply Z7|apply Z8|apply Z9|apply Z10|apply Z11|apply Z12|apply Z13|apply Z14|apply Z15|apply Z16
  refine Cd.reg (by kernel_rfl) (by conv => lhs; simp only [List.map_cons, List.map_nil]) (by conv => lhs; simp only [List.map_cons, List.map_nil, strip]) ?_
  apply Run.by_eq
  · intro self
    conv => lhs; simp -implicitDefEqProofs (maxSteps := 300000) (disch := omega) [-getElem?_pos, -getElem?_neg]
  try (with_reducible refine Run.ret ?_)
  with_reducible repeat first|apply Z0|apply Z1|apply Z2|apply Z3|apply Z4|apply Z5|refine Z6 rfl ?_|apply Z7|apply Z8|apply Z9|apply Z10|apply Z11|apply Z12|apply Z13|apply Z14|apply Z15|apply Z16
  by_cases e1 : 100 < (b.size : Int)
  · with_reducible repeat first|apply Z0|apply Z1|apply Z2|apply Z3|apply Z4|apply Z5|refine Z6 rfl ?_|apply Z7|apply Z8|apply Z9|apply Z10|apply Z11|apply Z12|apply Z13|apply Z14|apply Z15|apply Z16
    refine Cd.reg (by kernel_rfl) (by conv => lhs; simp only [List.map_cons, List.map_nil]) (by conv => lhs; simp only [List.map_cons, List.map_nil, strip]) ?_
    apply Run.by_eq
    · intro self
      conv => lhs; simp -implicitDefEqProofs (maxSteps := 300000) (disch := omega) [-getElem?_pos, -getElem?_neg, e1]
    try (with_reducible refine Run.ret ?_)
    with_reducible repeat first|apply Z0|apply Z1|apply Z2|apply Z3|apply Z4|apply Z5|refine Z6 rfl ?_|apply Z7|apply Z8|apply Z9|apply Z10|apply Z11|apply Z12|apply Z13|apply Z14|apply Z15|apply Z16
    with_reducible repeat first|apply Z0|apply Z1|apply Z2|apply Z3|apply Z4|apply Z5|refine Z6 rfl ?_|apply Z7|apply Z8|apply Z9|apply Z10|apply Z11|apply Z12|apply Z13|apply Z14|apply Z15|apply Z16
    apply Cd.ite rfl
    · conv => lhs; simp -implicitDefEqProofs (maxSteps := 300000) (disch := omega) [-getElem?_pos, -getElem?_neg]
    all_goals intro c0
    all_goals try (cases c0; done)
    all_goals try simp only [Bool.not_eq_true', Bool.not_eq_false', decide_eq_true_eq, decide_eq_false_iff_not] at c0
    all_goals with_reducible repeat first|apply Z0|apply Z1|apply Z2|apply Z3|apply Z4|apply Z5|refine Z6 rfl ?_|apply Z7|apply Z8|apply Z9|apply Z10|apply Z11|apply Z12|apply Z13|apply Z14|apply Z15|apply Z16
    with_reducible repeat first|apply Z0|apply Z1|apply Z2|apply Z3|apply Z4|apply Z5|refine Z6 rfl ?_|apply Z7|apply Z8|apply Z9|apply Z10|apply Z11|apply Z12|apply Z13|apply Z14|apply Z15|apply Z16
    refine Cd.reg (by kernel_rfl) (by conv => lhs; simp only [List.map_cons, List.map_nil]) (by conv => lhs; simp only [List.map_cons, List.map_nil, strip]) ?_
    apply Run.by_eq
    · intro self
      conv => lhs; simp -implicitDefEqProofs (maxSteps := 300000) (disch := omega) [-getElem?_pos, -getElem?_neg]
    try (with_reducible refine Run.ret ?_)
    with_reducible repeat first|apply Z0|apply Z1|apply Z2|apply Z3|apply Z4|apply Z5|refine Z6 rfl ?_|apply Z7|apply Z8|apply Z9|apply Z10|apply Z11|apply Z12|apply Z13|apply Z14|apply Z15|apply Z16
    refine Run.call (Ev.stub rfl ?_)
    apply Run.by_eq
    · intro self
      conv => lhs; simp -implicitDefEqProofs (maxSteps := 300000) (disch := omega) [-getElem?_pos, -getElem?_neg]
    try (with_reducible refine Run.ret ?_)
    with_reducible repeat first|apply Z0|apply Z1|apply Z2|apply Z3|apply Z4|apply Z5|refine Z6 rfl ?_|apply Z7|apply Z8|apply Z9|apply Z10|apply Z11|apply Z12|apply Z13|apply Z14|apply Z15|apply Z16
    apply Leave.mk (by first | exact .inl rfl | exact .inr rfl) (by simp only [Fr.marks_put, fr0_marks])
    · conv => lhs; simp -implicitDefEqProofs (disch := omega) [Try.results3]
    rfl
  by_cases e2 : 40 < (fs.length : Int)
  · with_reducible repeat first|apply Z0|apply Z1|apply Z2|apply Z3|apply Z4|apply Z5|refine Z6 rfl ?_|apply Z7|apply Z8|apply Z9|apply Z10|apply Z11|apply Z12|apply Z13|apply Z14|apply Z15|apply Z16
    refine Cd.reg (by kernel_rfl) (by conv => lhs; simp only [List.map_cons, List.map_nil]) (by conv => lhs; simp only [List.map_cons, List.map_nil, strip]) ?_
    apply Run.by_eq
    · intro self
      conv => lhs; simp -implicitDefEqProofs (maxSteps := 300000) (disch := omega) [-getElem?_pos, -getElem?_neg, e1, e2]
    try (with_reducible refine Run.ret ?_)
    with_reducible repeat first|apply Z0|apply Z1|apply Z2|apply Z3|apply Z4|apply Z5|refine Z6 rfl ?_|apply Z7|apply Z8|apply Z9|apply Z10|apply Z11|apply Z12|apply Z13|apply Z14|apply Z15|apply Z16
    with_reducible repeat first|apply Z0|apply Z1|apply Z2|apply Z3|apply Z4|apply Z5|refine Z6 rfl ?_|apply Z7|apply Z8|apply Z9|apply Z10|apply Z11|apply Z12|apply Z13|apply Z14|apply Z15|apply Z16
    apply Cd.ite rfl
    · conv => lhs; simp -implicitDefEqProofs (maxSteps := 300000) (disch := omega) [-getElem?_pos, -getElem?_neg]
    all_goals intro c0
    all_goals try (cases c0; done)
    all_goals try simp only [Bool.not_eq_true', Bool.not_eq_false', decide_eq_true_eq, decide_eq_false_iff_not] at c0
    all_goals with_reducible repeat first|apply Z0|apply Z1|apply Z2|apply Z3|apply Z4|apply Z5|refine Z6 rfl ?_|apply Z7|apply Z8|apply Z9|apply Z10|apply Z11|apply Z12|apply Z13|apply Z14|apply Z15|apply Z16
    with_reducible repeat first|apply Z0|apply Z1|apply Z2|apply Z3|apply Z4|apply Z5|refine Z6 rfl ?_|apply Z7|apply Z8|apply Z9|apply Z10|apply Z11|apply Z12|apply Z13|apply Z14|apply Z15|apply Z16
    refine Cd.reg (by kernel_rfl) (by conv => lhs; simp only [List.map_cons, List.map_nil]) (by conv => lhs; simp only [List.map_cons, List.map_nil, strip]) ?_
    apply Run.by_eq
    · intro self
      conv => lhs; simp -implicitDefEqProofs (maxSteps := 300000) (disch := omega) [-getElem?_pos, -getElem?_neg]
    try (with_reducible refine Run.ret ?_)
    with_reducible repeat first|apply Z0|apply Z1|apply Z2|apply Z3|apply Z4|apply Z5|refine Z6 rfl ?_|apply Z7|apply Z8|apply Z9|apply Z10|apply Z11|apply Z12|apply Z13|apply Z14|apply Z15|apply Z16
    refine Run.call (Ev.stub rfl ?_)
    apply Run.by_eq
    · intro self
      conv => lhs; simp -implicitDefEqProofs (maxSteps := 300000) (disch := omega) [-getElem?_pos, -getElem?_neg]
    try (with_reducible refine Run.ret ?_)
    with_reducible repeat first|apply Z0|apply Z1|apply Z2|apply Z3|apply Z4|apply Z5|refine Z6 rfl ?_|apply Z7|apply Z8|apply Z9|apply Z10|apply Z11|apply Z12|apply Z13|apply Z14|apply Z15|apply Z16
    apply Leave.mk (by first | exact .inl rfl | exact .inr rfl) (by simp only [Fr.marks_put, fr0_marks])
    · conv => lhs; simp -implicitDefEqProofs (disch := omega) [Try.results3]
    rfl
  by_cases e3 : 40 < (xs.length : Int)
  · with_reducible repeat first|apply Z0|apply Z1|apply Z2|apply Z3|apply Z4|apply Z5|refine Z6 rfl ?_|apply Z7|apply Z8|apply Z9|apply Z10|apply Z11|apply Z12|apply Z13|apply Z14|apply Z15|apply Z16
    refine Cd.reg (by kernel_rfl) (by conv => lhs; simp only [List.map_cons, List.map_nil]) (by conv => lhs; simp only [List.map_cons, List.map_nil, strip]) ?_
    apply Run.by_eq
    · intro self
      conv => lhs; simp -implicitDefEqProofs (maxSteps := 300000) (disch := omega) [-getElem?_pos, -getElem?_neg, e1, e2, e3]
    try (with_reducible refine Run.ret ?_)
    with_reducible repeat first|apply Z0|apply Z1|apply Z2|apply Z3|apply Z4|apply Z5|refine Z6 rfl ?_|apply Z7|apply Z8|apply Z9|apply Z10|apply Z11|apply Z12|apply Z13|apply Z14|apply Z15|apply Z16
    with_reducible repeat first|apply Z0|apply Z1|apply Z2|apply Z3|apply Z4|apply Z5|refine Z6 rfl ?_|apply Z7|apply Z8|apply Z9|apply Z10|apply Z11|apply Z12|apply Z13|apply Z14|apply Z15|apply Z16
    apply Cd.ite rfl
    · conv => lhs; simp -implicitDefEqProofs (maxSteps := 300000) (disch := omega) [-getElem?_pos, -getElem?_neg]
    all_goals intro c0
    all_goals try (cases c0; done)
    all_goals try simp only [Bool.not_eq_true', Bool.not_eq_false', decide_eq_true_eq, decide_eq_false_iff_not] at c0
    all_goals with_reducible repeat first|apply Z0|apply Z1|apply Z2|apply Z3|apply Z4|apply Z5|refine Z6 rfl ?_|apply Z7|apply Z8|apply Z9|apply Z10|apply Z11|apply Z12|apply Z13|apply Z14|apply Z15|apply Z16
    with_reducible repeat first|apply Z0|apply Z1|apply Z2|apply Z3|apply Z4|apply Z5|refine Z6 rfl ?_|apply Z7|apply Z8|apply Z9|apply Z10|apply Z11|apply Z12|apply Z13|apply Z14|apply Z15|apply Z16
    refine Cd.reg (by kernel_rfl) (by conv => lhs; simp only [List.map_cons, List.map_nil]) (by conv => lhs; simp only [List.map_cons, List.map_nil, strip]) ?_
    apply Run.by_eq
    · intro self
      conv => lhs; simp -implicitDefEqProofs (maxSteps := 300000) (disch := omega) [-getElem?_pos, -getElem?_neg]
    try (with_reducible refine Run.ret ?_)
    with_reducible repeat first|apply Z0|apply Z1|apply Z2|apply Z3|apply Z4|apply Z5|refine Z6 rfl ?_|apply Z7|apply Z8|apply Z9|apply Z10|apply Z11|apply Z12|apply Z13|apply Z14|apply Z15|apply Z16
    refine Run.call (Ev.stub rfl ?_)
    apply Run.by_eq
    · intro self
      conv => lhs; simp -implicitDefEqProofs (maxSteps := 300000) (disch := omega) [-getElem?_pos, -getElem?_neg]
    try (with_reducible refine Run.ret ?_)
    with_reducible repeat first|apply Z0|apply Z1|apply Z2|apply Z3|apply Z4|apply Z5|refine Z6 rfl ?_|apply Z7|apply Z8|apply Z9|apply Z10|apply Z11|apply Z12|apply Z13|apply Z14|apply Z15|apply Z16
    apply Leave.mk (by first | exact .inl rfl | exact .inr rfl) (by simp only [Fr.marks_put, fr0_marks])
    · conv => lhs; simp -implicitDefEqProofs (disch := omega) [Try.results3]
    rfl
  with_reducible repeat first|apply Z0|apply Z1|apply Z2|apply Z3|apply Z4|apply Z5|refine Z6 rfl ?_|apply Z7|apply Z8|apply Z9|apply Z10|apply Z11|apply Z12|apply Z13|apply Z14|apply Z15|apply Z16
  refine Cd.reg (by kernel_rfl) (by conv => lhs; simp only [List.map_cons, List.map_nil]) (by conv => lhs; simp only [List.map_cons, List.map_nil, strip]) ?_
  apply Run.by_eq
  · intro self
    conv => lhs; simp -implicitDefEqProofs (maxSteps := 300000) (disch := omega) [-getElem?_pos, -getElem?_neg, e1, e2, e3]
  try (with_reducible refine Run.ret ?_)
  with_reducible repeat first|apply Z0|apply Z1|apply Z2|apply Z3|apply Z4|apply Z5|refine Z6 rfl ?_|apply Z7|apply Z8|apply Z9|apply Z10|apply Z11|apply Z12|apply Z13|apply Z14|apply Z15|apply Z16
  with_reducible repeat first|apply Z0|apply Z1|apply Z2|apply Z3|apply Z4|apply Z5|refine Z6 rfl ?_|apply Z7|apply Z8|apply Z9|apply Z10|apply Z11|apply Z12|apply Z13|apply Z14|apply Z15|apply Z16
  apply Cd.ite rfl
  · conv => lhs; simp -implicitDefEqProofs (maxSteps := 300000) (disch := omega) [-getElem?_pos, -getElem?_neg]
  all_goals intro c0
  all_goals try (cases c0; done)
  all_goals try simp only [Bool.not_eq_true', Bool.not_eq_false', decide_eq_true_eq, decide_eq_false_iff_not] at c0
  all_goals with_reducible repeat first|apply Z0|apply Z1|apply Z2|apply Z3|apply Z4|apply Z5|refine Z6 rfl ?_|apply Z7|apply Z8|apply Z9|apply Z10|apply Z11|apply Z12|apply Z13|apply Z14|apply Z15|apply Z16
  have hl : fs.length ≤ 1000 := by omega
  have hlx : xs.length ≤ 1000 := by omega
  with_reducible repeat first|apply Z0|apply Z1|apply Z2|apply Z3|apply Z4|apply Z5|refine Z6 rfl ?_|apply Z7|apply Z8|apply Z9|apply Z10|apply Z11|apply Z12|apply Z13|apply Z14|apply Z15|apply Z16
  refine Cd.reg (by kernel_rfl) (by conv => lhs; simp only [List.map_cons, List.map_nil]) (by conv => lhs; simp only [List.map_cons, List.map_nil, strip]) ?_
  apply Run.by_eq
  · intro self
    conv => lhs; simp -implicitDefEqProofs (maxSteps := 300000) (disch := omega) [-getElem?_pos, -getElem?_neg]
  try (with_reducible refine Run.ret ?_)
  with_reducible repeat first|apply Z0|apply Z1|apply Z2|apply Z3|apply Z4|apply Z5|refine Z6 rfl ?_|apply Z7|apply Z8|apply Z9|apply Z10|apply Z11|apply Z12|apply Z13|apply Z14|apply Z15|apply Z16
  refine Run.call ((partsP_ev u _ fs _ (hf.keep ⟨by (try simp only [pushed_next', upded_next']); omega, fun i hi => by simp -implicitDefEqProofs (disch := omega) []⟩) (by omega)).mono fun r1 t1 hv => ?_)
  obtain ⟨k1, w1, rfl, hw1⟩ := hv
  have k1a := k1.1
  have k1b := k1.2
  try simp only [pushed_next', upded_next'] at k1a k1b
  apply Run.by_eq
  · intro self
    conv => lhs; simp -implicitDefEqProofs (maxSteps := 300000) (disch := omega) [-getElem?_pos, -getElem?_neg]
  try (with_reducible refine Run.ret ?_)
  with_reducible repeat first|apply Z0|apply Z1|apply Z2|apply Z3|apply Z4|apply Z5|refine Z6 rfl ?_|apply Z7|apply Z8|apply Z9|apply Z10|apply Z11|apply Z12|apply Z13|apply Z14|apply Z15|apply Z16
  with_reducible repeat first|apply Z0|apply Z1|apply Z2|apply Z3|apply Z4|apply Z5|refine Z6 rfl ?_|apply Z7|apply Z8|apply Z9|apply Z10|apply Z11|apply Z12|apply Z13|apply Z14|apply Z15|apply Z16
  refine Cd.reg (by kernel_rfl) (by conv => lhs; simp only [List.map_cons, List.map_nil]) (by conv => lhs; simp only [List.map_cons, List.map_nil, strip]) ?_
  apply Run.by_eq
  · intro self
    conv => lhs; simp -implicitDefEqProofs (maxSteps := 300000) (disch := omega) [-getElem?_pos, -getElem?_neg, k1b]
  try (with_reducible refine Run.ret ?_)
  with_reducible repeat first|apply Z0|apply Z1|apply Z2|apply Z3|apply Z4|apply Z5|refine Z6 rfl ?_|apply Z7|apply Z8|apply Z9|apply Z10|apply Z11|apply Z12|apply Z13|apply Z14|apply Z15|apply Z16
  refine Run.call ((given_ev u _ fs _ (hf.keep ⟨by (try simp only [pushed_next', upded_next']); omega, fun i hi => by simp -implicitDefEqProofs (disch := omega) [k1b]⟩) hl).mono fun r2 t2 hv => ?_)
  obtain ⟨k2, w2, rfl, hw2⟩ := hv
  have k2a := k2.1
  have k2b := k2.2
  try simp only [pushed_next', upded_next'] at k2a k2b
  apply Run.by_eq
  · intro self
    conv => lhs; simp -implicitDefEqProofs (maxSteps := 300000) (disch := omega) [-getElem?_pos, -getElem?_neg]
  try (with_reducible refine Run.ret ?_)
  with_reducible repeat first|apply Z0|apply Z1|apply Z2|apply Z3|apply Z4|apply Z5|refine Z6 rfl ?_|apply Z7|apply Z8|apply Z9|apply Z10|apply Z11|apply Z12|apply Z13|apply Z14|apply Z15|apply Z16
  refine Run.call ((refPartsP_ev u _ fs _ hw2 (by omega)).mono fun r3 t3 hv => ?_)
  obtain ⟨k3, w3, rfl, hw3⟩ := hv
  have k3a := k3.1
  have k3b := k3.2
  try simp only [pushed_next', upded_next'] at k3a k3b
  apply Run.by_eq
  · intro self
    conv => lhs; simp -implicitDefEqProofs (maxSteps := 300000) (disch := omega) [-getElem?_pos, -getElem?_neg]
  try (with_reducible refine Run.ret ?_)
  with_reducible repeat first|apply Z0|apply Z1|apply Z2|apply Z3|apply Z4|apply Z5|refine Z6 rfl ?_|apply Z7|apply Z8|apply Z9|apply Z10|apply Z11|apply Z12|apply Z13|apply Z14|apply Z15|apply Z16
  with_reducible repeat first|apply Z0|apply Z1|apply Z2|apply Z3|apply Z4|apply Z5|refine Z6 rfl ?_|apply Z7|apply Z8|apply Z9|apply Z10|apply Z11|apply Z12|apply Z13|apply Z14|apply Z15|apply Z16
  refine Cd.reg (by kernel_rfl) (by conv => lhs; simp only [List.map_cons, List.map_nil]) (by conv => lhs; simp only [List.map_cons, List.map_nil, strip]) ?_
  apply Run.by_eq
  · intro self
    conv => lhs; simp -implicitDefEqProofs (maxSteps := 300000) (disch := omega) [-getElem?_pos, -getElem?_neg, k1b, k2b, k3b]
  try (with_reducible refine Run.ret ?_)
  with_reducible repeat first|apply Z0|apply Z1|apply Z2|apply Z3|apply Z4|apply Z5|refine Z6 rfl ?_|apply Z7|apply Z8|apply Z9|apply Z10|apply Z11|apply Z12|apply Z13|apply Z14|apply Z15|apply Z16
  refine Run.call ((excessP_ev u _ _ fs xs _ (hf.keep ⟨by (try simp only [pushed_next', upded_next']); omega, fun i hi => by simp -implicitDefEqProofs (disch := omega) [k1b, k2b, k3b]⟩) (hx.keep ⟨by (try simp only [pushed_next', upded_next']); omega, fun i hi => by simp -implicitDefEqProofs (disch := omega) [k1b, k2b, k3b]⟩) (by omega) (by omega)).mono fun v wk4 hv => ?_)
  obtain ⟨rfl, k4⟩ := hv
  have k4a := k4.1
  have k4b := k4.2
  try simp only [pushed_next', upded_next'] at k4a k4b
  apply Run.by_eq
  · intro self
    conv => lhs; simp -implicitDefEqProofs (maxSteps := 300000) (disch := omega) [-getElem?_pos, -getElem?_neg, Mass.v]
  try (with_reducible refine Run.ret ?_)
  with_reducible repeat first|apply Z0|apply Z1|apply Z2|apply Z3|apply Z4|apply Z5|refine Z6 rfl ?_|apply Z7|apply Z8|apply Z9|apply Z10|apply Z11|apply Z12|apply Z13|apply Z14|apply Z15|apply Z16
  with_reducible repeat first|apply Z0|apply Z1|apply Z2|apply Z3|apply Z4|apply Z5|refine Z6 rfl ?_|apply Z7|apply Z8|apply Z9|apply Z10|apply Z11|apply Z12|apply Z13|apply Z14|apply Z15|apply Z16
  refine Cd.reg (by kernel_rfl) (by conv => lhs; simp only [List.map_cons, List.map_nil]) (by conv => lhs; simp only [List.map_cons, List.map_nil, strip]) ?_
  apply Run.by_eq
  · intro self
    conv => lhs; simp -implicitDefEqProofs (maxSteps := 300000) (disch := omega) [-getElem?_pos, -getElem?_neg, k1b, k2b, k3b, k4b]
  try (with_reducible refine Run.ret ?_)
  with_reducible repeat first|apply Z0|apply Z1|apply Z2|apply Z3|apply Z4|apply Z5|refine Z6 rfl ?_|apply Z7|apply Z8|apply Z9|apply Z10|apply Z11|apply Z12|apply Z13|apply Z14|apply Z15|apply Z16
  refine Run.call ((given_ev u _ fs _ (hf.keep ⟨by (try simp only [pushed_next', upded_next']); omega, fun i hi => by simp -implicitDefEqProofs (disch := omega) [k1b, k2b, k3b, k4b]⟩) hl).mono fun r5 t5 hv => ?_)
  obtain ⟨k5, w5, rfl, hw5⟩ := hv
  have k5a := k5.1
  have k5b := k5.2
  try simp only [pushed_next', upded_next'] at k5a k5b
  apply Run.by_eq
  · intro self
    conv => lhs; simp -implicitDefEqProofs (maxSteps := 300000) (disch := omega) [-getElem?_pos, -getElem?_neg]
  try (with_reducible refine Run.ret ?_)
  with_reducible repeat first|apply Z0|apply Z1|apply Z2|apply Z3|apply Z4|apply Z5|refine Z6 rfl ?_|apply Z7|apply Z8|apply Z9|apply Z10|apply Z11|apply Z12|apply Z13|apply Z14|apply Z15|apply Z16
  refine Run.call ((refExcessP_ev u _ _ fs xs _ hw5 (hx.keep ⟨by (try simp only [pushed_next', upded_next']); omega, fun i hi => by simp -implicitDefEqProofs (disch := omega) [k1b, k2b, k3b, k4b, k5b]⟩) (by omega) (by omega)).mono fun v wk6 hv => ?_)
  obtain ⟨rfl, k6⟩ := hv
  have k6a := k6.1
  have k6b := k6.2
  try simp only [pushed_next', upded_next'] at k6a k6b
  apply Run.by_eq
  · intro self
    conv => lhs; simp -implicitDefEqProofs (maxSteps := 300000) (disch := omega) [-getElem?_pos, -getElem?_neg, Mass.v]
  try (with_reducible refine Run.ret ?_)
  with_reducible repeat first|apply Z0|apply Z1|apply Z2|apply Z3|apply Z4|apply Z5|refine Z6 rfl ?_|apply Z7|apply Z8|apply Z9|apply Z10|apply Z11|apply Z12|apply Z13|apply Z14|apply Z15|apply Z16
  have hEE := aggEq39 (excV_le (u := u) (fs := fs) (xs := xs))
  have ve4 : veq 4 (.slice a fs.length c) (.slice a fs.length c) = true := veq_of hf
  have vw1 : veq 5 w1 w1 = true := veq_of hw1
  have vw3 : veq 5 w3 w3 = true := veq_of hw3
  with_reducible repeat first|apply Z0|apply Z1|apply Z2|apply Z3|apply Z4|apply Z5|refine Z6 rfl ?_|apply Z7|apply Z8|apply Z9|apply Z10|apply Z11|apply Z12|apply Z13|apply Z14|apply Z15|apply Z16
  refine Cd.drawnH (pl := [(0, 0, false, false), (2, 0, false, false), (1, 1, true, false), (3, 7, true, false), (4, 15, false, false), (5, 31, false, false), (6, 63, false, false), (8, 63, false, false), (7, 127, true, false), (9, 511, true, false), (10, 1023, true, false), (11, 2047, false, false), (12, 4095, false, false), (13, 8191, false, false), (14, 16383, false, false), (15, 16383, false, false), (16, 65535, true, false), (17, 131071, false, false), (18, 262143, false, false), (19, 524287, false, false), (20, 524287, false, false), (21, 2097151, false, false), (22, 4194303, false, false), (23, 8388607, false, false), (24, 16777215, false, false), (25, 16777215, false, false), (26, 67108863, false, false), (27, 134217727, false, false), (28, 268435455, false, false), (29, 536870911, false, false), (30, 536870911, false, false), (31, 2147483647, false, false), (32, 4294967295, false, false), (33, 8589934591, false, false), (34, 17179869183, true, false), (35, 34359738367, false, false), (36, 68719476735, false, false)]) [false, true, false, false, false, false, false, true, false, false, false, false, false, false, false, false, false, false, false, false, false, false, false, false, false, false, false, false, false, false, false, false, false, false, false, false, false] (by kernel_rfl) (by decide) (by decide) (by conv => lhs; simp only [List.map_cons, List.map_nil]) (by conv => lhs; simp [strip, orderedG, flagH]) ?_
  apply Run.by_eq
  · intro self
    conv => lhs; simp -implicitDefEqProofs (maxSteps := 300000) (disch := omega) [-getElem?_pos, -getElem?_neg]
  try (with_reducible refine Run.ret ?_)
  with_reducible repeat first|apply Z0|apply Z1|apply Z2|apply Z3|apply Z4|apply Z5|refine Z6 rfl ?_|apply Z7|apply Z8|apply Z9|apply Z10|apply Z11|apply Z12|apply Z13|apply Z14|apply Z15|apply Z16
  refine Run.call ((name_ev b _).mono fun v wn1 hv => ?_)
  obtain ⟨rfl, n1⟩ := hv
  have n1a := n1.1
  have n1b := n1.2
  try simp only [pushed_next', upded_next'] at n1a n1b
  apply Run.by_eq
  · intro self
    conv => lhs; simp -implicitDefEqProofs (maxSteps := 300000) (disch := omega) [-getElem?_pos, -getElem?_neg]
  try (with_reducible refine Run.ret ?_)
  with_reducible repeat first|apply Z0|apply Z1|apply Z2|apply Z3|apply Z4|apply Z5|refine Z6 rfl ?_|apply Z7|apply Z8|apply Z9|apply Z10|apply Z11|apply Z12|apply Z13|apply Z14|apply Z15|apply Z16
  refine Run.call ((refName_ev b _).mono fun v wn2 hv => ?_)
  obtain ⟨rfl, n2⟩ := hv
  have n2a := n2.1
  have n2b := n2.2
  try simp only [pushed_next', upded_next'] at n2a n2b
  apply Run.by_eq
  · intro self
    conv => lhs; simp -implicitDefEqProofs (maxSteps := 300000) (disch := omega) [-getElem?_pos, -getElem?_neg, k1b, k2b, k3b, k4b, k5b, k6b, n1b, n2b, ve4]
  try (with_reducible refine Run.ret ?_)
  with_reducible repeat first|apply Z0|apply Z1|apply Z2|apply Z3|apply Z4|apply Z5|refine Z6 rfl ?_|apply Z7|apply Z8|apply Z9|apply Z10|apply Z11|apply Z12|apply Z13|apply Z14|apply Z15|apply Z16
  refine Run.call ((check_ev u _ fs _ (hf.keep ⟨by (try simp only [pushed_next', upded_next']); omega, fun i hi => by simp -implicitDefEqProofs (disch := omega) [k1b, k2b, k3b, k4b, k5b, k6b, n1b, n2b]⟩) (by omega)).mono fun v wn3 hv => ?_)
  obtain ⟨rfl, n3⟩ := hv
  have n3a := n3.1
  have n3b := n3.2
  try simp only [pushed_next', upded_next'] at n3a n3b
  apply Run.by_eq
  · intro self
    conv => lhs; simp -implicitDefEqProofs (maxSteps := 300000) (disch := omega) [-getElem?_pos, -getElem?_neg, k1b, k2b, k3b, k4b, k5b, k6b, n1b, n2b, n3b, ve4, vw1, vw3]
  try (with_reducible refine Run.ret ?_)
  with_reducible repeat first|apply Z0|apply Z1|apply Z2|apply Z3|apply Z4|apply Z5|refine Z6 rfl ?_|apply Z7|apply Z8|apply Z9|apply Z10|apply Z11|apply Z12|apply Z13|apply Z14|apply Z15|apply Z16
  refine Run.call ((given_ev u _ fs _ (hf.keep ⟨by (try simp only [pushed_next', upded_next']); omega, fun i hi => by simp -implicitDefEqProofs (disch := omega) [k1b, k2b, k3b, k4b, k5b, k6b, n1b, n2b, n3b]⟩) hl).mono fun r7 t7 hv => ?_)
  obtain ⟨k7, w7, rfl, hw7⟩ := hv
  have k7a := k7.1
  have k7b := k7.2
  try simp only [pushed_next', upded_next'] at k7a k7b
  apply Run.by_eq
  · intro self
    conv => lhs; simp -implicitDefEqProofs (maxSteps := 300000) (disch := omega) [-getElem?_pos, -getElem?_neg, k1b, k2b, k3b, k4b, k5b, k6b, n1b, n2b, n3b, k7b, ve4, vw1, vw3]
  try (with_reducible refine Run.ret ?_)
  with_reducible repeat first|apply Z0|apply Z1|apply Z2|apply Z3|apply Z4|apply Z5|refine Z6 rfl ?_|apply Z7|apply Z8|apply Z9|apply Z10|apply Z11|apply Z12|apply Z13|apply Z14|apply Z15|apply Z16
  refine Run.call ((refCheck_ev u _ fs _ hw7 (by omega)).mono fun v wn4 hv => ?_)
  obtain ⟨rfl, n4⟩ := hv
  have n4a := n4.1
  have n4b := n4.2
  try simp only [pushed_next', upded_next'] at n4a n4b
  apply Run.by_eq
  · intro self
    conv => lhs; simp -implicitDefEqProofs (maxSteps := 300000) (disch := omega) [-getElem?_pos, -getElem?_neg, k1b, k2b, k3b, k4b, k5b, k6b, n1b, n2b, n3b, k7b, n4b, ve4, vw1, vw3]
  try (with_reducible refine Run.ret ?_)
  with_reducible repeat first|apply Z0|apply Z1|apply Z2|apply Z3|apply Z4|apply Z5|refine Z6 rfl ?_|apply Z7|apply Z8|apply Z9|apply Z10|apply Z11|apply Z12|apply Z13|apply Z14|apply Z15|apply Z16
  trace "HERE"
  refine Run.call ((numbers_ev _ _ _ _ _ (hw1.keep ⟨by (try simp only [pushed_next', upded_next']); omega, fun i hi => by simp -implicitDefEqProofs (disch := omega) [k1b, k2b, k3b, k4b, k5b, k6b, n1b, n2b, n3b, k7b, n4b]⟩) (hw3.keep ⟨by (try simp only [pushed_next', upded_next']); omega, fun i hi => by simp -implicitDefEqProofs (disch := omega) [k1b, k2b, k3b, k4b, k5b, k6b, n1b, n2b, n3b, k7b, n4b]⟩) partsErrL_le).mono fun v wn5 hv => ?_)
  obtain ⟨rfl, n5⟩ := hv
  have n5a := n5.1
  have n5b := n5.2
  try simp only [pushed_next', upded_next'] at n5a n5b
  apply Run.by_eq
  · intro self
    conv => lhs; simp -implicitDefEqProofs (maxSteps := 300000) (disch := omega) [-getElem?_pos, -getElem?_neg, k1b, k2b, k3b, k4b, k5b, k6b, n1b, n2b, n3b, k7b, n4b, n5b, hEE, ve4]
  try (with_reducible refine Run.ret ?_)
  with_reducible repeat first|apply Z0|apply Z1|apply Z2|apply Z3|apply Z4|apply Z5|refine Z6 rfl ?_|apply Z7|apply Z8|apply Z9|apply Z10|apply Z11|apply Z12|apply Z13|apply Z14|apply Z15|apply Z16
  refine Run.call (Ev.stub rfl ?_)
  apply Run.by_eq
  · intro self
    conv => lhs; simp -implicitDefEqProofs (maxSteps := 300000) (disch := omega) [-getElem?_pos, -getElem?_neg, k1b, k2b, k3b, k4b, k5b, k6b, n1b, n2b, n3b, k7b, n4b, n5b, hEE, ve4]
  try (with_reducible refine Run.ret ?_)
  with_reducible repeat first|apply Z0|apply Z1|apply Z2|apply Z3|apply Z4|apply Z5|refine Z6 rfl ?_|apply Z7|apply Z8|apply Z9|apply Z10|apply Z11|apply Z12|apply Z13|apply Z14|apply Z15|apply Z16
  apply Leave.mk (by first | exact .inl rfl | exact .inr rfl) (by simp only [Fr.marks_put, fr0_marks])
  · conv => lhs; simp -implicitDefEqProofs (disch := omega) [Try.results3]
  rfl
end Go.Proofs.Ytpmilegookiifaa
