/-
  The reference's heads are as stated, for every list of flows. It holds with no condition but those that are written in each theorem.
-/
import Derived.Test.YtifkpaomhnlahaaA14
namespace Go.Proofs.Ytifkpaomhnlahaa
open Go Kern
theorem takeL_at {α : Type} : ∀ {n : Nat} {l r : List α} {i : Nat}, takeL n l = some r → i < n → l[i]? = r[i]?
  | 0, _, _, _, _, h => by omega
  | n + 1, [], r, _, h, _ => by cases h
  | n + 1, x :: l, r, i, h, hi => by
    obtain ⟨t, h1, h2⟩ := ob_eq (show ob (takeL n l) (fun t => some (x :: t)) = some r from h)
    cases h2
    cases i with
    | zero => rfl
    | succ i => simpa using takeL_at h1 (by omega)
section
variable {T : Tab} {self : Self} {f : Fr} {s : St} {ρ : Env} {H : Tree AObj}
@[simp] theorem act_max2 (x y : Operand) (tys : Array TypeId) : actO T self (.call ⟨.builtin .max, #[x, y], tys⟩) f s = pureR (vExt true x [y] f.eval s.heap) s := rfl
@[simp] theorem act_min2 (x y : Operand) (tys : Array TypeId) : actO T self (.call ⟨.builtin .min, #[x, y], tys⟩) f s = pureR (vExt false x [y] f.eval s.heap) s := rfl
@[simp] theorem vExt_one (mx : Bool) (x y : Operand) : vExt mx x [y] ρ H = ext2 mx (ρ x) (ρ y) := by
  show ob (ext2 mx (ρ x) (ρ y)) some = _
  cases ext2 mx (ρ x) (ρ y) <;> rfl
@[simp] theorem ext2_max (k : IntKind) (a b : Int) : ext2 true (.int k a) (.int k b) = some (.int k (max a b)) := by
  show some (Value.int k (bt (bt true (intLt a b) (intLt b a)) b a)) = _
  rw [intLt_eq, bt_true]
  by_cases h : a < b
  · rw [decide_eq_true h, bt_true, show max a b = b by omega]
  · rw [decide_eq_false h, bt_false, show max a b = a by omega]
@[simp] theorem ext2_min (k : IntKind) (a b : Int) : ext2 false (.int k a) (.int k b) = some (.int k (min a b)) := by
  show some (Value.int k (bt (bt false (intLt a b) (intLt b a)) b a)) = _
  rw [intLt_eq b a, bt_false]
  by_cases h : b < a
  · rw [decide_eq_true h, bt_true, show min a b = b by omega]
  · rw [decide_eq_false h, bt_false, show min a b = a by omega]
end
def relab (h : Nat → Int) (a b : Int) : Nat → Int := fun x => if h x = max a b then min a b else h x
def labStep (lo : Int) (h : Nat → Int) (i : Nat) (f : FlowD) : Nat → Int :=
  if f.me = true ∨ (i : Int) = lo then h else relab h (h (f.fr + 1).toNat) (h (f.to + 1).toNat)
def labF (lo : Int) : List FlowD → Nat → (Nat → Int) → (Nat → Int)
  | [], _, h => h
  | f :: r, i, h => labF lo r (i + 1) (labStep lo h i f)
theorem labF_take (lo : Int) : ∀ (fs : List FlowD) (i : Nat) (h : Nat → Int) (k : Nat) (f : FlowD), fs[k]? = some f → labF lo (fs.take (k + 1)) i h = labStep lo (labF lo (fs.take k) i h) (i + k) f
  | [], _, _, _, _, h => by simp at h
  | g :: r, i, h, 0, f, e => by simp at e; subst e; simp [labF]
  | g :: r, i, h, k + 1, f, e => by
    show labF lo (r.take (k + 1)) (i + 1) _ = labStep lo (labF lo (r.take k) (i + 1) _) (i + (k + 1)) f
    rw [labF_take lo r (i + 1) _ k f (by simpa using e)]
    rw [show i + 1 + k = i + (k + 1) by omega]
def cellsF (m : Nat) (h : Nat → Int) : List Value := (List.range m).map fun x : Nat => Value.int .i64 (h x)
theorem cellsF_get {m i : Nat} (h : Nat → Int) (hi : i < m) : (cellsF m h)[i]? = some (.int .i64 (h i)) := by simp [cellsF, hi]
theorem cellsF_length (m : Nat) (h : Nat → Int) : (cellsF m h).length = m := by simp [cellsF]
set_option maxRecDepth 100000 in
set_option maxHeartbeats 4000000 in
theorem refJoined_ev (n : Nat) (lo : Int) (v : Value) (fs : List FlowD) (s : St) (hn : n ≤ 8) (hf : FlAt s v fs) (hl : fs.length ≤ 1000) (hr : ∀ f ∈ fs, (-1 ≤ f.fr ∧ f.fr < n) ∧ (-1 ≤ f.to ∧ f.to < n)) :
    Ev TT 39 [plantV n v, .int .i64 lo] s fun r s' => Keep s s' ∧ IntsAt s' r ((List.range (n + 1)).map (labF lo fs 0 fun x => x)) := by
  obtain ⟨a, c, rfl⟩ := hf.shape
  rw [List.length_map] at hf ⊢
  unfold plantV
  refine Ev.intro (fn := Try.f39) rfl (by kernel_rfl) rfl rfl ?_
  with_reducible repeat first|apply Z0|apply Z1|apply Z2|apply Z3|apply Z4|apply Z5|refine Z6 rfl ?_|apply Z7|apply Z8|apply Z9|apply Z10|apply Z11|apply Z12|apply Z13|apply Z14|apply Z15|apply Z16
  with_reducible repeat first|apply Z0|apply Z1|apply Z2|apply Z3|apply Z4|apply Z5|refine Z6 rfl ?_|apply Z7|apply Z8|apply Z9|apply Z10|apply Z11|apply Z12|apply Z13|apply Z14|apply Z15|apply Z16
  refine Cd.reg (by kernel_rfl) (by conv => lhs; simp only [List.map_cons, List.map_nil]) (by conv => lhs; simp only [List.map_cons, List.map_nil, strip]) ?_
  apply Run.by_eq
  · intro self
    conv => lhs; simp -implicitDefEqProofs (maxSteps := 300000) (disch := omega) [-getElem?_pos, -getElem?_neg]
  try (with_reducible refine Run.ret ?_)
  with_reducible repeat first|apply Z0|apply Z1|apply Z2|apply Z3|apply Z4|apply Z5|refine Z6 rfl ?_|apply Z7|apply Z8|apply Z9|apply Z10|apply Z11|apply Z12|apply Z13|apply Z14|apply Z15|apply Z16
  with_reducible repeat first|apply Z0|apply Z1|apply Z2|apply Z3|apply Z4|apply Z5|refine Z6 rfl ?_|apply Z7|apply Z8|apply Z9|apply Z10|apply Z11|apply Z12|apply Z13|apply Z14|apply Z15|apply Z16
  refine Cd.reg (by kernel_rfl) (by conv => lhs; simp only [List.map_cons, List.map_nil]) (by conv => lhs; simp only [List.map_cons, List.map_nil, strip]) ?_
  apply Run.by_eq
  · intro self
    conv => lhs; simp -implicitDefEqProofs (maxSteps := 300000) (disch := omega) [-getElem?_pos, -getElem?_neg]
  try (with_reducible refine Run.ret ?_)
  with_reducible repeat first|apply Z0|apply Z1|apply Z2|apply Z3|apply Z4|apply Z5|refine Z6 rfl ?_|apply Z7|apply Z8|apply Z9|apply Z10|apply Z11|apply Z12|apply Z13|apply Z14|apply Z15|apply Z16
  with_reducible repeat first|apply Z0|apply Z1|apply Z2|apply Z3|apply Z4|apply Z5|refine Z6 rfl ?_|apply Z7|apply Z8|apply Z9|apply Z10|apply Z11|apply Z12|apply Z13|apply Z14|apply Z15|apply Z16
  refine Cd.reg (by kernel_rfl) (by conv => lhs; simp only [List.map_cons, List.map_nil]) (by conv => lhs; simp only [List.map_cons, List.map_nil, strip]) ?_
  apply Run.by_eq
  · intro self
    conv => lhs; simp -implicitDefEqProofs (maxSteps := 300000) (disch := omega) [-getElem?_pos, -getElem?_neg]
  try (with_reducible refine Run.ret ?_)
  with_reducible repeat first|apply Z0|apply Z1|apply Z2|apply Z3|apply Z4|apply Z5|refine Z6 rfl ?_|apply Z7|apply Z8|apply Z9|apply Z10|apply Z11|apply Z12|apply Z13|apply Z14|apply Z15|apply Z16
  refine Cd.inv (fun z f s' => ∃ k : Nat, k ≤ n + 1 ∧ z = n + 1 - k ∧ f.marks = [] ∧ f.get 6 = .int .i64 k ∧ f.get 1 = .int .i64 lo ∧ f.get 2 = .pointer (some ⟨s.next, 0, none⟩) ∧ Keep s s' ∧ s.next < s'.next ∧ s'.heap.get s.next = some (.cells [.int .i64 n, .slice a fs.length c] none) ∧ OwnU (s.next + 1) s' (f.get 5) ((List.range k).map fun x : Nat => (x : Int))) (n + 1) ?_ ?_
  · exact ⟨0, by omega, rfl, by simp, by simp, by simp, by simp, ⟨by (try simp only [pushed_next', upded_next']); omega, fun i hi => by simp -implicitDefEqProofs (disch := omega) []⟩, by simp, by simp -implicitDefEqProofs (disch := omega), .inl ⟨rfl, by simp⟩⟩
  rintro z f s' ⟨k, hk, rfl, hm, h6, h1, h2, hkp, hnx, hg0, hU⟩
  have hkpa := hkp.1
  have hkpb := hkp.2
  by_cases hlt : k < n + 1
  · have hkn : (k : Int) ≤ n := by omega
    have hrs : (List.range (k + 1)).map (fun x : Nat => (x : Int)) = (List.range k).map (fun x : Nat => (x : Int)) ++ [(k : Int)] := by rw [List.range_succ, List.map_append]; rfl
    with_reducible repeat first|apply Z0|apply Z1|apply Z2|apply Z3|apply Z4|apply Z5|refine Z6 rfl ?_|apply Z7|apply Z8|apply Z9|apply Z10|apply Z11|apply Z12|apply Z13|apply Z14|apply Z15|apply Z16
    refine Cd.reg (by kernel_rfl) (by conv => lhs; simp only [List.map_cons, List.map_nil]) (by conv => lhs; simp only [List.map_cons, List.map_nil, strip]) ?_
    apply Run.by_eq
    · intro self
      conv => lhs; simp -implicitDefEqProofs (maxSteps := 300000) (disch := omega) [-getElem?_pos, -getElem?_neg, h6, h2, hg0]
    try (with_reducible refine Run.ret ?_)
    with_reducible repeat first|apply Z0|apply Z1|apply Z2|apply Z3|apply Z4|apply Z5|refine Z6 rfl ?_|apply Z7|apply Z8|apply Z9|apply Z10|apply Z11|apply Z12|apply Z13|apply Z14|apply Z15|apply Z16
    with_reducible repeat first|apply Z0|apply Z1|apply Z2|apply Z3|apply Z4|apply Z5|refine Z6 rfl ?_|apply Z7|apply Z8|apply Z9|apply Z10|apply Z11|apply Z12|apply Z13|apply Z14|apply Z15|apply Z16
    apply Cd.ite rfl
    · conv => lhs; simp -implicitDefEqProofs (maxSteps := 300000) (disch := omega) [-getElem?_pos, -getElem?_neg]
    all_goals intro c0
    all_goals try (cases c0; done)
    all_goals try simp only [Bool.not_eq_true', Bool.not_eq_false', decide_eq_true_eq, decide_eq_false_iff_not] at c0
    all_goals with_reducible repeat first|apply Z0|apply Z1|apply Z2|apply Z3|apply Z4|apply Z5|refine Z6 rfl ?_|apply Z7|apply Z8|apply Z9|apply Z10|apply Z11|apply Z12|apply Z13|apply Z14|apply Z15|apply Z16
    · rcases hU with ⟨hce, hw⟩ | ⟨bu, hw, hne, hb1, hb2, hb3⟩
      · with_reducible repeat first|apply Z0|apply Z1|apply Z2|apply Z3|apply Z4|apply Z5|refine Z6 rfl ?_|apply Z7|apply Z8|apply Z9|apply Z10|apply Z11|apply Z12|apply Z13|apply Z14|apply Z15|apply Z16
        refine Cd.reg (by kernel_rfl) (by conv => lhs; simp only [List.map_cons, List.map_nil]) (by conv => lhs; simp only [List.map_cons, List.map_nil, strip]) ?_
        apply Run.by_eq
        · intro self
          conv => lhs; simp -implicitDefEqProofs (maxSteps := 300000) (disch := omega) [-getElem?_pos, -getElem?_neg, h6, hw]
        try (with_reducible refine Run.ret ?_)
        with_reducible repeat first|apply Z0|apply Z1|apply Z2|apply Z3|apply Z4|apply Z5|refine Z6 rfl ?_|apply Z7|apply Z8|apply Z9|apply Z10|apply Z11|apply Z12|apply Z13|apply Z14|apply Z15|apply Z16
        with_reducible repeat first|apply Z0|apply Z1|apply Z2|apply Z3|apply Z4|apply Z5|refine Z6 rfl ?_|apply Z7|apply Z8|apply Z9|apply Z10|apply Z11|apply Z12|apply Z13|apply Z14|apply Z15|apply Z16
        refine Cd.reg (by kernel_rfl) (by conv => lhs; simp only [List.map_cons, List.map_nil]) (by conv => lhs; simp only [List.map_cons, List.map_nil, strip]) ?_
        apply Run.by_eq
        · intro self
          conv => lhs; simp -implicitDefEqProofs (maxSteps := 300000) (disch := omega) [-getElem?_pos, -getElem?_neg, h6]
        try (with_reducible refine Run.ret ?_)
        with_reducible repeat first|apply Z0|apply Z1|apply Z2|apply Z3|apply Z4|apply Z5|refine Z6 rfl ?_|apply Z7|apply Z8|apply Z9|apply Z10|apply Z11|apply Z12|apply Z13|apply Z14|apply Z15|apply Z16
        refine LoopK.nm (n + 1 - (k + 1)) (by omega) ⟨k + 1, by omega, rfl, by simp [hm], by simp, by simp [h1], by simp [h2], ⟨by (try simp only [pushed_next', upded_next']); omega, fun i hi => by simp -implicitDefEqProofs (disch := omega) [hkpb]⟩, by (try simp only [pushed_next']); omega, by simp -implicitDefEqProofs (disch := omega) [hg0], ?_⟩
        rw [hrs, hce]
        exact .inr ⟨s'.next + 1, by simp, by simp, by omega, by simp, by simp⟩
      · rw [List.length_map, List.length_range] at hw
        with_reducible repeat first|apply Z0|apply Z1|apply Z2|apply Z3|apply Z4|apply Z5|refine Z6 rfl ?_|apply Z7|apply Z8|apply Z9|apply Z10|apply Z11|apply Z12|apply Z13|apply Z14|apply Z15|apply Z16
        refine Cd.reg (by kernel_rfl) (by conv => lhs; simp only [List.map_cons, List.map_nil]) (by conv => lhs; simp only [List.map_cons, List.map_nil, strip]) ?_
        apply Run.by_eq
        · intro self
          conv => lhs; simp -implicitDefEqProofs (maxSteps := 300000) (disch := omega) [-getElem?_pos, -getElem?_neg, h6, hw]
        try (with_reducible refine Run.ret ?_)
        with_reducible repeat first|apply Z0|apply Z1|apply Z2|apply Z3|apply Z4|apply Z5|refine Z6 rfl ?_|apply Z7|apply Z8|apply Z9|apply Z10|apply Z11|apply Z12|apply Z13|apply Z14|apply Z15|apply Z16
        apply Run.by_eq
        · intro self
          rw [appV_moreE (size := 1) (n := k) (old := ((List.range k).map fun x : Nat => (x : Int)).map (Value.int .i64)) ?happ1 (by simp) (by omega)]
          simp -implicitDefEqProofs (disch := omega) [hb3]
        apply Run.by_eq
        · intro self
          conv => lhs; simp -implicitDefEqProofs (maxSteps := 300000) (disch := omega) [-getElem?_pos, -getElem?_neg, hb3]
        try (with_reducible refine Run.ret ?_)
        with_reducible repeat first|apply Z0|apply Z1|apply Z2|apply Z3|apply Z4|apply Z5|refine Z6 rfl ?_|apply Z7|apply Z8|apply Z9|apply Z10|apply Z11|apply Z12|apply Z13|apply Z14|apply Z15|apply Z16
        with_reducible repeat first|apply Z0|apply Z1|apply Z2|apply Z3|apply Z4|apply Z5|refine Z6 rfl ?_|apply Z7|apply Z8|apply Z9|apply Z10|apply Z11|apply Z12|apply Z13|apply Z14|apply Z15|apply Z16
        refine Cd.reg (by kernel_rfl) (by conv => lhs; simp only [List.map_cons, List.map_nil]) (by conv => lhs; simp only [List.map_cons, List.map_nil, strip]) ?_
        apply Run.by_eq
        · intro self
          conv => lhs; simp -implicitDefEqProofs (maxSteps := 300000) (disch := omega) [-getElem?_pos, -getElem?_neg, h6]
        try (with_reducible refine Run.ret ?_)
        with_reducible repeat first|apply Z0|apply Z1|apply Z2|apply Z3|apply Z4|apply Z5|refine Z6 rfl ?_|apply Z7|apply Z8|apply Z9|apply Z10|apply Z11|apply Z12|apply Z13|apply Z14|apply Z15|apply Z16
        refine LoopK.nm (n + 1 - (k + 1)) (by omega) ⟨k + 1, by omega, rfl, by simp [hm], by simp, by simp [h1], by simp [h2], ⟨by (try simp only [pushed_next', upded_next']); omega, fun i hi => by simp -implicitDefEqProofs (disch := omega) [hkpb]⟩, by (try simp only [pushed_next', upded_next']); omega, by simp -implicitDefEqProofs (disch := omega) [hg0], ?_⟩
        rw [hrs]
        exact .inr ⟨s'.next + 1, by simp, by simp, by omega, by simp, by simp⟩
    · simp at c0; omega
  obtain rfl : k = n + 1 := by omega
  rcases hU with ⟨hce, hw⟩ | ⟨bu, hw, hne, hb1, hb2, hb3⟩
  · simp at hce
  rw [List.length_map, List.length_range] at hw
  have hb4 : s'.heap.get bu = some (.cells (cellsF (n + 1) fun x => x) (some 1)) := by rw [hb3]; simp [cellsF, Function.comp_def]
  clear hb3
  have hkn : ¬ ((n : Int) + 1) ≤ n := by omega
  with_reducible repeat first|apply Z0|apply Z1|apply Z2|apply Z3|apply Z4|apply Z5|refine Z6 rfl ?_|apply Z7|apply Z8|apply Z9|apply Z10|apply Z11|apply Z12|apply Z13|apply Z14|apply Z15|apply Z16
  refine Cd.reg (by kernel_rfl) (by conv => lhs; simp only [List.map_cons, List.map_nil]) (by conv => lhs; simp only [List.map_cons, List.map_nil, strip]) ?_
  apply Run.by_eq
  · intro self
    conv => lhs; simp -implicitDefEqProofs (maxSteps := 300000) (disch := omega) [-getElem?_pos, -getElem?_neg, h6, h2, hg0, hkn]
  try (with_reducible refine Run.ret ?_)
  with_reducible repeat first|apply Z0|apply Z1|apply Z2|apply Z3|apply Z4|apply Z5|refine Z6 rfl ?_|apply Z7|apply Z8|apply Z9|apply Z10|apply Z11|apply Z12|apply Z13|apply Z14|apply Z15|apply Z16
  with_reducible repeat first|apply Z0|apply Z1|apply Z2|apply Z3|apply Z4|apply Z5|refine Z6 rfl ?_|apply Z7|apply Z8|apply Z9|apply Z10|apply Z11|apply Z12|apply Z13|apply Z14|apply Z15|apply Z16
  apply Cd.ite rfl
  · conv => lhs; simp -implicitDefEqProofs (maxSteps := 300000) (disch := omega) [-getElem?_pos, -getElem?_neg]
  all_goals intro c0
  all_goals try (cases c0; done)
  all_goals try simp only [Bool.not_eq_true', Bool.not_eq_false', decide_eq_true_eq, decide_eq_false_iff_not] at c0
  all_goals with_reducible repeat first|apply Z0|apply Z1|apply Z2|apply Z3|apply Z4|apply Z5|refine Z6 rfl ?_|apply Z7|apply Z8|apply Z9|apply Z10|apply Z11|apply Z12|apply Z13|apply Z14|apply Z15|apply Z16
  with_reducible repeat first|apply Z0|apply Z1|apply Z2|apply Z3|apply Z4|apply Z5|refine Z6 rfl ?_|apply Z7|apply Z8|apply Z9|apply Z10|apply Z11|apply Z12|apply Z13|apply Z14|apply Z15|apply Z16
  refine Cd.reg (by kernel_rfl) (by conv => lhs; simp only [List.map_cons, List.map_nil]) (by conv => lhs; simp only [List.map_cons, List.map_nil, strip]) ?_
  apply Run.by_eq
  · intro self
    conv => lhs; simp -implicitDefEqProofs (maxSteps := 300000) (disch := omega) [-getElem?_pos, -getElem?_neg]
  try (with_reducible refine Run.ret ?_)
  with_reducible repeat first|apply Z0|apply Z1|apply Z2|apply Z3|apply Z4|apply Z5|refine Z6 rfl ?_|apply Z7|apply Z8|apply Z9|apply Z10|apply Z11|apply Z12|apply Z13|apply Z14|apply Z15|apply Z16
  refine Cd.inv (fun z f3 s3 => ∃ j : Nat, j ≤ fs.length ∧ z = fs.length - j ∧ f3.marks = [] ∧ f3.get 7 = .int .i64 j ∧ f3.get 1 = .int .i64 lo ∧ f3.get 2 = .pointer (some ⟨s.next, 0, none⟩) ∧ f3.get 5 = .slice (some ⟨bu, 0, none⟩) (n + 1) (n + 1) ∧ Keep s s3 ∧ bu < s3.next ∧ s3.heap.get s.next = some (.cells [.int .i64 n, .slice a fs.length c] none) ∧ s3.heap.get bu = some (.cells (cellsF (n + 1) (labF lo (fs.take j) 0 fun x => x)) (some 1))) fs.length ?_ ?_
  · exact ⟨0, by omega, rfl, by simp [hm], by simp, by simp [h1], by simp [h2], by simp [hw], hkp, hb2, hg0, hb4⟩
  clear hkp hkpa hkpb hg0 hb4 hnx
  rintro z f3 s3 ⟨j, hj, rfl, gm3, g7, g1, g2, g5, hkp, hnx, hg0, hb4⟩
  have hkpa := hkp.1
  have hkpb := hkp.2
  by_cases hlt : j < fs.length
  · obtain ⟨g, hg⟩ : ∃ g, fs[j]? = some g := ⟨fs[j], by simp [hlt]⟩
    have hstep := labF_take lo fs 0 (fun x => (x : Int)) j g hg
    rw [Nat.zero_add] at hstep
    generalize labF lo (fs.take j) 0 (fun x => (x : Int)) = h at hstep hb4
    obtain ⟨⟨r1, r2⟩, r3, r4⟩ := hr g (List.mem_of_getElem? hg)
    obtain ⟨b, off, o, cs, gg, rfl, hb, ho, hc, ht⟩ := FlAt.at hf hg
    rw [← hkpb _ hb] at ho
    have t0 := takeL_at ht (i := 0) (by omega)
    have t1 := takeL_at ht (i := 1) (by omega)
    have t2 := takeL_at ht (i := 2) (by omega)
    obtain ⟨g0, g1', gm, m⟩ := g
    rw [List.getElem?_drop] at t0 t1 t2
    simp only [FlowD.cs, Nat.add_zero, List.getElem?_cons_zero, List.getElem?_cons_succ] at t0 t1 t2
    simp only [] at r1 r2 r3 r4
    have n0 := natOf_pos .i64 (show 0 ≤ g0 + 1 by omega)
    have n1 := natOf_pos .i64 (show 0 ≤ g1' + 1 by omega)
    with_reducible repeat first|apply Z0|apply Z1|apply Z2|apply Z3|apply Z4|apply Z5|refine Z6 rfl ?_|apply Z7|apply Z8|apply Z9|apply Z10|apply Z11|apply Z12|apply Z13|apply Z14|apply Z15|apply Z16
    refine Cd.reg (by kernel_rfl) (by conv => lhs; simp only [List.map_cons, List.map_nil]) (by conv => lhs; simp only [List.map_cons, List.map_nil, strip]) ?_
    apply Run.by_eq
    · intro self
      conv => lhs; simp -implicitDefEqProofs (maxSteps := 300000) (disch := omega) [-getElem?_pos, -getElem?_neg, g7, g2, hg0]
    try (with_reducible refine Run.ret ?_)
    with_reducible repeat first|apply Z0|apply Z1|apply Z2|apply Z3|apply Z4|apply Z5|refine Z6 rfl ?_|apply Z7|apply Z8|apply Z9|apply Z10|apply Z11|apply Z12|apply Z13|apply Z14|apply Z15|apply Z16
    with_reducible repeat first|apply Z0|apply Z1|apply Z2|apply Z3|apply Z4|apply Z5|refine Z6 rfl ?_|apply Z7|apply Z8|apply Z9|apply Z10|apply Z11|apply Z12|apply Z13|apply Z14|apply Z15|apply Z16
    apply Cd.ite rfl
    · conv => lhs; simp -implicitDefEqProofs (maxSteps := 300000) (disch := omega) [-getElem?_pos, -getElem?_neg]
    all_goals intro c1
    all_goals try (cases c1; done)
    all_goals try simp only [Bool.not_eq_true', Bool.not_eq_false', decide_eq_true_eq, decide_eq_false_iff_not] at c1
    all_goals with_reducible repeat first|apply Z0|apply Z1|apply Z2|apply Z3|apply Z4|apply Z5|refine Z6 rfl ?_|apply Z7|apply Z8|apply Z9|apply Z10|apply Z11|apply Z12|apply Z13|apply Z14|apply Z15|apply Z16
    · by_cases hcase : gm = true ∨ (j : Int) = lo
      · have hstay : labStep lo h j ⟨g0, g1', gm, m⟩ = h := by unfold labStep; rw [if_pos hcase]
        rw [hstay] at hstep
        have hfin : ∀ f4 : Fr, f4.marks = [] → f4.get 7 = .int .i64 ((j : Int) + 1) → f4.get 1 = .int .i64 lo → f4.get 2 = .pointer (some ⟨s.next, 0, none⟩) → f4.get 5 = .slice (some ⟨bu, 0, none⟩) (n + 1) (n + 1) → True := fun _ _ _ _ _ _ => trivial
        clear hfin
        cases gm with
        | true =>
          with_reducible repeat first|apply Z0|apply Z1|apply Z2|apply Z3|apply Z4|apply Z5|refine Z6 rfl ?_|apply Z7|apply Z8|apply Z9|apply Z10|apply Z11|apply Z12|apply Z13|apply Z14|apply Z15|apply Z16
          refine Cd.reg (by kernel_rfl) (by conv => lhs; simp only [List.map_cons, List.map_nil]) (by conv => lhs; simp only [List.map_cons, List.map_nil, strip]) ?_
          apply Run.by_eq
          · intro self
            conv => lhs; simp -implicitDefEqProofs (maxSteps := 300000) (disch := omega) [-getElem?_pos, -getElem?_neg, g7, g2, hg0, ho, hc, t2, hlt]
          try (with_reducible refine Run.ret ?_)
          with_reducible repeat first|apply Z0|apply Z1|apply Z2|apply Z3|apply Z4|apply Z5|refine Z6 rfl ?_|apply Z7|apply Z8|apply Z9|apply Z10|apply Z11|apply Z12|apply Z13|apply Z14|apply Z15|apply Z16
          with_reducible repeat first|apply Z0|apply Z1|apply Z2|apply Z3|apply Z4|apply Z5|refine Z6 rfl ?_|apply Z7|apply Z8|apply Z9|apply Z10|apply Z11|apply Z12|apply Z13|apply Z14|apply Z15|apply Z16
          apply Cd.ite rfl
          · conv => lhs; simp -implicitDefEqProofs (maxSteps := 300000) (disch := omega) [-getElem?_pos, -getElem?_neg]
          all_goals intro c2
          all_goals try (cases c2; done)
          all_goals try simp only [Bool.not_eq_true', Bool.not_eq_false', decide_eq_true_eq, decide_eq_false_iff_not] at c2
          all_goals with_reducible repeat first|apply Z0|apply Z1|apply Z2|apply Z3|apply Z4|apply Z5|refine Z6 rfl ?_|apply Z7|apply Z8|apply Z9|apply Z10|apply Z11|apply Z12|apply Z13|apply Z14|apply Z15|apply Z16
          with_reducible repeat first|apply Z0|apply Z1|apply Z2|apply Z3|apply Z4|apply Z5|refine Z6 rfl ?_|apply Z7|apply Z8|apply Z9|apply Z10|apply Z11|apply Z12|apply Z13|apply Z14|apply Z15|apply Z16
          refine Cd.reg (by kernel_rfl) (by conv => lhs; simp only [List.map_cons, List.map_nil]) (by conv => lhs; simp only [List.map_cons, List.map_nil, strip]) ?_
          apply Run.by_eq
          · intro self
            conv => lhs; simp -implicitDefEqProofs (maxSteps := 300000) (disch := omega) [-getElem?_pos, -getElem?_neg, g7]
          try (with_reducible refine Run.ret ?_)
          with_reducible repeat first|apply Z0|apply Z1|apply Z2|apply Z3|apply Z4|apply Z5|refine Z6 rfl ?_|apply Z7|apply Z8|apply Z9|apply Z10|apply Z11|apply Z12|apply Z13|apply Z14|apply Z15|apply Z16
          exact LoopK.nm (fs.length - (j + 1)) (by omega) ⟨j + 1, by omega, rfl, by simp [gm3], by simp, by simp [g1], by simp [g2], by simp [g5], hkp, hnx, hg0, by rw [hstep]; exact hb4⟩
        | false =>
          have heq : (j : Int) = lo := by simpa using hcase
          subst heq
          with_reducible repeat first|apply Z0|apply Z1|apply Z2|apply Z3|apply Z4|apply Z5|refine Z6 rfl ?_|apply Z7|apply Z8|apply Z9|apply Z10|apply Z11|apply Z12|apply Z13|apply Z14|apply Z15|apply Z16
          refine Cd.reg (by kernel_rfl) (by conv => lhs; simp only [List.map_cons, List.map_nil]) (by conv => lhs; simp only [List.map_cons, List.map_nil, strip]) ?_
          apply Run.by_eq
          · intro self
            conv => lhs; simp -implicitDefEqProofs (maxSteps := 300000) (disch := omega) [-getElem?_pos, -getElem?_neg, g7, g2, g1, hg0, ho, hc, t2, hlt]
          try (with_reducible refine Run.ret ?_)
          with_reducible repeat first|apply Z0|apply Z1|apply Z2|apply Z3|apply Z4|apply Z5|refine Z6 rfl ?_|apply Z7|apply Z8|apply Z9|apply Z10|apply Z11|apply Z12|apply Z13|apply Z14|apply Z15|apply Z16
          with_reducible repeat first|apply Z0|apply Z1|apply Z2|apply Z3|apply Z4|apply Z5|refine Z6 rfl ?_|apply Z7|apply Z8|apply Z9|apply Z10|apply Z11|apply Z12|apply Z13|apply Z14|apply Z15|apply Z16
          apply Cd.ite rfl
          · conv => lhs; simp -implicitDefEqProofs (maxSteps := 300000) (disch := omega) [-getElem?_pos, -getElem?_neg]
          all_goals intro c2
          all_goals try (cases c2; done)
          all_goals try simp only [Bool.not_eq_true', Bool.not_eq_false', decide_eq_true_eq, decide_eq_false_iff_not] at c2
          all_goals with_reducible repeat first|apply Z0|apply Z1|apply Z2|apply Z3|apply Z4|apply Z5|refine Z6 rfl ?_|apply Z7|apply Z8|apply Z9|apply Z10|apply Z11|apply Z12|apply Z13|apply Z14|apply Z15|apply Z16
          with_reducible repeat first|apply Z0|apply Z1|apply Z2|apply Z3|apply Z4|apply Z5|refine Z6 rfl ?_|apply Z7|apply Z8|apply Z9|apply Z10|apply Z11|apply Z12|apply Z13|apply Z14|apply Z15|apply Z16
          refine Cd.reg (by kernel_rfl) (by conv => lhs; simp only [List.map_cons, List.map_nil]) (by conv => lhs; simp only [List.map_cons, List.map_nil, strip]) ?_
          apply Run.by_eq
          · intro self
            conv => lhs; simp -implicitDefEqProofs (maxSteps := 300000) (disch := omega) [-getElem?_pos, -getElem?_neg, g7]
          try (with_reducible refine Run.ret ?_)
          with_reducible repeat first|apply Z0|apply Z1|apply Z2|apply Z3|apply Z4|apply Z5|refine Z6 rfl ?_|apply Z7|apply Z8|apply Z9|apply Z10|apply Z11|apply Z12|apply Z13|apply Z14|apply Z15|apply Z16
          exact LoopK.nm (fs.length - (j + 1)) (by omega) ⟨j + 1, by omega, rfl, by simp [gm3], by simp, by simp [g1], by simp [g2], by simp [g5], hkp, hnx, hg0, by rw [hstep]; exact hb4⟩
      · have hgo : labStep lo h j ⟨g0, g1', gm, m⟩ = relab h (h (g0 + 1).toNat) (h (g1' + 1).toNat) := by unfold labStep; rw [if_neg hcase]
        rw [hgo] at hstep
        obtain ⟨rfl, hne⟩ : gm = false ∧ ¬ (j : Int) = lo := by cases gm <;> simp_all
        have ga := cellsF_get h (show (g0 + 1).toNat < n + 1 by omega)
        have gb := cellsF_get h (show (g1' + 1).toNat < n + 1 by omega)
        with_reducible repeat first|apply Z0|apply Z1|apply Z2|apply Z3|apply Z4|apply Z5|refine Z6 rfl ?_|apply Z7|apply Z8|apply Z9|apply Z10|apply Z11|apply Z12|apply Z13|apply Z14|apply Z15|apply Z16
        refine Cd.reg (by kernel_rfl) (by conv => lhs; simp only [List.map_cons, List.map_nil]) (by conv => lhs; simp only [List.map_cons, List.map_nil, strip]) ?_
        apply Run.by_eq
        · intro self
          conv => lhs; simp -implicitDefEqProofs (maxSteps := 300000) (disch := omega) [-getElem?_pos, -getElem?_neg, g7, g2, g1, hg0, ho, hc, t2, hlt, hne]
        try (with_reducible refine Run.ret ?_)
        with_reducible repeat first|apply Z0|apply Z1|apply Z2|apply Z3|apply Z4|apply Z5|refine Z6 rfl ?_|apply Z7|apply Z8|apply Z9|apply Z10|apply Z11|apply Z12|apply Z13|apply Z14|apply Z15|apply Z16
        with_reducible repeat first|apply Z0|apply Z1|apply Z2|apply Z3|apply Z4|apply Z5|refine Z6 rfl ?_|apply Z7|apply Z8|apply Z9|apply Z10|apply Z11|apply Z12|apply Z13|apply Z14|apply Z15|apply Z16
        apply Cd.ite rfl
        · conv => lhs; simp -implicitDefEqProofs (maxSteps := 300000) (disch := omega) [-getElem?_pos, -getElem?_neg]
        all_goals intro c2
        all_goals try (cases c2; done)
        all_goals try simp only [Bool.not_eq_true', Bool.not_eq_false', decide_eq_true_eq, decide_eq_false_iff_not] at c2
        all_goals with_reducible repeat first|apply Z0|apply Z1|apply Z2|apply Z3|apply Z4|apply Z5|refine Z6 rfl ?_|apply Z7|apply Z8|apply Z9|apply Z10|apply Z11|apply Z12|apply Z13|apply Z14|apply Z15|apply Z16
        with_reducible repeat first|apply Z0|apply Z1|apply Z2|apply Z3|apply Z4|apply Z5|refine Z6 rfl ?_|apply Z7|apply Z8|apply Z9|apply Z10|apply Z11|apply Z12|apply Z13|apply Z14|apply Z15|apply Z16
        refine Cd.drawnG (pl := [(0, 0, false, false), (1, 0, false, false), (2, 2, false, false), (3, 0, false, false), (4, 14, false, false), (5, 30, false, false), (6, 62, false, false), (7, 126, false, false), (8, 255, false, false), (9, 511, false, false), (10, 0, false, false), (11, 0, false, false), (12, 2048, false, false), (13, 0, false, false), (14, 14336, false, false), (15, 30720, false, false), (16, 63488, false, false), (17, 129024, false, false), (18, 261120, false, false), (19, 523264, false, false), (20, 1023, false, false), (21, 2097151, false, false)]) (by kernel_rfl) (by decide) (by conv => lhs; simp only [List.map_cons, List.map_nil]) (by conv => lhs; simp [strip, orderedG]) ?_
        apply Run.by_eq
        · intro self
          conv => lhs; simp -implicitDefEqProofs (maxSteps := 300000) (disch := omega) [-getElem?_pos, -getElem?_neg, g7, g2, g5, hg0, ho, hc, t0, t1, hlt, n0, n1, hb4, ga, gb]
        try (with_reducible refine Run.ret ?_)
        with_reducible repeat first|apply Z0|apply Z1|apply Z2|apply Z3|apply Z4|apply Z5|refine Z6 rfl ?_|apply Z7|apply Z8|apply Z9|apply Z10|apply Z11|apply Z12|apply Z13|apply Z14|apply Z15|apply Z16
        with_reducible repeat first|apply Z0|apply Z1|apply Z2|apply Z3|apply Z4|apply Z5|refine Z6 rfl ?_|apply Z7|apply Z8|apply Z9|apply Z10|apply Z11|apply Z12|apply Z13|apply Z14|apply Z15|apply Z16
        refine Cd.reg (by kernel_rfl) (by conv => lhs; simp only [List.map_cons, List.map_nil]) (by conv => lhs; simp only [List.map_cons, List.map_nil, strip]) ?_
        apply Run.by_eq
        · intro self
          conv => lhs; simp -implicitDefEqProofs (maxSteps := 300000) (disch := omega) [-getElem?_pos, -getElem?_neg]
        try (with_reducible refine Run.ret ?_)
        with_reducible repeat first|apply Z0|apply Z1|apply Z2|apply Z3|apply Z4|apply Z5|refine Z6 rfl ?_|apply Z7|apply Z8|apply Z9|apply Z10|apply Z11|apply Z12|apply Z13|apply Z14|apply Z15|apply Z16
        generalize h (g0 + 1).toNat = A at hstep
        generalize h (g1' + 1).toNat = B at hstep
        refine Cd.inv (fun z f4 s4 => ∃ i : Nat, i ≤ n + 1 ∧ z = n + 1 - i ∧ f4.marks = [] ∧ f4.get 10 = .int .i64 i ∧ f4.get 8 = .int .i64 A ∧ f4.get 9 = .int .i64 B ∧ f4.get 7 = .int .i64 j ∧ f4.get 1 = .int .i64 lo ∧ f4.get 2 = .pointer (some ⟨s.next, 0, none⟩) ∧ f4.get 5 = .slice (some ⟨bu, 0, none⟩) (n + 1) (n + 1) ∧ Keep s s4 ∧ bu < s4.next ∧ s4.heap.get s.next = some (.cells [.int .i64 n, .slice (some ⟨b, off, none⟩) fs.length c] none) ∧ s4.heap.get bu = some (.cells (cellsF (n + 1) (fun x => if x < i then relab h A B x else h x)) (some 1))) (n + 1) ?_ ?_
        · exact ⟨0, by omega, rfl, by simp [gm3], by simp, by simp, by simp, by simp [g7], by simp [g1], by simp [g2], by simp [g5], hkp, hnx, hg0, by simpa using hb4⟩
        clear hb4 hg0 hkp hkpa hkpb hnx ho
        rintro z f4 s4 ⟨i, hi, rfl, gm4, q10, q8, q9, q7, q1, q2, q5, hkp, hnx, hg0, hb4⟩
        have hkpa := hkp.1
        have hkpb := hkp.2
        by_cases hin : i < n + 1
        · have gi := cellsF_get (fun x => if x < i then relab h A B x else h x) hin
          simp only [Nat.lt_irrefl, if_false] at gi
          have hlen : (cellsF (n + 1) (fun x => if x < i then relab h A B x else h x)).length = n + 1 := cellsF_length _ _
          with_reducible repeat first|apply Z0|apply Z1|apply Z2|apply Z3|apply Z4|apply Z5|refine Z6 rfl ?_|apply Z7|apply Z8|apply Z9|apply Z10|apply Z11|apply Z12|apply Z13|apply Z14|apply Z15|apply Z16
          refine Cd.reg (by kernel_rfl) (by conv => lhs; simp only [List.map_cons, List.map_nil]) (by conv => lhs; simp only [List.map_cons, List.map_nil, strip]) ?_
          apply Run.by_eq
          · intro self
            conv => lhs; simp -implicitDefEqProofs (maxSteps := 300000) (disch := omega) [-getElem?_pos, -getElem?_neg, q10, q5]
          try (with_reducible refine Run.ret ?_)
          with_reducible repeat first|apply Z0|apply Z1|apply Z2|apply Z3|apply Z4|apply Z5|refine Z6 rfl ?_|apply Z7|apply Z8|apply Z9|apply Z10|apply Z11|apply Z12|apply Z13|apply Z14|apply Z15|apply Z16
          with_reducible repeat first|apply Z0|apply Z1|apply Z2|apply Z3|apply Z4|apply Z5|refine Z6 rfl ?_|apply Z7|apply Z8|apply Z9|apply Z10|apply Z11|apply Z12|apply Z13|apply Z14|apply Z15|apply Z16
          apply Cd.ite rfl
          · conv => lhs; simp -implicitDefEqProofs (maxSteps := 300000) (disch := omega) [-getElem?_pos, -getElem?_neg]
          all_goals intro c3
          all_goals try (cases c3; done)
          all_goals try simp only [Bool.not_eq_true', Bool.not_eq_false', decide_eq_true_eq, decide_eq_false_iff_not] at c3
          all_goals with_reducible repeat first|apply Z0|apply Z1|apply Z2|apply Z3|apply Z4|apply Z5|refine Z6 rfl ?_|apply Z7|apply Z8|apply Z9|apply Z10|apply Z11|apply Z12|apply Z13|apply Z14|apply Z15|apply Z16
          · with_reducible repeat first|apply Z0|apply Z1|apply Z2|apply Z3|apply Z4|apply Z5|refine Z6 rfl ?_|apply Z7|apply Z8|apply Z9|apply Z10|apply Z11|apply Z12|apply Z13|apply Z14|apply Z15|apply Z16
            refine Cd.reg (by kernel_rfl) (by conv => lhs; simp only [List.map_cons, List.map_nil]) (by conv => lhs; simp only [List.map_cons, List.map_nil, strip]) ?_
            apply Run.by_eq
            · intro self
              conv => lhs; simp -implicitDefEqProofs (maxSteps := 300000) (disch := omega) [-getElem?_pos, -getElem?_neg, q10, q5, q8, q9, hb4, gi, hin]
            try (with_reducible refine Run.ret ?_)
            with_reducible repeat first|apply Z0|apply Z1|apply Z2|apply Z3|apply Z4|apply Z5|refine Z6 rfl ?_|apply Z7|apply Z8|apply Z9|apply Z10|apply Z11|apply Z12|apply Z13|apply Z14|apply Z15|apply Z16
            by_cases hmx : h i = max A B
            · have hput := putL_set (Value.int .i64 (min A B)) i (cellsF (n + 1) (fun x => if x < i then relab h A B x else h x)) (by rw [hlen]; exact hin)
              rw [show (cellsF (n + 1) (fun x => if x < i then relab h A B x else h x)).set i (.int .i64 (min A B)) = cellsF (n + 1) (fun x => if x < i + 1 then relab h A B x else h x) from range_set (h := fun x => if x < i + 1 then relab h A B x else h x) hin (fun x _ hx => by by_cases e : x < i <;> simp [e] <;> omega) (by simp [relab, hmx])] at hput
              with_reducible repeat first|apply Z0|apply Z1|apply Z2|apply Z3|apply Z4|apply Z5|refine Z6 rfl ?_|apply Z7|apply Z8|apply Z9|apply Z10|apply Z11|apply Z12|apply Z13|apply Z14|apply Z15|apply Z16
              apply Cd.ite rfl
              · conv => lhs; simp -implicitDefEqProofs (maxSteps := 300000) (disch := omega) [-getElem?_pos, -getElem?_neg, hmx]
              all_goals intro c4
              all_goals try (cases c4; done)
              all_goals try simp only [Bool.not_eq_true', Bool.not_eq_false', decide_eq_true_eq, decide_eq_false_iff_not] at c4
              all_goals with_reducible repeat first|apply Z0|apply Z1|apply Z2|apply Z3|apply Z4|apply Z5|refine Z6 rfl ?_|apply Z7|apply Z8|apply Z9|apply Z10|apply Z11|apply Z12|apply Z13|apply Z14|apply Z15|apply Z16
              with_reducible repeat first|apply Z0|apply Z1|apply Z2|apply Z3|apply Z4|apply Z5|refine Z6 rfl ?_|apply Z7|apply Z8|apply Z9|apply Z10|apply Z11|apply Z12|apply Z13|apply Z14|apply Z15|apply Z16
              refine Cd.reg (by kernel_rfl) (by conv => lhs; simp only [List.map_cons, List.map_nil]) (by conv => lhs; simp only [List.map_cons, List.map_nil, strip]) ?_
              apply Run.by_eq
              · intro self
                conv => lhs; simp -implicitDefEqProofs (maxSteps := 300000) (disch := omega) [-getElem?_pos, -getElem?_neg, q10, q5, q8, q9, hb4, hput, hin]
              try (with_reducible refine Run.ret ?_)
              with_reducible repeat first|apply Z0|apply Z1|apply Z2|apply Z3|apply Z4|apply Z5|refine Z6 rfl ?_|apply Z7|apply Z8|apply Z9|apply Z10|apply Z11|apply Z12|apply Z13|apply Z14|apply Z15|apply Z16
              with_reducible repeat first|apply Z0|apply Z1|apply Z2|apply Z3|apply Z4|apply Z5|refine Z6 rfl ?_|apply Z7|apply Z8|apply Z9|apply Z10|apply Z11|apply Z12|apply Z13|apply Z14|apply Z15|apply Z16
              refine Cd.reg (by kernel_rfl) (by conv => lhs; simp only [List.map_cons, List.map_nil]) (by conv => lhs; simp only [List.map_cons, List.map_nil, strip]) ?_
              apply Run.by_eq
              · intro self
                conv => lhs; simp -implicitDefEqProofs (maxSteps := 300000) (disch := omega) [-getElem?_pos, -getElem?_neg, q10]
              try (with_reducible refine Run.ret ?_)
              with_reducible repeat first|apply Z0|apply Z1|apply Z2|apply Z3|apply Z4|apply Z5|refine Z6 rfl ?_|apply Z7|apply Z8|apply Z9|apply Z10|apply Z11|apply Z12|apply Z13|apply Z14|apply Z15|apply Z16
              refine LoopK.nm (n + 1 - (i + 1)) (by omega) ⟨i + 1, by omega, rfl, by simp [gm4], by simp, by simp [q8], by simp [q9], by simp [q7], by simp [q1], by simp [q2], by simp [q5], ⟨by (try simp only [pushed_next', upded_next']); omega, fun i hi => by simp -implicitDefEqProofs (disch := omega) [hkpb]⟩, by (try simp only [upded_next']); omega, ?_, ?_⟩
              · rw [get_upded_other _ _ _ _ (by omega)]; exact hg0
              · rw [get_upded_same]
            · have hsame : cellsF (n + 1) (fun x => if x < i + 1 then relab h A B x else h x) = cellsF (n + 1) (fun x => if x < i then relab h A B x else h x) := by
                unfold cellsF
                apply List.map_congr_left
                intro x _
                by_cases e : x < i
                · simp [e, show x < i + 1 by omega]
                · by_cases e2 : x = i
                  · subst e2; simp [relab, hmx]
                  · simp [e, show ¬ x < i + 1 by omega]
              with_reducible repeat first|apply Z0|apply Z1|apply Z2|apply Z3|apply Z4|apply Z5|refine Z6 rfl ?_|apply Z7|apply Z8|apply Z9|apply Z10|apply Z11|apply Z12|apply Z13|apply Z14|apply Z15|apply Z16
              apply Cd.ite rfl
              · conv => lhs; simp -implicitDefEqProofs (maxSteps := 300000) (disch := omega) [-getElem?_pos, -getElem?_neg, hmx]
              all_goals intro c4
              all_goals try (cases c4; done)
              all_goals try simp only [Bool.not_eq_true', Bool.not_eq_false', decide_eq_true_eq, decide_eq_false_iff_not] at c4
              all_goals with_reducible repeat first|apply Z0|apply Z1|apply Z2|apply Z3|apply Z4|apply Z5|refine Z6 rfl ?_|apply Z7|apply Z8|apply Z9|apply Z10|apply Z11|apply Z12|apply Z13|apply Z14|apply Z15|apply Z16
              with_reducible repeat first|apply Z0|apply Z1|apply Z2|apply Z3|apply Z4|apply Z5|refine Z6 rfl ?_|apply Z7|apply Z8|apply Z9|apply Z10|apply Z11|apply Z12|apply Z13|apply Z14|apply Z15|apply Z16
              refine Cd.reg (by kernel_rfl) (by conv => lhs; simp only [List.map_cons, List.map_nil]) (by conv => lhs; simp only [List.map_cons, List.map_nil, strip]) ?_
              apply Run.by_eq
              · intro self
                conv => lhs; simp -implicitDefEqProofs (maxSteps := 300000) (disch := omega) [-getElem?_pos, -getElem?_neg, q10]
              try (with_reducible refine Run.ret ?_)
              with_reducible repeat first|apply Z0|apply Z1|apply Z2|apply Z3|apply Z4|apply Z5|refine Z6 rfl ?_|apply Z7|apply Z8|apply Z9|apply Z10|apply Z11|apply Z12|apply Z13|apply Z14|apply Z15|apply Z16
              exact LoopK.nm (n + 1 - (i + 1)) (by omega) ⟨i + 1, by omega, rfl, by simp [gm4], by simp, by simp [q8], by simp [q9], by simp [q7], by simp [q1], by simp [q2], by simp [q5], hkp, hnx, hg0, by rw [hsame]; exact hb4⟩
          · simp at c3; omega
        · obtain rfl : i = n + 1 := by omega
          have hall : cellsF (n + 1) (fun x => if x < n + 1 then relab h A B x else h x) = cellsF (n + 1) (relab h A B) := by
            unfold cellsF
            apply List.map_congr_left
            intro x hx
            have : x < n + 1 := by simpa using hx
            simp [this]
          rw [hall, ← hstep] at hb4
          with_reducible repeat first|apply Z0|apply Z1|apply Z2|apply Z3|apply Z4|apply Z5|refine Z6 rfl ?_|apply Z7|apply Z8|apply Z9|apply Z10|apply Z11|apply Z12|apply Z13|apply Z14|apply Z15|apply Z16
          refine Cd.reg (by kernel_rfl) (by conv => lhs; simp only [List.map_cons, List.map_nil]) (by conv => lhs; simp only [List.map_cons, List.map_nil, strip]) ?_
          apply Run.by_eq
          · intro self
            conv => lhs; simp -implicitDefEqProofs (maxSteps := 300000) (disch := omega) [-getElem?_pos, -getElem?_neg, q10, q5]
          try (with_reducible refine Run.ret ?_)
          with_reducible repeat first|apply Z0|apply Z1|apply Z2|apply Z3|apply Z4|apply Z5|refine Z6 rfl ?_|apply Z7|apply Z8|apply Z9|apply Z10|apply Z11|apply Z12|apply Z13|apply Z14|apply Z15|apply Z16
          with_reducible repeat first|apply Z0|apply Z1|apply Z2|apply Z3|apply Z4|apply Z5|refine Z6 rfl ?_|apply Z7|apply Z8|apply Z9|apply Z10|apply Z11|apply Z12|apply Z13|apply Z14|apply Z15|apply Z16
          apply Cd.ite rfl
          · conv => lhs; simp -implicitDefEqProofs (maxSteps := 300000) (disch := omega) [-getElem?_pos, -getElem?_neg]
          all_goals intro c3
          all_goals try (cases c3; done)
          all_goals try simp only [Bool.not_eq_true', Bool.not_eq_false', decide_eq_true_eq, decide_eq_false_iff_not] at c3
          all_goals with_reducible repeat first|apply Z0|apply Z1|apply Z2|apply Z3|apply Z4|apply Z5|refine Z6 rfl ?_|apply Z7|apply Z8|apply Z9|apply Z10|apply Z11|apply Z12|apply Z13|apply Z14|apply Z15|apply Z16
          with_reducible repeat first|apply Z0|apply Z1|apply Z2|apply Z3|apply Z4|apply Z5|refine Z6 rfl ?_|apply Z7|apply Z8|apply Z9|apply Z10|apply Z11|apply Z12|apply Z13|apply Z14|apply Z15|apply Z16
          refine Cd.reg (by kernel_rfl) (by conv => lhs; simp only [List.map_cons, List.map_nil]) (by conv => lhs; simp only [List.map_cons, List.map_nil, strip]) ?_
          apply Run.by_eq
          · intro self
            conv => lhs; simp -implicitDefEqProofs (maxSteps := 300000) (disch := omega) [-getElem?_pos, -getElem?_neg, q7]
          try (with_reducible refine Run.ret ?_)
          with_reducible repeat first|apply Z0|apply Z1|apply Z2|apply Z3|apply Z4|apply Z5|refine Z6 rfl ?_|apply Z7|apply Z8|apply Z9|apply Z10|apply Z11|apply Z12|apply Z13|apply Z14|apply Z15|apply Z16
          exact LoopK.nm (fs.length - (j + 1)) (by omega) ⟨j + 1, by omega, rfl, by simp [gm4], by simp, by simp [q1], by simp [q2], by simp [q5], hkp, hnx, hg0, hb4⟩
    · simp at c1; omega
  · obtain rfl : j = fs.length := by omega
    rw [List.take_length] at hb4
    with_reducible repeat first|apply Z0|apply Z1|apply Z2|apply Z3|apply Z4|apply Z5|refine Z6 rfl ?_|apply Z7|apply Z8|apply Z9|apply Z10|apply Z11|apply Z12|apply Z13|apply Z14|apply Z15|apply Z16
    refine Cd.reg (by kernel_rfl) (by conv => lhs; simp only [List.map_cons, List.map_nil]) (by conv => lhs; simp only [List.map_cons, List.map_nil, strip]) ?_
    apply Run.by_eq
    · intro self
      conv => lhs; simp -implicitDefEqProofs (maxSteps := 300000) (disch := omega) [-getElem?_pos, -getElem?_neg, g7, g2, hg0]
    try (with_reducible refine Run.ret ?_)
    with_reducible repeat first|apply Z0|apply Z1|apply Z2|apply Z3|apply Z4|apply Z5|refine Z6 rfl ?_|apply Z7|apply Z8|apply Z9|apply Z10|apply Z11|apply Z12|apply Z13|apply Z14|apply Z15|apply Z16
    with_reducible repeat first|apply Z0|apply Z1|apply Z2|apply Z3|apply Z4|apply Z5|refine Z6 rfl ?_|apply Z7|apply Z8|apply Z9|apply Z10|apply Z11|apply Z12|apply Z13|apply Z14|apply Z15|apply Z16
    apply Cd.ite rfl
    · conv => lhs; simp -implicitDefEqProofs (maxSteps := 300000) (disch := omega) [-getElem?_pos, -getElem?_neg]
    all_goals intro c1
    all_goals try (cases c1; done)
    all_goals try simp only [Bool.not_eq_true', Bool.not_eq_false', decide_eq_true_eq, decide_eq_false_iff_not] at c1
    all_goals with_reducible repeat first|apply Z0|apply Z1|apply Z2|apply Z3|apply Z4|apply Z5|refine Z6 rfl ?_|apply Z7|apply Z8|apply Z9|apply Z10|apply Z11|apply Z12|apply Z13|apply Z14|apply Z15|apply Z16
    with_reducible repeat first|apply Z0|apply Z1|apply Z2|apply Z3|apply Z4|apply Z5|refine Z6 rfl ?_|apply Z7|apply Z8|apply Z9|apply Z10|apply Z11|apply Z12|apply Z13|apply Z14|apply Z15|apply Z16
    refine Cd.reg (by kernel_rfl) (by conv => lhs; simp only [List.map_cons, List.map_nil]) (by conv => lhs; simp only [List.map_cons, List.map_nil, strip]) ?_
    apply Run.by_eq
    · intro self
      conv => lhs; simp -implicitDefEqProofs (maxSteps := 300000) (disch := omega) [-getElem?_pos, -getElem?_neg, g5]
    try (with_reducible refine Run.ret ?_)
    with_reducible repeat first|apply Z0|apply Z1|apply Z2|apply Z3|apply Z4|apply Z5|refine Z6 rfl ?_|apply Z7|apply Z8|apply Z9|apply Z10|apply Z11|apply Z12|apply Z13|apply Z14|apply Z15|apply Z16
    apply Leave.mk (by first | exact .inl rfl | exact .inr rfl) (by simp only [Fr.marks_put, fr0_marks, gm3])
    · conv => lhs; simp -implicitDefEqProofs (disch := omega) [Try.results39, gm3]
    refine ⟨hkp, ?_⟩
    have := ints_of_cells (s := s3) (b := bu) (c := n + 1) (xs := (List.range (n + 1)).map (labF lo fs 0 fun x => x)) (g := some 1) hnx (by rw [hb4]; simp [cellsF, Function.comp_def])
    rw [List.length_map, List.length_range] at this
    exact this
end Go.Proofs.Ytifkpaomhnlahaa
