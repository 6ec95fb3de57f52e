/-
  What the reference gets has the same flows. The reference's heads are as stated, for every list of flows. Heads and roots say the same of what is joined. Parts are yielded as stated to a loop that may be left. A part with an excess is a proof that there is no balance. What flows of a forest join, and what hangs apart without one of them. Sums of masses, and numbers of ends. What is gathered of a tree, flow after flow. Leaks and Refutes answer as stated, for every plant, units and kind. The reference's sides and Refutes answer as stated. The reference's clash is as stated, for every valid plant. The forest is chosen as stated, for every list of flows. What hangs on an end is settled as stated, for every tree. A balance is settled as stated, for every plant. If no part has an excess, as much comes to each unit as goes from it. They hold with no condition but those that are written in each theorem.
-/
import Derived.Test.YtifkpaomhnlahaaPF1
import Derived.Test.YtifkpaomhnlahaaPF2
import Derived.Test.YtifkpaomhnlahaaPF3
set_option linter.unusedSimpArgs false
set_option linter.unusedVariables false
namespace Go.Proofs.Ytifkpaomhnlahaa
open Go Kern
theorem takeL_append {α : Type} : ∀ (a b : List α), takeL a.length (a ++ b) = some a
  | [], b => rfl
  | x :: a, b => by show ob (takeL a.length (a ++ b)) (fun r => some (x :: r)) = _; rw [takeL_append a b]; rfl
theorem drop_flat {α : Type} {n : Nat} : ∀ {l : List (List α)} {i : Nat} {e : List α}, (∀ x ∈ l, x.length = n) → l[i]? = some e → takeL n (l.flatten.drop (i * n)) = some e
  | [], i, e, _, h => by simp at h
  | x :: r, 0, e, hl, h => by
    simp at h; subst h
    rw [Nat.zero_mul, List.drop_zero, List.flatten_cons, ← hl x (.head _)]
    exact takeL_append _ _
  | x :: r, i + 1, e, hl, h => by
    have hx := hl x (.head _)
    rw [List.flatten_cons, show (i + 1) * n = x.length + i * n by rw [Nat.add_mul, hx]; omega, ← List.drop_drop, List.drop_left]
    exact drop_flat (fun y hy => hl y (.tail _ hy)) (by simpa using h)
theorem sl_of_cells {n : Nat} {s : St} {b c : Nat} {l : List (List Value)} {g : Option Nat} (h2 : b < s.next) (hl : ∀ x ∈ l, x.length = n) (h3 : s.heap.get b = some (.cells l.flatten g)) : SlAt n s (.slice (some ⟨b, 0, none⟩) l.length c) l :=
  SlAt.mk h2 h3 rfl fun i e he => by rw [Nat.zero_add]; exact drop_flat hl he
def flatF (fs : List FlowD) : List Value := (fs.map FlowD.cs).flatten
theorem flatF_snoc (fs : List FlowD) (f : FlowD) : flatF (fs ++ [f]) = flatF fs ++ f.cs := by simp [flatF]
theorem flatF_length (fs : List FlowD) : (flatF fs).length = fs.length * 7 := by
  induction fs with
  | nil => rfl
  | cons f r ih =>
    have : flatF (f :: r) = f.cs ++ flatF r := by simp [flatF]
    rw [this, List.length_append, ih, List.length_cons]
    simp [FlowD.cs]; omega
def OwnF (N : Nat) (s : St) (w : Value) (fs : List FlowD) : Prop :=
  (fs = [] ∧ w = .slice none 0 0) ∨ ∃ b, w = .slice (some ⟨b, 0, none⟩) fs.length fs.length ∧ fs ≠ [] ∧ N ≤ b ∧ b < s.next ∧ s.heap.get b = some (.cells (flatF fs) (some 7))
theorem OwnF.flows {N : Nat} {s : St} {w : Value} {fs : List FlowD} (h : OwnF N s w fs) : FlAt s w fs := by
  rcases h with ⟨rfl, rfl⟩ | ⟨b, rfl, hne, h1, h2, h3⟩
  · exact .nil 0
  · have := sl_of_cells (n := 7) (c := fs.length) (l := fs.map FlowD.cs) h2 (fun x hx => by obtain ⟨f, _, rfl⟩ := List.mem_map.1 hx; rfl) h3
    rw [List.length_map] at this; exact this
set_option maxRecDepth 100000 in
set_option maxHeartbeats 4000000 in
theorem given_ev (u : Int) (v : Value) (fs : List FlowD) (s : St) (hf : FlAt s v fs) (hl : fs.length ≤ 1000) :
    Ev TT 16 [plantV u v] s fun r s' => Keep s s' ∧ ∃ w, r = plantV u w ∧ FlAt s' w fs := by
  obtain ⟨a, c, rfl⟩ := hf.shape
  rw [List.length_map] at hf ⊢
  unfold plantV
  refine Ev.intro (fn := Try.f16) rfl (by kernel_rfl) rfl rfl ?_
  apply zz
  refine Cd.ra (h := ?_)
  apply Run.by_eq
  · intro self
    conv => lhs; simp -implicitDefEqProofs (maxSteps := 300000) (disch := omega) [-getElem?_pos, -getElem?_neg]
  try (with_reducible refine Run.ret ?_)
  apply zz
  refine Cd.ra (h := ?_)
  apply Run.by_eq
  · intro self
    conv => lhs; simp -implicitDefEqProofs (maxSteps := 300000) (disch := omega) [-getElem?_pos, -getElem?_neg]
  try (with_reducible refine Run.ret ?_)
  apply zz
  refine Cd.ra (h := ?_)
  apply Run.by_eq
  · intro self
    conv => lhs; simp -implicitDefEqProofs (maxSteps := 300000) (disch := omega) [-getElem?_pos, -getElem?_neg]
  try (with_reducible refine Run.ret ?_)
  apply zz
  refine Cd.inv (fun z f s' => ∃ k : Nat, k ≤ fs.length ∧ z = fs.length - k ∧ f.marks = [] ∧ f.get 4 = .int .i64 k ∧ f.get 1 = .pointer (some ⟨s.next, 0, none⟩) ∧ f.get 2 = .pointer (some ⟨s.next + 1, 0, none⟩) ∧ f.get 3 = .pointer (some ⟨s.next + 1 + 1, 0, none⟩) ∧ Keep s s' ∧ s.next + 1 + 1 < s'.next ∧ s'.heap.get s.next = some (.cells [.int .i64 u, .slice a fs.length c] none) ∧ s'.heap.get (s.next + 1) = some (.cells [.int .i64 0, .slice none 0 0] none) ∧ ∃ w, s'.heap.get (s.next + 1 + 1) = some (.cells [.int .i64 u, w] none) ∧ OwnF (s.next + 1 + 1 + 1) s' w (fs.take k)) fs.length ?_ ?_
  · refine ⟨0, by omega, rfl, by simp, by simp, by simp, by simp, by simp, ⟨by (try simp only [pushed_next', upded_next']); omega, fun i hi => by simp -implicitDefEqProofs (disch := omega) []⟩, by simp, ?_, ?_, .slice none 0 0, ?_, .inl ⟨rfl, rfl⟩⟩
    · simp -implicitDefEqProofs (disch := omega)
    · simp -implicitDefEqProofs (disch := omega)
    · simp -implicitDefEqProofs (disch := omega)
  rintro z f s' ⟨k, hk, rfl, hm, h4, h1, h2, h3, hkp, hnx, hg0, hg1, w, hg2, hU⟩
  have hkpa := hkp.1
  have hkpb := hkp.2
  by_cases hlt : k < fs.length
  · obtain ⟨g, hg⟩ : ∃ g, fs[k]? = some g := ⟨fs[k], by simp [hlt]⟩
    have htk : fs.take (k + 1) = fs.take k ++ [g] := by rw [List.take_add_one, hg]; rfl
    obtain ⟨b, off, o, cs, gg, rfl, hb, ho, hc, ht⟩ := FlAt.at (hf.keep hkp) hg
    obtain ⟨g0, g1, gm, m⟩ := g
    rw [FlowD.cs] at ht
    simp only [] at ht
    apply zz
    refine Cd.ra (h := ?_)
    apply Run.by_eq
    · intro self
      conv => lhs; simp -implicitDefEqProofs (maxSteps := 300000) (disch := omega) [-getElem?_pos, -getElem?_neg, h4, h1, hg0]
    try (with_reducible refine Run.ret ?_)
    apply zz
    apply Cd.ite rfl
    · conv => lhs; simp -implicitDefEqProofs (maxSteps := 300000) (disch := omega) [-getElem?_pos, -getElem?_neg]
    all_goals intro c0
    all_goals try (cases c0; done)
    all_goals try simp only [Bool.not_eq_true', Bool.not_eq_false', decide_eq_true_eq, decide_eq_false_iff_not] at c0
    all_goals apply zz
    · apply zz
      refine Cd.ra (h := ?_)
      apply Run.by_eq
      · intro self
        conv => lhs; simp -implicitDefEqProofs (maxSteps := 300000) (disch := omega) [-getElem?_pos, -getElem?_neg, h4, h1, hg0, ho, hc, ht, hlt]
      try (with_reducible refine Run.ret ?_)
      apply zz
      have hlen : (fs.take k).length = k := by rw [List.length_take]; omega
      have hfl7 := flatF_length (fs.take k)
      rw [hlen] at hfl7
      rcases hU with ⟨hce, rfl⟩ | ⟨bu, rfl, hne, hb1, hb2, hb3⟩
      · have k0 : k = 0 := by rw [hce] at hlen; exact hlen.symm
        subst k0
        apply zz
        refine Cd.ra (h := ?_)
        apply Run.by_eq
        · intro self
          conv => lhs; simp -implicitDefEqProofs (maxSteps := 300000) (disch := omega) [-getElem?_pos, -getElem?_neg, h3, hg2]
        try (with_reducible refine Run.ret ?_)
        apply zz
        refine Cd.ra (h := ?_)
        apply Run.by_eq
        · intro self
          conv => lhs; simp -implicitDefEqProofs (maxSteps := 300000) (disch := omega) [-getElem?_pos, -getElem?_neg, h4]
        try (with_reducible refine Run.ret ?_)
        apply zz
        refine LoopK.nm (fs.length - (0 + 1)) (by omega) ⟨0 + 1, by omega, rfl, by simp [hm], by simp, by simp [h1], by simp [h2], by simp [h3], ⟨by (try simp only [pushed_next', upded_next']); omega, fun i hi => by simp -implicitDefEqProofs (disch := omega) [hkpb]⟩, by (try simp only [pushed_next', upded_next']); omega, ?_, ?_, .slice (some ⟨s'.next + 1 + 1, 0, none⟩) (0 + 1) (0 + 1), ?_, ?_⟩
        · simp -implicitDefEqProofs (disch := omega) [hg0]
        · simp -implicitDefEqProofs (disch := omega) [hg1]
        · simp -implicitDefEqProofs (disch := omega)
        · rw [htk, hce]
          exact .inr ⟨s'.next + 1 + 1, rfl, by simp, by omega, by simp, by simp -implicitDefEqProofs (disch := omega) [flatF, FlowD.cs]⟩
      · apply zz
        refine Cd.ra (h := ?_)
        apply Run.by_eq
        · intro self
          conv => lhs; simp -implicitDefEqProofs (maxSteps := 300000) (disch := omega) [-getElem?_pos, -getElem?_neg, h3, hg2]
        try (with_reducible refine Run.ret ?_)
        apply zz
        apply Run.by_eq
        · intro self
          rw [appV_moreE (size := 7) (n := k) (old := flatF (fs.take k)) ?happ1 hfl7 (by omega)]
          simp -implicitDefEqProofs (disch := omega) [hb3, hg2]
        apply Run.by_eq
        · intro self
          conv => lhs; simp -implicitDefEqProofs (maxSteps := 300000) (disch := omega) [-getElem?_pos, -getElem?_neg, hb3, hg2]
        try (with_reducible refine Run.ret ?_)
        apply zz
        refine Cd.ra (h := ?_)
        apply Run.by_eq
        · intro self
          conv => lhs; simp -implicitDefEqProofs (maxSteps := 300000) (disch := omega) [-getElem?_pos, -getElem?_neg, h4]
        try (with_reducible refine Run.ret ?_)
        apply zz
        refine LoopK.nm (fs.length - (k + 1)) (by omega) ⟨k + 1, by omega, rfl, by simp [hm], by simp, by simp [h1], by simp [h2], by simp [h3], ⟨by (try simp only [pushed_next', upded_next']); omega, fun i hi => by simp -implicitDefEqProofs (disch := omega) [hkpb]⟩, by (try simp only [pushed_next', upded_next']); omega, ?_, ?_, .slice (some ⟨s'.next + 1 + 1, 0, none⟩) (k + 1) (k + 1), ?_, ?_⟩
        · simp -implicitDefEqProofs (disch := omega) [hg0]
        · simp -implicitDefEqProofs (disch := omega) [hg1]
        · simp -implicitDefEqProofs (disch := omega)
        · rw [htk]
          exact .inr ⟨s'.next + 1 + 1, by simp [hlen], by simp, by omega, by simp, by simp -implicitDefEqProofs (disch := omega) [flatF, FlowD.cs]⟩
    · simp at c0; omega
  · obtain rfl : k = fs.length := by omega
    rw [List.take_length] at hU
    apply zz
    refine Cd.ra (h := ?_)
    apply Run.by_eq
    · intro self
      conv => lhs; simp -implicitDefEqProofs (maxSteps := 300000) (disch := omega) [-getElem?_pos, -getElem?_neg, h4, h1, hg0]
    try (with_reducible refine Run.ret ?_)
    apply zz
    apply Cd.ite rfl
    · conv => lhs; simp -implicitDefEqProofs (maxSteps := 300000) (disch := omega) [-getElem?_pos, -getElem?_neg]
    all_goals intro c0
    all_goals try (cases c0; done)
    all_goals try simp only [Bool.not_eq_true', Bool.not_eq_false', decide_eq_true_eq, decide_eq_false_iff_not] at c0
    all_goals apply zz
    have hw1 : oneV w = true := by rcases hU with ⟨_, rfl⟩ | ⟨_, rfl, _⟩ <;> rfl
    apply zz
    refine Cd.ra (h := ?_)
    apply Run.by_eq
    · intro self
      conv => lhs; simp -implicitDefEqProofs (maxSteps := 300000) (disch := omega) [-getElem?_pos, -getElem?_neg, h2, h3, hg1, hg2, hw1]
    try (with_reducible refine Run.ret ?_)
    apply zz
    apply Leave.mk (by first | exact .inl rfl | exact .inr rfl) (by simp only [Fr.marks_put, fr0_marks, hm, h2])
    · conv => lhs; simp -implicitDefEqProofs (disch := omega) [Try.results16, hm, h2]
    refine ⟨⟨by (try simp only [pushed_next', upded_next']); omega, fun i hi => by simp -implicitDefEqProofs (disch := omega) [hkpb]⟩, w, rfl, ?_⟩
    have hU2 : OwnF (s.next + 1 + 1 + 1) (s'.upded (s.next + 1) (.cells [.int .i64 u, w] none)) w fs := by
      rcases hU with ⟨h, h'⟩ | ⟨b, h, h', hb1, hb2, hb3⟩
      · exact .inl ⟨h, h'⟩
      · exact .inr ⟨b, h, h', hb1, hb2, by rw [get_upded_other _ _ _ _ (by omega)]; exact hb3⟩
    exact hU2.flows
end Go.Proofs.Ytifkpaomhnlahaa
namespace Go.Proofs.Ytifkpaomhnlahaa
open Go Kern
theorem takeL_at {α : Type} : ∀ {n : Nat} {l r : List α} {i : Nat}, takeL n l = some r → i < n → l[i]? = r[i]?
  | 0, _, _, _, _, h => by omega
  | n + 1, [], r, _, h, _ => by cases h
  | n + 1, x :: l, r, i, h, hi => by
    obtain ⟨t, h1, h2⟩ := ob_eq (show ob (takeL n l) (fun t => some (x :: t)) = some r from h)
    cases h2
    cases i with
    | zero => rfl
    | succ i => simpa using takeL_at h1 (by omega)
section
variable {T : Tab} {self : Self} {f : Fr} {s : St} {ρ : Env} {H : Tree AObj}
@[simp] theorem act_max2 (x y : Operand) (tys : Array TypeId) : actO T self (.call ⟨.builtin .max, #[x, y], tys⟩) f s = pureR (vExt true x [y] f.eval s.heap) s := rfl
@[simp] theorem act_min2 (x y : Operand) (tys : Array TypeId) : actO T self (.call ⟨.builtin .min, #[x, y], tys⟩) f s = pureR (vExt false x [y] f.eval s.heap) s := rfl
@[simp] theorem vExt_one (mx : Bool) (x y : Operand) : vExt mx x [y] ρ H = ext2 mx (ρ x) (ρ y) := by
  show ob (ext2 mx (ρ x) (ρ y)) some = _
  cases ext2 mx (ρ x) (ρ y) <;> rfl
@[simp] theorem ext2_max (k : IntKind) (a b : Int) : ext2 true (.int k a) (.int k b) = some (.int k (max a b)) := by
  show some (Value.int k (bt (bt true (intLt a b) (intLt b a)) b a)) = _
  rw [intLt_eq, bt_true]
  by_cases h : a < b
  · rw [decide_eq_true h, bt_true, show max a b = b by omega]
  · rw [decide_eq_false h, bt_false, show max a b = a by omega]
@[simp] theorem ext2_min (k : IntKind) (a b : Int) : ext2 false (.int k a) (.int k b) = some (.int k (min a b)) := by
  show some (Value.int k (bt (bt false (intLt a b) (intLt b a)) b a)) = _
  rw [intLt_eq b a, bt_false]
  by_cases h : b < a
  · rw [decide_eq_true h, bt_true, show min a b = b by omega]
  · rw [decide_eq_false h, bt_false, show min a b = a by omega]
end
def relab (h : Nat → Int) (a b : Int) : Nat → Int := fun x => if h x = max a b then min a b else h x
def labStep (lo : Int) (h : Nat → Int) (i : Nat) (f : FlowD) : Nat → Int :=
  if f.me = true ∨ (i : Int) = lo then h else relab h (h (f.fr + 1).toNat) (h (f.to + 1).toNat)
def labF (lo : Int) : List FlowD → Nat → (Nat → Int) → (Nat → Int)
  | [], _, h => h
  | f :: r, i, h => labF lo r (i + 1) (labStep lo h i f)
theorem labF_take (lo : Int) : ∀ (fs : List FlowD) (i : Nat) (h : Nat → Int) (k : Nat) (f : FlowD), fs[k]? = some f → labF lo (fs.take (k + 1)) i h = labStep lo (labF lo (fs.take k) i h) (i + k) f
  | [], _, _, _, _, h => by simp at h
  | g :: r, i, h, 0, f, e => by simp at e; subst e; simp [labF]
  | g :: r, i, h, k + 1, f, e => by
    show labF lo (r.take (k + 1)) (i + 1) _ = labStep lo (labF lo (r.take k) (i + 1) _) (i + (k + 1)) f
    rw [labF_take lo r (i + 1) _ k f (by simpa using e)]
    rw [show i + 1 + k = i + (k + 1) by omega]
def cellsF (m : Nat) (h : Nat → Int) : List Value := (List.range m).map fun x : Nat => Value.int .i64 (h x)
theorem cellsF_get {m i : Nat} (h : Nat → Int) (hi : i < m) : (cellsF m h)[i]? = some (.int .i64 (h i)) := by simp [cellsF, hi]
theorem cellsF_length (m : Nat) (h : Nat → Int) : (cellsF m h).length = m := by simp [cellsF]
set_option maxRecDepth 100000 in
set_option maxHeartbeats 4000000 in
theorem refJoined_ev (n : Nat) (lo : Int) (v : Value) (fs : List FlowD) (s : St) (hn : n ≤ 8) (hf : FlAt s v fs) (hl : fs.length ≤ 1000) (hr : ∀ f ∈ fs, (-1 ≤ f.fr ∧ f.fr < n) ∧ (-1 ≤ f.to ∧ f.to < n)) :
    Ev TT 39 [plantV n v, .int .i64 lo] s fun r s' => Keep s s' ∧ IntsAt s' r ((List.range (n + 1)).map (labF lo fs 0 fun x => x)) := by
  obtain ⟨a, c, rfl⟩ := hf.shape
  rw [List.length_map] at hf ⊢
  unfold plantV
  refine Ev.intro (fn := Try.f39) rfl (by kernel_rfl) rfl rfl ?_
  apply zz
  refine Cd.ra (h := ?_)
  apply Run.by_eq
  · intro self
    conv => lhs; simp -implicitDefEqProofs (maxSteps := 300000) (disch := omega) [-getElem?_pos, -getElem?_neg]
  try (with_reducible refine Run.ret ?_)
  apply zz
  refine Cd.ra (h := ?_)
  apply Run.by_eq
  · intro self
    conv => lhs; simp -implicitDefEqProofs (maxSteps := 300000) (disch := omega) [-getElem?_pos, -getElem?_neg]
  try (with_reducible refine Run.ret ?_)
  apply zz
  refine Cd.ra (h := ?_)
  apply Run.by_eq
  · intro self
    conv => lhs; simp -implicitDefEqProofs (maxSteps := 300000) (disch := omega) [-getElem?_pos, -getElem?_neg]
  try (with_reducible refine Run.ret ?_)
  apply zz
  refine Cd.inv (fun z f s' => ∃ k : Nat, k ≤ n + 1 ∧ z = n + 1 - k ∧ f.marks = [] ∧ f.get 6 = .int .i64 k ∧ f.get 1 = .int .i64 lo ∧ f.get 2 = .pointer (some ⟨s.next, 0, none⟩) ∧ Keep s s' ∧ s.next < s'.next ∧ s'.heap.get s.next = some (.cells [.int .i64 n, .slice a fs.length c] none) ∧ OwnU (s.next + 1) s' (f.get 5) ((List.range k).map fun x : Nat => (x : Int))) (n + 1) ?_ ?_
  · exact ⟨0, by omega, rfl, by simp, by simp, by simp, by simp, ⟨by (try simp only [pushed_next', upded_next']); omega, fun i hi => by simp -implicitDefEqProofs (disch := omega) []⟩, by simp, by simp -implicitDefEqProofs (disch := omega), .inl ⟨rfl, by simp⟩⟩
  rintro z f s' ⟨k, hk, rfl, hm, h6, h1, h2, hkp, hnx, hg0, hU⟩
  have hkpa := hkp.1
  have hkpb := hkp.2
  by_cases hlt : k < n + 1
  · have hkn : (k : Int) ≤ n := by omega
    have hrs : (List.range (k + 1)).map (fun x : Nat => (x : Int)) = (List.range k).map (fun x : Nat => (x : Int)) ++ [(k : Int)] := by rw [List.range_succ, List.map_append]; rfl
    apply zz
    refine Cd.ra (h := ?_)
    apply Run.by_eq
    · intro self
      conv => lhs; simp -implicitDefEqProofs (maxSteps := 300000) (disch := omega) [-getElem?_pos, -getElem?_neg, h6, h2, hg0]
    try (with_reducible refine Run.ret ?_)
    apply zz
    apply Cd.ite rfl
    · conv => lhs; simp -implicitDefEqProofs (maxSteps := 300000) (disch := omega) [-getElem?_pos, -getElem?_neg]
    all_goals intro c0
    all_goals try (cases c0; done)
    all_goals try simp only [Bool.not_eq_true', Bool.not_eq_false', decide_eq_true_eq, decide_eq_false_iff_not] at c0
    all_goals apply zz
    · rcases hU with ⟨hce, hw⟩ | ⟨bu, hw, hne, hb1, hb2, hb3⟩
      · apply zz
        refine Cd.ra (h := ?_)
        apply Run.by_eq
        · intro self
          conv => lhs; simp -implicitDefEqProofs (maxSteps := 300000) (disch := omega) [-getElem?_pos, -getElem?_neg, h6, hw]
        try (with_reducible refine Run.ret ?_)
        apply zz
        refine Cd.ra (h := ?_)
        apply Run.by_eq
        · intro self
          conv => lhs; simp -implicitDefEqProofs (maxSteps := 300000) (disch := omega) [-getElem?_pos, -getElem?_neg, h6]
        try (with_reducible refine Run.ret ?_)
        apply zz
        refine LoopK.nm (n + 1 - (k + 1)) (by omega) ⟨k + 1, by omega, rfl, by simp [hm], by simp, by simp [h1], by simp [h2], ⟨by (try simp only [pushed_next', upded_next']); omega, fun i hi => by simp -implicitDefEqProofs (disch := omega) [hkpb]⟩, by (try simp only [pushed_next']); omega, by simp -implicitDefEqProofs (disch := omega) [hg0], ?_⟩
        rw [hrs, hce]
        exact .inr ⟨s'.next + 1, by simp, by simp, by omega, by simp, by simp⟩
      · rw [List.length_map, List.length_range] at hw
        apply zz
        refine Cd.ra (h := ?_)
        apply Run.by_eq
        · intro self
          conv => lhs; simp -implicitDefEqProofs (maxSteps := 300000) (disch := omega) [-getElem?_pos, -getElem?_neg, h6, hw]
        try (with_reducible refine Run.ret ?_)
        apply zz
        apply Run.by_eq
        · intro self
          rw [appV_moreE (size := 1) (n := k) (old := ((List.range k).map fun x : Nat => (x : Int)).map (Value.int .i64)) ?happ1 (by simp) (by omega)]
          simp -implicitDefEqProofs (disch := omega) [hb3]
        apply Run.by_eq
        · intro self
          conv => lhs; simp -implicitDefEqProofs (maxSteps := 300000) (disch := omega) [-getElem?_pos, -getElem?_neg, hb3]
        try (with_reducible refine Run.ret ?_)
        apply zz
        refine Cd.ra (h := ?_)
        apply Run.by_eq
        · intro self
          conv => lhs; simp -implicitDefEqProofs (maxSteps := 300000) (disch := omega) [-getElem?_pos, -getElem?_neg, h6]
        try (with_reducible refine Run.ret ?_)
        apply zz
        refine LoopK.nm (n + 1 - (k + 1)) (by omega) ⟨k + 1, by omega, rfl, by simp [hm], by simp, by simp [h1], by simp [h2], ⟨by (try simp only [pushed_next', upded_next']); omega, fun i hi => by simp -implicitDefEqProofs (disch := omega) [hkpb]⟩, by (try simp only [pushed_next', upded_next']); omega, by simp -implicitDefEqProofs (disch := omega) [hg0], ?_⟩
        rw [hrs]
        exact .inr ⟨s'.next + 1, by simp, by simp, by omega, by simp, by simp⟩
    · simp at c0; omega
  obtain rfl : k = n + 1 := by omega
  rcases hU with ⟨hce, hw⟩ | ⟨bu, hw, hne, hb1, hb2, hb3⟩
  · simp at hce
  rw [List.length_map, List.length_range] at hw
  have hb4 : s'.heap.get bu = some (.cells (cellsF (n + 1) fun x => x) (some 1)) := by rw [hb3]; simp [cellsF, Function.comp_def]
  clear hb3
  have hkn : ¬ ((n : Int) + 1) ≤ n := by omega
  apply zz
  refine Cd.ra (h := ?_)
  apply Run.by_eq
  · intro self
    conv => lhs; simp -implicitDefEqProofs (maxSteps := 300000) (disch := omega) [-getElem?_pos, -getElem?_neg, h6, h2, hg0, hkn]
  try (with_reducible refine Run.ret ?_)
  apply zz
  apply Cd.ite rfl
  · conv => lhs; simp -implicitDefEqProofs (maxSteps := 300000) (disch := omega) [-getElem?_pos, -getElem?_neg]
  all_goals intro c0
  all_goals try (cases c0; done)
  all_goals try simp only [Bool.not_eq_true', Bool.not_eq_false', decide_eq_true_eq, decide_eq_false_iff_not] at c0
  all_goals apply zz
  apply zz
  refine Cd.ra (h := ?_)
  apply Run.by_eq
  · intro self
    conv => lhs; simp -implicitDefEqProofs (maxSteps := 300000) (disch := omega) [-getElem?_pos, -getElem?_neg]
  try (with_reducible refine Run.ret ?_)
  apply zz
  refine Cd.inv (fun z f3 s3 => ∃ j : Nat, j ≤ fs.length ∧ z = fs.length - j ∧ f3.marks = [] ∧ f3.get 7 = .int .i64 j ∧ f3.get 1 = .int .i64 lo ∧ f3.get 2 = .pointer (some ⟨s.next, 0, none⟩) ∧ f3.get 5 = .slice (some ⟨bu, 0, none⟩) (n + 1) (n + 1) ∧ Keep s s3 ∧ bu < s3.next ∧ s3.heap.get s.next = some (.cells [.int .i64 n, .slice a fs.length c] none) ∧ s3.heap.get bu = some (.cells (cellsF (n + 1) (labF lo (fs.take j) 0 fun x => x)) (some 1))) fs.length ?_ ?_
  · exact ⟨0, by omega, rfl, by simp [hm], by simp, by simp [h1], by simp [h2], by simp [hw], hkp, hb2, hg0, hb4⟩
  clear hkp hkpa hkpb hg0 hb4 hnx
  rintro z f3 s3 ⟨j, hj, rfl, gm3, g7, g1, g2, g5, hkp, hnx, hg0, hb4⟩
  have hkpa := hkp.1
  have hkpb := hkp.2
  by_cases hlt : j < fs.length
  · obtain ⟨g, hg⟩ : ∃ g, fs[j]? = some g := ⟨fs[j], by simp [hlt]⟩
    have hstep := labF_take lo fs 0 (fun x => (x : Int)) j g hg
    rw [Nat.zero_add] at hstep
    generalize labF lo (fs.take j) 0 (fun x => (x : Int)) = h at hstep hb4
    obtain ⟨⟨r1, r2⟩, r3, r4⟩ := hr g (List.mem_of_getElem? hg)
    obtain ⟨b, off, o, cs, gg, rfl, hb, ho, hc, ht⟩ := FlAt.at hf hg
    rw [← hkpb _ hb] at ho
    have t0 := takeL_at ht (i := 0) (by omega)
    have t1 := takeL_at ht (i := 1) (by omega)
    have t2 := takeL_at ht (i := 2) (by omega)
    obtain ⟨g0, g1', gm, m⟩ := g
    rw [List.getElem?_drop] at t0 t1 t2
    simp only [FlowD.cs, Nat.add_zero, List.getElem?_cons_zero, List.getElem?_cons_succ] at t0 t1 t2
    simp only [] at r1 r2 r3 r4
    have n0 := natOf_pos .i64 (show 0 ≤ g0 + 1 by omega)
    have n1 := natOf_pos .i64 (show 0 ≤ g1' + 1 by omega)
    apply zz
    refine Cd.ra (h := ?_)
    apply Run.by_eq
    · intro self
      conv => lhs; simp -implicitDefEqProofs (maxSteps := 300000) (disch := omega) [-getElem?_pos, -getElem?_neg, g7, g2, hg0]
    try (with_reducible refine Run.ret ?_)
    apply zz
    apply Cd.ite rfl
    · conv => lhs; simp -implicitDefEqProofs (maxSteps := 300000) (disch := omega) [-getElem?_pos, -getElem?_neg]
    all_goals intro c1
    all_goals try (cases c1; done)
    all_goals try simp only [Bool.not_eq_true', Bool.not_eq_false', decide_eq_true_eq, decide_eq_false_iff_not] at c1
    all_goals apply zz
    · by_cases hcase : gm = true ∨ (j : Int) = lo
      · have hstay : labStep lo h j ⟨g0, g1', gm, m⟩ = h := by unfold labStep; rw [if_pos hcase]
        rw [hstay] at hstep
        have hfin : ∀ f4 : Fr, f4.marks = [] → f4.get 7 = .int .i64 ((j : Int) + 1) → f4.get 1 = .int .i64 lo → f4.get 2 = .pointer (some ⟨s.next, 0, none⟩) → f4.get 5 = .slice (some ⟨bu, 0, none⟩) (n + 1) (n + 1) → True := fun _ _ _ _ _ _ => trivial
        clear hfin
        cases gm with
        | true =>
          apply zz
          refine Cd.ra (h := ?_)
          apply Run.by_eq
          · intro self
            conv => lhs; simp -implicitDefEqProofs (maxSteps := 300000) (disch := omega) [-getElem?_pos, -getElem?_neg, g7, g2, hg0, ho, hc, t2, hlt]
          try (with_reducible refine Run.ret ?_)
          apply zz
          apply Cd.ite rfl
          · conv => lhs; simp -implicitDefEqProofs (maxSteps := 300000) (disch := omega) [-getElem?_pos, -getElem?_neg]
          all_goals intro c2
          all_goals try (cases c2; done)
          all_goals try simp only [Bool.not_eq_true', Bool.not_eq_false', decide_eq_true_eq, decide_eq_false_iff_not] at c2
          all_goals apply zz
          apply zz
          refine Cd.ra (h := ?_)
          apply Run.by_eq
          · intro self
            conv => lhs; simp -implicitDefEqProofs (maxSteps := 300000) (disch := omega) [-getElem?_pos, -getElem?_neg, g7]
          try (with_reducible refine Run.ret ?_)
          apply zz
          exact LoopK.nm (fs.length - (j + 1)) (by omega) ⟨j + 1, by omega, rfl, by simp [gm3], by simp, by simp [g1], by simp [g2], by simp [g5], hkp, hnx, hg0, by rw [hstep]; exact hb4⟩
        | false =>
          have heq : (j : Int) = lo := by simpa using hcase
          subst heq
          apply zz
          refine Cd.ra (h := ?_)
          apply Run.by_eq
          · intro self
            conv => lhs; simp -implicitDefEqProofs (maxSteps := 300000) (disch := omega) [-getElem?_pos, -getElem?_neg, g7, g2, g1, hg0, ho, hc, t2, hlt]
          try (with_reducible refine Run.ret ?_)
          apply zz
          apply Cd.ite rfl
          · conv => lhs; simp -implicitDefEqProofs (maxSteps := 300000) (disch := omega) [-getElem?_pos, -getElem?_neg]
          all_goals intro c2
          all_goals try (cases c2; done)
          all_goals try simp only [Bool.not_eq_true', Bool.not_eq_false', decide_eq_true_eq, decide_eq_false_iff_not] at c2
          all_goals apply zz
          apply zz
          refine Cd.ra (h := ?_)
          apply Run.by_eq
          · intro self
            conv => lhs; simp -implicitDefEqProofs (maxSteps := 300000) (disch := omega) [-getElem?_pos, -getElem?_neg, g7]
          try (with_reducible refine Run.ret ?_)
          apply zz
          exact LoopK.nm (fs.length - (j + 1)) (by omega) ⟨j + 1, by omega, rfl, by simp [gm3], by simp, by simp [g1], by simp [g2], by simp [g5], hkp, hnx, hg0, by rw [hstep]; exact hb4⟩
      · have hgo : labStep lo h j ⟨g0, g1', gm, m⟩ = relab h (h (g0 + 1).toNat) (h (g1' + 1).toNat) := by unfold labStep; rw [if_neg hcase]
        rw [hgo] at hstep
        obtain ⟨rfl, hne⟩ : gm = false ∧ ¬ (j : Int) = lo := by cases gm <;> simp_all
        have ga := cellsF_get h (show (g0 + 1).toNat < n + 1 by omega)
        have gb := cellsF_get h (show (g1' + 1).toNat < n + 1 by omega)
        apply zz
        refine Cd.ra (h := ?_)
        apply Run.by_eq
        · intro self
          conv => lhs; simp -implicitDefEqProofs (maxSteps := 300000) (disch := omega) [-getElem?_pos, -getElem?_neg, g7, g2, g1, hg0, ho, hc, t2, hlt, hne]
        try (with_reducible refine Run.ret ?_)
        apply zz
        apply Cd.ite rfl
        · conv => lhs; simp -implicitDefEqProofs (maxSteps := 300000) (disch := omega) [-getElem?_pos, -getElem?_neg]
        all_goals intro c2
        all_goals try (cases c2; done)
        all_goals try simp only [Bool.not_eq_true', Bool.not_eq_false', decide_eq_true_eq, decide_eq_false_iff_not] at c2
        all_goals apply zz
        apply zz
        refine Cd.drawnG (pl := [(0, 0, false, false), (1, 0, false, false), (2, 2, false, false), (3, 0, false, false), (4, 14, false, false), (5, 30, false, false), (6, 62, false, false), (7, 126, false, false), (8, 255, false, false), (9, 511, false, false), (10, 0, false, false), (11, 0, false, false), (12, 2048, false, false), (13, 0, false, false), (14, 14336, false, false), (15, 30720, false, false), (16, 63488, false, false), (17, 129024, false, false), (18, 261120, false, false), (19, 523264, false, false), (20, 1023, false, false), (21, 2097151, false, false)]) (by kernel_rfl) (by decide) (by conv => lhs; simp only [List.map_cons, List.map_nil]) (by conv => lhs; simp [strip, orderedG]) ?_
        apply Run.by_eq
        · intro self
          conv => lhs; simp -implicitDefEqProofs (maxSteps := 300000) (disch := omega) [-getElem?_pos, -getElem?_neg, g7, g2, g5, hg0, ho, hc, t0, t1, hlt, n0, n1, hb4, ga, gb]
        try (with_reducible refine Run.ret ?_)
        apply zz
        refine Cd.ra (h := ?_)
        apply Run.by_eq
        · intro self
          conv => lhs; simp -implicitDefEqProofs (maxSteps := 300000) (disch := omega) [-getElem?_pos, -getElem?_neg]
        try (with_reducible refine Run.ret ?_)
        apply zz
        generalize h (g0 + 1).toNat = A at hstep
        generalize h (g1' + 1).toNat = B at hstep
        refine Cd.inv (fun z f4 s4 => ∃ i : Nat, i ≤ n + 1 ∧ z = n + 1 - i ∧ f4.marks = [] ∧ f4.get 10 = .int .i64 i ∧ f4.get 8 = .int .i64 A ∧ f4.get 9 = .int .i64 B ∧ f4.get 7 = .int .i64 j ∧ f4.get 1 = .int .i64 lo ∧ f4.get 2 = .pointer (some ⟨s.next, 0, none⟩) ∧ f4.get 5 = .slice (some ⟨bu, 0, none⟩) (n + 1) (n + 1) ∧ Keep s s4 ∧ bu < s4.next ∧ s4.heap.get s.next = some (.cells [.int .i64 n, .slice (some ⟨b, off, none⟩) fs.length c] none) ∧ s4.heap.get bu = some (.cells (cellsF (n + 1) (fun x => if x < i then relab h A B x else h x)) (some 1))) (n + 1) ?_ ?_
        · exact ⟨0, by omega, rfl, by simp [gm3], by simp, by simp, by simp, by simp [g7], by simp [g1], by simp [g2], by simp [g5], hkp, hnx, hg0, by simpa using hb4⟩
        clear hb4 hg0 hkp hkpa hkpb hnx ho
        rintro z f4 s4 ⟨i, hi, rfl, gm4, q10, q8, q9, q7, q1, q2, q5, hkp, hnx, hg0, hb4⟩
        have hkpa := hkp.1
        have hkpb := hkp.2
        by_cases hin : i < n + 1
        · have gi := cellsF_get (fun x => if x < i then relab h A B x else h x) hin
          simp only [Nat.lt_irrefl, if_false] at gi
          have hlen : (cellsF (n + 1) (fun x => if x < i then relab h A B x else h x)).length = n + 1 := cellsF_length _ _
          apply zz
          refine Cd.ra (h := ?_)
          apply Run.by_eq
          · intro self
            conv => lhs; simp -implicitDefEqProofs (maxSteps := 300000) (disch := omega) [-getElem?_pos, -getElem?_neg, q10, q5]
          try (with_reducible refine Run.ret ?_)
          apply zz
          apply Cd.ite rfl
          · conv => lhs; simp -implicitDefEqProofs (maxSteps := 300000) (disch := omega) [-getElem?_pos, -getElem?_neg]
          all_goals intro c3
          all_goals try (cases c3; done)
          all_goals try simp only [Bool.not_eq_true', Bool.not_eq_false', decide_eq_true_eq, decide_eq_false_iff_not] at c3
          all_goals apply zz
          · apply zz
            refine Cd.ra (h := ?_)
            apply Run.by_eq
            · intro self
              conv => lhs; simp -implicitDefEqProofs (maxSteps := 300000) (disch := omega) [-getElem?_pos, -getElem?_neg, q10, q5, q8, q9, hb4, gi, hin]
            try (with_reducible refine Run.ret ?_)
            apply zz
            by_cases hmx : h i = max A B
            · have hput := putL_set (Value.int .i64 (min A B)) i (cellsF (n + 1) (fun x => if x < i then relab h A B x else h x)) (by rw [hlen]; exact hin)
              rw [show (cellsF (n + 1) (fun x => if x < i then relab h A B x else h x)).set i (.int .i64 (min A B)) = cellsF (n + 1) (fun x => if x < i + 1 then relab h A B x else h x) from range_set (h := fun x => if x < i + 1 then relab h A B x else h x) hin (fun x _ hx => by by_cases e : x < i <;> simp [e] <;> omega) (by simp [relab, hmx])] at hput
              apply zz
              apply Cd.ite rfl
              · conv => lhs; simp -implicitDefEqProofs (maxSteps := 300000) (disch := omega) [-getElem?_pos, -getElem?_neg, hmx]
              all_goals intro c4
              all_goals try (cases c4; done)
              all_goals try simp only [Bool.not_eq_true', Bool.not_eq_false', decide_eq_true_eq, decide_eq_false_iff_not] at c4
              all_goals apply zz
              apply zz
              refine Cd.ra (h := ?_)
              apply Run.by_eq
              · intro self
                conv => lhs; simp -implicitDefEqProofs (maxSteps := 300000) (disch := omega) [-getElem?_pos, -getElem?_neg, q10, q5, q8, q9, hb4, hput, hin]
              try (with_reducible refine Run.ret ?_)
              apply zz
              refine Cd.ra (h := ?_)
              apply Run.by_eq
              · intro self
                conv => lhs; simp -implicitDefEqProofs (maxSteps := 300000) (disch := omega) [-getElem?_pos, -getElem?_neg, q10]
              try (with_reducible refine Run.ret ?_)
              apply zz
              refine LoopK.nm (n + 1 - (i + 1)) (by omega) ⟨i + 1, by omega, rfl, by simp [gm4], by simp, by simp [q8], by simp [q9], by simp [q7], by simp [q1], by simp [q2], by simp [q5], ⟨by (try simp only [pushed_next', upded_next']); omega, fun i hi => by simp -implicitDefEqProofs (disch := omega) [hkpb]⟩, by (try simp only [upded_next']); omega, ?_, ?_⟩
              · rw [get_upded_other _ _ _ _ (by omega)]; exact hg0
              · rw [get_upded_same]
            · have hsame : cellsF (n + 1) (fun x => if x < i + 1 then relab h A B x else h x) = cellsF (n + 1) (fun x => if x < i then relab h A B x else h x) := by
                unfold cellsF
                apply List.map_congr_left
                intro x _
                by_cases e : x < i
                · simp [e, show x < i + 1 by omega]
                · by_cases e2 : x = i
                  · subst e2; simp [relab, hmx]
                  · simp [e, show ¬ x < i + 1 by omega]
              apply zz
              apply Cd.ite rfl
              · conv => lhs; simp -implicitDefEqProofs (maxSteps := 300000) (disch := omega) [-getElem?_pos, -getElem?_neg, hmx]
              all_goals intro c4
              all_goals try (cases c4; done)
              all_goals try simp only [Bool.not_eq_true', Bool.not_eq_false', decide_eq_true_eq, decide_eq_false_iff_not] at c4
              all_goals apply zz
              apply zz
              refine Cd.ra (h := ?_)
              apply Run.by_eq
              · intro self
                conv => lhs; simp -implicitDefEqProofs (maxSteps := 300000) (disch := omega) [-getElem?_pos, -getElem?_neg, q10]
              try (with_reducible refine Run.ret ?_)
              apply zz
              exact LoopK.nm (n + 1 - (i + 1)) (by omega) ⟨i + 1, by omega, rfl, by simp [gm4], by simp, by simp [q8], by simp [q9], by simp [q7], by simp [q1], by simp [q2], by simp [q5], hkp, hnx, hg0, by rw [hsame]; exact hb4⟩
          · simp at c3; omega
        · obtain rfl : i = n + 1 := by omega
          have hall : cellsF (n + 1) (fun x => if x < n + 1 then relab h A B x else h x) = cellsF (n + 1) (relab h A B) := by
            unfold cellsF
            apply List.map_congr_left
            intro x hx
            have : x < n + 1 := by simpa using hx
            simp [this]
          rw [hall, ← hstep] at hb4
          apply zz
          refine Cd.ra (h := ?_)
          apply Run.by_eq
          · intro self
            conv => lhs; simp -implicitDefEqProofs (maxSteps := 300000) (disch := omega) [-getElem?_pos, -getElem?_neg, q10, q5]
          try (with_reducible refine Run.ret ?_)
          apply zz
          apply Cd.ite rfl
          · conv => lhs; simp -implicitDefEqProofs (maxSteps := 300000) (disch := omega) [-getElem?_pos, -getElem?_neg]
          all_goals intro c3
          all_goals try (cases c3; done)
          all_goals try simp only [Bool.not_eq_true', Bool.not_eq_false', decide_eq_true_eq, decide_eq_false_iff_not] at c3
          all_goals apply zz
          apply zz
          refine Cd.ra (h := ?_)
          apply Run.by_eq
          · intro self
            conv => lhs; simp -implicitDefEqProofs (maxSteps := 300000) (disch := omega) [-getElem?_pos, -getElem?_neg, q7]
          try (with_reducible refine Run.ret ?_)
          apply zz
          exact LoopK.nm (fs.length - (j + 1)) (by omega) ⟨j + 1, by omega, rfl, by simp [gm4], by simp, by simp [q1], by simp [q2], by simp [q5], hkp, hnx, hg0, hb4⟩
    · simp at c1; omega
  · obtain rfl : j = fs.length := by omega
    rw [List.take_length] at hb4
    apply zz
    refine Cd.ra (h := ?_)
    apply Run.by_eq
    · intro self
      conv => lhs; simp -implicitDefEqProofs (maxSteps := 300000) (disch := omega) [-getElem?_pos, -getElem?_neg, g7, g2, hg0]
    try (with_reducible refine Run.ret ?_)
    apply zz
    apply Cd.ite rfl
    · conv => lhs; simp -implicitDefEqProofs (maxSteps := 300000) (disch := omega) [-getElem?_pos, -getElem?_neg]
    all_goals intro c1
    all_goals try (cases c1; done)
    all_goals try simp only [Bool.not_eq_true', Bool.not_eq_false', decide_eq_true_eq, decide_eq_false_iff_not] at c1
    all_goals apply zz
    apply zz
    refine Cd.ra (h := ?_)
    apply Run.by_eq
    · intro self
      conv => lhs; simp -implicitDefEqProofs (maxSteps := 300000) (disch := omega) [-getElem?_pos, -getElem?_neg, g5]
    try (with_reducible refine Run.ret ?_)
    apply zz
    apply Leave.mk (by first | exact .inl rfl | exact .inr rfl) (by simp only [Fr.marks_put, fr0_marks, gm3])
    · conv => lhs; simp -implicitDefEqProofs (disch := omega) [Try.results39, gm3]
    refine ⟨hkp, ?_⟩
    have := ints_of_cells (s := s3) (b := bu) (c := n + 1) (xs := (List.range (n + 1)).map (labF lo fs 0 fun x => x)) (g := some 1) hnx (by rw [hb4]; simp [cellsF, Function.comp_def])
    rw [List.length_map, List.length_range] at this
    exact this
end Go.Proofs.Ytifkpaomhnlahaa
namespace Go.Proofs.Ytifkpaomhnlahaa
open Go Kern
def Same (n : Nat) (rt : Int → Int) (h : Nat → Int) : Prop :=
  (∀ i, i ≤ n → 0 ≤ h i ∧ h i ≤ i ∧ h (h i).toNat = h i) ∧ ∀ i j, i ≤ n → j ≤ n → (h i = h j ↔ rt ((i : Int) - 1) = rt ((j : Int) - 1))
theorem Same.init (n : Nat) : Same n id fun x => x :=
  ⟨fun i hi => ⟨by dsimp only; omega, by dsimp only; omega, by dsimp only; omega⟩, fun i j _ _ => by simp only [id]; omega⟩
theorem Same.step {n : Nat} {rt : Int → Int} {h : Nat → Int} (hs : Same n rt h) {x y : Int} (hx : -1 ≤ x ∧ x < n) (hy : -1 ≤ y ∧ y < n) : Same n (uni rt x y) (relab h (h (x + 1).toNat) (h (y + 1).toNat)) := by
  obtain ⟨h1, h2⟩ := hs
  have px : (x + 1).toNat ≤ n := by omega
  have py : (y + 1).toNat ≤ n := by omega
  have ex : (((x + 1).toNat : Nat) : Int) - 1 = x := by omega
  have ey : (((y + 1).toNat : Nat) : Int) - 1 = y := by omega
  have hab := h2 _ _ px py
  rw [ex, ey] at hab
  have ha := h1 _ px
  have hb := h1 _ py
  have ca : ∀ i, i ≤ n → (h i = h (x + 1).toNat ↔ rt ((i : Int) - 1) = rt x) := fun i hi => by have := h2 i _ hi px; rw [ex] at this; exact this
  have cb : ∀ i, i ≤ n → (h i = h (y + 1).toNat ↔ rt ((i : Int) - 1) = rt y) := fun i hi => by have := h2 i _ hi py; rw [ey] at this; exact this
  generalize h (x + 1).toNat = A at *
  generalize h (y + 1).toNat = B at *
  unfold uni relab
  by_cases hr : rt x = rt y
  · have hAB : A = B := hab.2 hr
    subst hAB
    rw [if_pos hr]
    have hid : (fun z => if h z = max A A then min A A else h z) = h := by funext z; by_cases e : h z = A <;> simp [e]
    rw [hid]
    exact ⟨h1, h2⟩
  · have hAB : A ≠ B := fun e => hr (hab.1 e)
    rw [if_neg hr]
    refine ⟨fun i hi => ?_, fun i j hi hj => ?_⟩
    · obtain ⟨b1, b2, b3⟩ := h1 i hi
      by_cases e : h i = max A B
      · simp only [e, if_true]
        refine ⟨by omega, by omega, ?_⟩
        have hm : h (min A B).toNat = min A B := by
          by_cases q : A ≤ B
          · rw [show min A B = A by omega]; exact ha.2.2
          · rw [show min A B = B by omega]; exact hb.2.2
        rw [hm, if_neg (by omega)]
      · simp only [e, if_false]
        exact ⟨b1, b2, by rw [b3, if_neg e]⟩
    · have hij := h2 i j hi hj
      have ci := ca i hi
      have cj := ca j hj
      have di := cb i hi
      have dj := cb j hj
      have hry : rt y ≠ rt x := fun e => hr e.symm
      by_cases i1 : rt ((i : Int) - 1) = rt x
      · have hi1 := ci.2 i1
        by_cases j1 : rt ((j : Int) - 1) = rt x
        · have hj1 := cj.2 j1
          simp [i1, j1, hi1, hj1]
        · have hj1 : h j ≠ A := fun e => j1 (cj.1 e)
          by_cases j2 : rt ((j : Int) - 1) = rt y
          · have hj2 := dj.2 j2
            simp only [i1, if_true, j2, hry, if_false, hi1, hj2, iff_true]
            by_cases q : A ≤ B
            · rw [if_neg (by omega), if_pos (by omega)]; omega
            · rw [if_pos (by omega), if_neg (by omega)]; omega
          · have hj2 : h j ≠ B := fun e => j2 (dj.1 e)
            simp only [i1, if_true, j1, if_false, hi1]
            rw [if_neg (show ¬ h j = max A B by omega)]
            constructor
            · intro e; split at e <;> omega
            · intro e; exact absurd e.symm j2
      · have hi1 : h i ≠ A := fun e => i1 (ci.1 e)
        by_cases i2 : rt ((i : Int) - 1) = rt y
        · have hi2 := di.2 i2
          by_cases j1 : rt ((j : Int) - 1) = rt x
          · have hj1 := cj.2 j1
            simp only [i2, hry, if_false, j1, if_true, hi2, hj1, iff_true]
            by_cases q : A ≤ B
            · rw [if_pos (by omega), if_neg (by omega)]; omega
            · rw [if_neg (by omega), if_pos (by omega)]; omega
          · have hj1 : h j ≠ A := fun e => j1 (cj.1 e)
            by_cases j2 : rt ((j : Int) - 1) = rt y
            · have hj2 := dj.2 j2
              simp [i2, j2, hi2, hj2]
            · have hj2 : h j ≠ B := fun e => j2 (dj.1 e)
              simp only [i2, hry, if_false, j1, hi2]
              rw [if_neg (show ¬ h j = max A B by omega)]
              constructor
              · intro e; split at e <;> omega
              · intro e; exact absurd e.symm j2
        · have hi2 : h i ≠ B := fun e => i2 (di.1 e)
          simp only [i1, if_false]
          rw [if_neg (show ¬ h i = max A B by omega)]
          by_cases j1 : rt ((j : Int) - 1) = rt x
          · have hj1 := cj.2 j1
            simp only [j1, if_true, hj1]
            constructor
            · intro e; split at e <;> omega
            · intro e; exact absurd e i2
          · have hj1 : h j ≠ A := fun e => j1 (cj.1 e)
            simp only [j1, if_false]
            by_cases j2 : rt ((j : Int) - 1) = rt y
            · have hj2 := dj.2 j2
              rw [hj2]
              constructor
              · intro e; split at e <;> omega
              · intro e; exact absurd (e.trans j2) i2
            · have hj2 : h j ≠ B := fun e => j2 (dj.1 e)
              rw [if_neg (show ¬ h j = max A B by omega)]
              exact hij
theorem Same.flows {n : Nat} {lo : Int} : ∀ {fs : List FlowD} {i : Nat} {rt : Int → Int} {h : Nat → Int}, Same n rt h → (∀ f ∈ fs, (-1 ≤ f.fr ∧ f.fr < n) ∧ (-1 ≤ f.to ∧ f.to < n)) → Same n (rtF lo fs i rt) (labF lo fs i h)
  | [], _, _, _, hs, _ => hs
  | f :: r, i, rt, h, hs, hf => by
    have h0 := hf f (.head _)
    show Same n (rtF lo r (i + 1) _) (labF lo r (i + 1) _)
    refine Same.flows ?_ fun g hg => hf g (.tail _ hg)
    unfold labStep
    by_cases hm : f.me = false ∧ (i : Int) ≠ lo
    · rw [if_pos hm, if_neg (by rw [hm.1]; simp; exact hm.2)]
      exact hs.step h0.1 h0.2
    · rw [if_neg hm, if_pos (by cases hme : f.me <;> simp_all)]
      exact hs
def refO (L : Nat → Int) : Nat → List Int × Int
  | 0 => ([], 0)
  | x + 1 => if L (x + 1) = 0 then ((refO L x).1 ++ [-1], (refO L x).2) else if L (x + 1) = (x : Int) + 1 then ((refO L x).1 ++ [(refO L x).2], (refO L x).2 + 1) else ((refO L x).1 ++ [(refO L x).1.getD (L (x + 1) - 1).toNat 0], (refO L x).2)
theorem refO_length (L : Nat → Int) : ∀ k, (refO L k).1.length = k
  | 0 => rfl
  | k + 1 => by
    unfold refO
    split
    · simp [refO_length L k]
    · split <;> simp [refO_length L k]
theorem isLead_of {rt : Int → Int} {n k : Nat} (hk : k < n) (h : ∀ l : Nat, l < k → rt l ≠ rt k) (ho : rt k ≠ rt (-1)) : isLead rt n k = true := by
  unfold isLead
  rw [Bool.and_eq_true, decide_eq_true_eq]
  refine ⟨?_, by simpa using ho⟩
  unfold clsN
  have hsplit : List.range n = List.range k ++ k :: (List.range n).drop (k + 1) := by
    have h1 : (List.range n).drop k = k :: (List.range n).drop (k + 1) := by
      rw [List.drop_eq_getElem_cons (by simpa using hk)]
      simp
    rw [← h1]
    have h2 : List.range k = (List.range n).take k := by rw [List.take_range, show min k n = k by omega]
    rw [h2, List.take_append_drop]
  rw [hsplit, List.filter_append]
  have : (List.range k).filter (fun x : Nat => decide (rt x = rt k)) = [] := by
    rw [List.filter_eq_nil_iff]
    intro l hl
    simpa using h l (by simpa using hl)
  rw [this]
  simp
end Go.Proofs.Ytifkpaomhnlahaa
namespace Go.Proofs.Ytifkpaomhnlahaa
open Go Kern
set_option maxRecDepth 100000 in
set_option maxHeartbeats 4000000 in
theorem iterJ_ev (n : Nat) (v yv : Value) (fs : List FlowD) (bp : Nat) (s : St) (X : Nat → Prop) (J : Nat → St → Prop) (B : Nat → St → Prop) (hn : n ≤ 8) (hf : FlAt s v fs) (hl : fs.length ≤ 1000000)
    (hbp : bp < s.next) (hgp : s.heap.get bp = some (.cells [.int .i64 n, v] none)) (hX : ∀ i, X i → i < s.next) (hXp : ¬ X bp) (hJ0 : J 0 s)
    (hJs : ∀ k s1 s2, J k s1 → s1.next ≤ s2.next → (∀ i, i < s.next → s2.heap.get i = s1.heap.get i) → J k s2)
    (hskip : ∀ k s1, k < n → isLead (rtF (-1) fs 0 id) n k = false → J k s1 → J (k + 1) s1)
    (hyield : ∀ k s1 w, k < n → isLead (rtF (-1) fs 0 id) n k = true → J k s1 → s.next ≤ s1.next → IntsAt s1 w (clsN (rtF (-1) fs 0 id) k n) → (∃ bw, s.next ≤ bw ∧ w = .slice (some ⟨bw, 0, none⟩) (clsN (rtF (-1) fs 0 id) k n).length (clsN (rtF (-1) fs 0 id) k n).length) →
      Evn TT (fun self => callV self yv [.int .i64 (leads (rtF (-1) fs 0 id) n k).length, w] s1) fun p => ((p.1 = .bool true ∧ J (k + 1) p.2) ∨ (p.1 = .bool false ∧ B k p.2)) ∧ s1.next ≤ p.2.next ∧ ∀ i, i < s1.next → ¬ X i → p.2.heap.get i = s1.heap.get i) :
    Ev TT 59 [yv, .pointer (some ⟨bp, 0, none⟩)] s fun _ s' => (J n s' ∨ ∃ k, k < n ∧ isLead (rtF (-1) fs 0 id) n k = true ∧ B k s') ∧ s.next ≤ s'.next ∧ ∀ i, i < s.next → ¬ X i → s'.heap.get i = s.heap.get i := by
  refine Ev.intro (fn := Try.f59) rfl (by kernel_rfl) rfl rfl ?_
  apply zz
  refine Cd.ra (h := ?_)
  apply Run.by_eq
  · intro self
    conv => lhs; simp -implicitDefEqProofs (maxSteps := 300000) (disch := omega) [-getElem?_pos, -getElem?_neg, hgp]
  try (with_reducible refine Run.ret ?_)
  apply zz
  refine Run.call ((joins_ev n (-1) v fs _ hf hl).mono fun r w1 hv => ?_)
  obtain ⟨hk1, b, es, rfl, hbs, hH, hF⟩ := hv
  generalize rtF (-1) fs 0 id = rt at *
  have k1a := hk1.1
  have k1b := hk1.2
  have hHl := hH.1
  apply Run.by_eq
  · intro self
    conv => lhs; simp -implicitDefEqProofs (maxSteps := 300000) (disch := omega) [-getElem?_pos, -getElem?_neg]
  try (with_reducible refine Run.ret ?_)
  apply zz
  refine Cd.ra (h := ?_)
  apply Run.by_eq
  · intro self
    conv => lhs; simp -implicitDefEqProofs (maxSteps := 300000) (disch := omega) [-getElem?_pos, -getElem?_neg]
  try (with_reducible refine Run.ret ?_)
  apply zz
  refine Cd.ra (h := ?_)
  apply Run.by_eq
  · intro self
    conv => lhs; simp -implicitDefEqProofs (maxSteps := 300000) (disch := omega) [-getElem?_pos, -getElem?_neg, k1b, hgp]
  try (with_reducible refine Run.ret ?_)
  apply zz
  refine Cd.inv (fun z f s' => ∃ k : Nat, k ≤ n ∧ z = n - k ∧ f.marks = [] ∧ f.get 12 = .int .i64 k ∧ f.get 11 = .int .i64 n ∧ f.get 0 = yv ∧ f.get 1 = .pointer (some ⟨bp, 0, none⟩) ∧ f.get 3 = .pointer (some ⟨w1.next, 0, none⟩) ∧ f.get 4 = .int .i64 (leads rt n k).length ∧ w1.next < s'.next ∧ (∀ i, i < s.next → ¬ X i → s'.heap.get i = s.heap.get i) ∧ s'.heap.get w1.next = some (.cells [.map (some b)] none) ∧ HeadsAt s' b es ∧ J k s') n ?_ ?_
  · refine ⟨0, by omega, rfl, by simp, by simp, by simp, by simp, by simp, by simp, by simp [leads], by simp, fun i hi hx => ?_, by simp, ⟨by (try simp only [pushed_next', upded_next']); omega, ?_⟩, hJs 0 s _ hJ0 (by (try simp only [pushed_next', upded_next']); omega) fun i hi => ?_⟩
    · simp -implicitDefEqProofs (disch := omega) [k1b]
    · simp -implicitDefEqProofs (disch := omega) [hH.2]
    · simp -implicitDefEqProofs (disch := omega) [k1b]
  rintro z f s' ⟨k, hk, rfl, hm, h12, h11, h0, h1, h3, h4, hnx, hold, hgh, hHA, hJ⟩
  have hgp' : s'.heap.get bp = some (.cells [.int .i64 n, v] none) := (hold bp hbp hXp).trans hgp
  by_cases hlt : k < n
  · apply zz
    refine Cd.ra (h := ?_)
    apply Run.by_eq
    · intro self
      conv => lhs; simp -implicitDefEqProofs (maxSteps := 300000) (disch := omega) [-getElem?_pos, -getElem?_neg, h12, h11]
    try (with_reducible refine Run.ret ?_)
    apply zz
    apply Cd.ite rfl
    · conv => lhs; simp -implicitDefEqProofs (maxSteps := 300000) (disch := omega) [-getElem?_pos, -getElem?_neg]
    all_goals intro c0
    all_goals try (cases c0; done)
    all_goals try simp only [Bool.not_eq_true', Bool.not_eq_false', decide_eq_true_eq, decide_eq_false_iff_not] at c0
    all_goals apply zz
    · apply zz
      refine Cd.ra (h := ?_)
      apply Run.by_eq
      · intro self
        conv => lhs; simp -implicitDefEqProofs (maxSteps := 300000) (disch := omega) [-getElem?_pos, -getElem?_neg, h12]
      try (with_reducible refine Run.ret ?_)
      apply zz
      refine Cd.ra (h := ?_)
      apply Run.by_eq
      · intro self
        conv => lhs; simp -implicitDefEqProofs (maxSteps := 300000) (disch := omega) [-getElem?_pos, -getElem?_neg]
      try (with_reducible refine Run.ret ?_)
      apply zz
      refine Cd.ra (h := ?_)
      apply Run.by_eq
      · intro self
        conv => lhs; simp -implicitDefEqProofs (maxSteps := 300000) (disch := omega) [-getElem?_pos, -getElem?_neg, h1, hgp']
      try (with_reducible refine Run.ret ?_)
      apply zz
      refine Cd.inv (fun z2 f2 s2 => ∃ j : Nat, j ≤ n ∧ z2 = n - j ∧ f2.marks = [] ∧ f2.get 17 = .int .i64 j ∧ f2.get 16 = .int .i64 n ∧ f2.get 12 = .int .i64 k ∧ f2.get 11 = .int .i64 n ∧ f2.get 0 = yv ∧ f2.get 1 = .pointer (some ⟨bp, 0, none⟩) ∧ f2.get 3 = .pointer (some ⟨w1.next, 0, none⟩) ∧ f2.get 4 = .int .i64 (leads rt n k).length ∧ f2.get 5 = .int .i64 k ∧ OwnU (w1.next + 1) s2 (f2.get 6) (clsN rt k j) ∧ w1.next < s2.next ∧ (∀ i, i < s.next → ¬ X i → s2.heap.get i = s.heap.get i) ∧ s2.heap.get w1.next = some (.cells [.map (some b)] none) ∧ HeadsAt s2 b es ∧ J k s2) n ?_ ?_
      · refine ⟨0, by omega, rfl, by simp [hm], by simp, by simp, by simp [h12], by simp [h11], by simp [h0], by simp [h1], by simp [h3], by simp [h4], by simp, .inl ⟨rfl, by simp⟩, hnx, hold, hgh, hHA, hJ⟩
      rintro z2 f2 s2 ⟨j, hj, rfl, gm, g17, g16, g12, g11, g0, g1, g3, g4, g5, hU, gnx, gold, ggh, gHA, gJ⟩
      have gHl := gHA.1
      by_cases hjn : j < n
      · apply zz
        refine Cd.ra (h := ?_)
        apply Run.by_eq
        · intro self
          conv => lhs; simp -implicitDefEqProofs (maxSteps := 300000) (disch := omega) [-getElem?_pos, -getElem?_neg, g17, g16]
        try (with_reducible refine Run.ret ?_)
        apply zz
        apply Cd.ite rfl
        · conv => lhs; simp -implicitDefEqProofs (maxSteps := 300000) (disch := omega) [-getElem?_pos, -getElem?_neg]
        all_goals intro d0
        all_goals try (cases d0; done)
        all_goals try simp only [Bool.not_eq_true', Bool.not_eq_false', decide_eq_true_eq, decide_eq_false_iff_not] at d0
        all_goals apply zz
        · apply zz
          refine Cd.ra (h := ?_)
          apply Run.by_eq
          · intro self
            conv => lhs; simp -implicitDefEqProofs (maxSteps := 300000) (disch := omega) [-getElem?_pos, -getElem?_neg, g17]
          try (with_reducible refine Run.ret ?_)
          apply zz
          refine Cd.ra (h := ?_)
          apply Run.by_eq
          · intro self
            conv => lhs; simp -implicitDefEqProofs (maxSteps := 300000) (disch := omega) [-getElem?_pos, -getElem?_neg, g3, ggh, g5]
          try (with_reducible refine Run.ret ?_)
          apply zz
          refine Run.call ((joined_ev b es rt j k _ gHA hF).mono fun v wq hv => ?_)
          obtain ⟨rfl, q⟩ := hv
          have qa := q.1
          have qb := q.2
          try simp only [pushed_next', upded_next'] at qa qb
          apply Run.by_eq
          · intro self
            conv => lhs; simp -implicitDefEqProofs (maxSteps := 300000) (disch := omega) [-getElem?_pos, -getElem?_neg]
          try (with_reducible refine Run.ret ?_)
          apply zz
          have hcn := clsN_succ rt k j
          by_cases hr : rt j = rt k
          · rw [if_pos hr] at hcn
            apply zz
            apply Cd.ite rfl
            · conv => lhs; simp -implicitDefEqProofs (maxSteps := 300000) (disch := omega) [-getElem?_pos, -getElem?_neg, hr]
            all_goals intro d1
            all_goals try (cases d1; done)
            all_goals try simp only [Bool.not_eq_true', Bool.not_eq_false', decide_eq_true_eq, decide_eq_false_iff_not] at d1
            all_goals apply zz
            rcases hU with ⟨hce, hw⟩ | ⟨bu, hw, hne, hb1, hb2, hb3⟩
            · apply zz
              refine Cd.ra (h := ?_)
              apply Run.by_eq
              · intro self
                conv => lhs; simp -implicitDefEqProofs (maxSteps := 300000) (disch := omega) [-getElem?_pos, -getElem?_neg, hw, appV_nil (size := 1) (g := none) (new := [.int .i64 (j : Int)]) (get_pushed_new _ _) rfl rfl]
              try (with_reducible refine Run.ret ?_)
              apply zz
              refine Cd.ra (h := ?_)
              apply Run.by_eq
              · intro self
                conv => lhs; simp -implicitDefEqProofs (maxSteps := 300000) (disch := omega) [-getElem?_pos, -getElem?_neg, g17]
              try (with_reducible refine Run.ret ?_)
              apply zz
              refine LoopK.nm (n - (j + 1)) (by omega) ⟨j + 1, by omega, rfl, by simp [gm], by simp, by simp [g16], by simp [g12], by simp [g11], by simp [g0], by simp [g1], by simp [g3], by simp [g4], by simp [g5], ?_, by (try simp only [pushed_next', upded_next']); omega, fun i hi hx => ?_, ?_, ⟨by (try simp only [pushed_next', upded_next']); omega, ?_⟩, hJs k s2 _ gJ (by (try simp only [pushed_next', upded_next']); omega) fun i hi => ?_⟩
              · rw [hcn, hce]
                exact .inr ⟨wq.next + 1, by simp, by simp, by omega, by simp, by simp⟩
              · rw [← gold i hi hx]; simp -implicitDefEqProofs (disch := omega) [qb]
              · simp -implicitDefEqProofs (disch := omega) [qb, ggh]
              · simp -implicitDefEqProofs (disch := omega) [qb, gHA.2]
              · simp -implicitDefEqProofs (disch := omega) [qb]
            · have hcl := clsN_length rt k j
              have hm1 : (wq.pushed (.cells [.int .i64 (j : Int)] none)).heap.get bu = some (.cells ((clsN rt k j).map (Value.int .i64)) (some 1)) := by simp -implicitDefEqProofs (disch := omega) [qb, hb3]
              have hap := appV_more (size := 1) (n := (clsN rt k j).length) (b2 := wq.next) hm1 (get_pushed_new _ _) rfl rfl (by simp) (by omega)
              apply zz
              refine Cd.ra (h := ?_)
              apply Run.by_eq
              · intro self
                conv => lhs; simp -implicitDefEqProofs (maxSteps := 300000) (disch := omega) [-getElem?_pos, -getElem?_neg, hw, hap]
              try (with_reducible refine Run.ret ?_)
              apply zz
              refine Cd.ra (h := ?_)
              apply Run.by_eq
              · intro self
                conv => lhs; simp -implicitDefEqProofs (maxSteps := 300000) (disch := omega) [-getElem?_pos, -getElem?_neg, g17]
              try (with_reducible refine Run.ret ?_)
              apply zz
              refine LoopK.nm (n - (j + 1)) (by omega) ⟨j + 1, by omega, rfl, by simp [gm], by simp, by simp [g16], by simp [g12], by simp [g11], by simp [g0], by simp [g1], by simp [g3], by simp [g4], by simp [g5], ?_, by (try simp only [pushed_next', upded_next']); omega, fun i hi hx => ?_, ?_, ⟨by (try simp only [pushed_next', upded_next']); omega, ?_⟩, hJs k s2 _ gJ (by (try simp only [pushed_next', upded_next']); omega) fun i hi => ?_⟩
              · rw [hcn]
                exact .inr ⟨wq.next + 1, by simp, by simp, by omega, by simp, by simp⟩
              · rw [← gold i hi hx]; simp -implicitDefEqProofs (disch := omega) [qb]
              · simp -implicitDefEqProofs (disch := omega) [qb, ggh]
              · simp -implicitDefEqProofs (disch := omega) [qb, gHA.2]
              · simp -implicitDefEqProofs (disch := omega) [qb]
          · rw [if_neg hr] at hcn
            apply zz
            apply Cd.ite rfl
            · conv => lhs; simp -implicitDefEqProofs (maxSteps := 300000) (disch := omega) [-getElem?_pos, -getElem?_neg, hr]
            all_goals intro d1
            all_goals try (cases d1; done)
            all_goals try simp only [Bool.not_eq_true', Bool.not_eq_false', decide_eq_true_eq, decide_eq_false_iff_not] at d1
            all_goals apply zz
            apply zz
            refine Cd.ra (h := ?_)
            apply Run.by_eq
            · intro self
              conv => lhs; simp -implicitDefEqProofs (maxSteps := 300000) (disch := omega) [-getElem?_pos, -getElem?_neg, g17]
            try (with_reducible refine Run.ret ?_)
            apply zz
            refine LoopK.nm (n - (j + 1)) (by omega) ⟨j + 1, by omega, rfl, by simp [gm], by simp, by simp [g16], by simp [g12], by simp [g11], by simp [g0], by simp [g1], by simp [g3], by simp [g4], by simp [g5], ?_, by (try simp only [pushed_next', upded_next']); omega, fun i hi hx => ?_, ?_, ⟨by (try simp only [pushed_next', upded_next']); omega, ?_⟩, hJs k s2 _ gJ (by (try simp only [pushed_next', upded_next']); omega) fun i hi => ?_⟩
            · rw [hcn]
              rcases hU with ⟨hce, hw⟩ | ⟨bu, hw, hne, hb1, hb2, hb3⟩
              · exact .inl ⟨hce, by simp [hw]⟩
              · exact .inr ⟨bu, by simp [hw], hne, hb1, by omega, by rw [qb _ hb2]; exact hb3⟩
            · rw [← gold i hi hx]; simp -implicitDefEqProofs (disch := omega) [qb]
            · simp -implicitDefEqProofs (disch := omega) [qb, ggh]
            · simp -implicitDefEqProofs (disch := omega) [qb, gHA.2]
            · simp -implicitDefEqProofs (disch := omega) [qb]
        · simp at d0; omega
      · obtain rfl : j = n := by omega
        apply zz
        refine Cd.ra (h := ?_)
        apply Run.by_eq
        · intro self
          conv => lhs; simp -implicitDefEqProofs (maxSteps := 300000) (disch := omega) [-getElem?_pos, -getElem?_neg, g17, g16]
        try (with_reducible refine Run.ret ?_)
        apply zz
        apply Cd.ite rfl
        · conv => lhs; simp -implicitDefEqProofs (maxSteps := 300000) (disch := omega) [-getElem?_pos, -getElem?_neg]
        all_goals intro d0
        all_goals try (cases d0; done)
        all_goals try simp only [Bool.not_eq_true', Bool.not_eq_false', decide_eq_true_eq, decide_eq_false_iff_not] at d0
        all_goals apply zz
        obtain ⟨hd, tl, hcl⟩ : ∃ hd tl, clsN rt k j = hd :: tl := by
          cases hc : clsN rt k j with
          | nil => exact absurd hc (cls_self rt hlt)
          | cons a l => exact ⟨a, l, rfl⟩
        have hints := hU.ints
        rcases hU with ⟨hce, hw⟩ | ⟨bu, hw, hne, hb1, hb2, hb3⟩
        · rw [hcl] at hce; cases hce
        rw [hcl] at hb3 hw
        simp only [List.map_cons, List.length_cons] at hb3 hw
        rw [hw] at hints
        have hskipEnd : isLead rt j k = false → ∀ (f3 : Fr) (s3 : St), f3.marks = [] → f3.get 12 = .int .i64 k → f3.get 11 = .int .i64 j → f3.get 0 = yv → f3.get 1 = .pointer (some ⟨bp, 0, none⟩) → f3.get 3 = .pointer (some ⟨w1.next, 0, none⟩) → f3.get 4 = .int .i64 (leads rt j k).length → Keep s2 s3 →
            ∃ k' : Nat, k' = k + 1 ∧ (leads rt j k').length = (leads rt j k).length ∧ w1.next < s3.next ∧ (∀ i, i < s.next → ¬ X i → s3.heap.get i = s.heap.get i) ∧ s3.heap.get w1.next = some (.cells [.map (some b)] none) ∧ HeadsAt s3 b es ∧ J k' s3 := fun hL f3 s3 _ _ _ _ _ _ _ hk3 => by
          refine ⟨k + 1, rfl, by rw [leads_succ, hL]; rfl, Nat.lt_of_lt_of_le gnx hk3.1, fun i hi hx => (hk3.2 i (by omega)).trans (gold i hi hx), (hk3.2 _ gnx).trans ggh, gHA.keep hk3, hskip k s3 hlt hL (hJs k s2 s3 gJ hk3.1 fun i hi => hk3.2 i (by omega))⟩
        by_cases hdk : hd = (k : Int)
        · subst hdk
          apply zz
          refine Cd.ra (h := ?_)
          apply Run.by_eq
          · intro self
            conv => lhs; simp -implicitDefEqProofs (maxSteps := 300000) (disch := omega) [-getElem?_pos, -getElem?_neg, hw, hb3, g5, g3, ggh]
          try (with_reducible refine Run.ret ?_)
          apply zz
          refine Run.call ((joined_ev b es rt k (-1) _ gHA hF).mono fun v wq hv => ?_)
          obtain ⟨rfl, q⟩ := hv
          have qa := q.1
          have qb := q.2
          try simp only [pushed_next', upded_next'] at qa qb
          apply Run.by_eq
          · intro self
            conv => lhs; simp -implicitDefEqProofs (maxSteps := 300000) (disch := omega) [-getElem?_pos, -getElem?_neg]
          try (with_reducible refine Run.ret ?_)
          apply zz
          by_cases hro : rt k = rt (-1)
          · have hL : isLead rt j k = false := by unfold isLead; simp [hro]
            apply zz
            apply Cd.ite rfl
            · conv => lhs; simp -implicitDefEqProofs (maxSteps := 300000) (disch := omega) [-getElem?_pos, -getElem?_neg, hro]
            all_goals intro d2
            all_goals try (cases d2; done)
            all_goals try simp only [Bool.not_eq_true', Bool.not_eq_false', decide_eq_true_eq, decide_eq_false_iff_not] at d2
            all_goals apply zz
            apply zz
            refine Cd.ra (h := ?_)
            apply Run.by_eq
            · intro self
              conv => lhs; simp -implicitDefEqProofs (maxSteps := 300000) (disch := omega) [-getElem?_pos, -getElem?_neg, g12]
            try (with_reducible refine Run.ret ?_)
            apply zz
            obtain ⟨k', rfl, e1, e2, e3, e4, e5, e6⟩ := hskipEnd hL f2 wq gm g12 g11 g0 g1 g3 g4 q
            exact LoopK.nm (j - (k + 1)) (by omega) ⟨k + 1, by omega, rfl, by simp [gm], by simp, by simp [g11], by simp [g0], by simp [g1], by simp [g3], by simp [g4, e1], e2, e3, e4, e5, e6⟩
          · have hL : isLead rt j k = true := by unfold isLead; simp [hro, hcl]
            apply zz
            apply Cd.ite rfl
            · conv => lhs; simp -implicitDefEqProofs (maxSteps := 300000) (disch := omega) [-getElem?_pos, -getElem?_neg, hro]
            all_goals intro d2
            all_goals try (cases d2; done)
            all_goals try simp only [Bool.not_eq_true', Bool.not_eq_false', decide_eq_true_eq, decide_eq_false_iff_not] at d2
            all_goals apply zz
            apply zz
            refine Cd.ra (h := ?_)
            apply Run.by_eq
            · intro self
              conv => lhs; simp -implicitDefEqProofs (maxSteps := 300000) (disch := omega) [-getElem?_pos, -getElem?_neg, g0, g4, hw]
            try (with_reducible refine Run.ret ?_)
            apply zz
            refine Run.callV ((hyield k wq _ hlt hL (hJs k s2 wq gJ q.1 fun i hi => q.2 i (by omega)) (by omega) (hints.keep q) ⟨bu, by omega, by rw [hcl]; rfl⟩).mono fun p hp => ?_)
            obtain ⟨pv, ps⟩ := p
            obtain ⟨p1, p2, p3⟩ := hp
            simp only [] at p1 p2 p3
            have hll : (leads rt j k).length ≤ k := by unfold leads; exact Nat.le_trans (List.length_filter_le _ _) (by simp)
            have hXo : ∀ i, s.next ≤ i → ¬ X i := fun i hi hx => absurd (hX i hx) (by omega)
            rcases p1 with ⟨rfl, p1⟩ | ⟨rfl, p1⟩
            · apply Run.by_eq
              · intro self
                conv => lhs; simp -implicitDefEqProofs (maxSteps := 300000) (disch := omega) [-getElem?_pos, -getElem?_neg]
              try (with_reducible refine Run.ret ?_)
              apply zz
              apply Cd.ite rfl
              · conv => lhs; simp -implicitDefEqProofs (maxSteps := 300000) (disch := omega) [-getElem?_pos, -getElem?_neg]
              all_goals intro d3
              all_goals try (cases d3; done)
              all_goals try simp only [Bool.not_eq_true', Bool.not_eq_false', decide_eq_true_eq, decide_eq_false_iff_not] at d3
              all_goals apply zz
              apply zz
              refine Cd.ra (h := ?_)
              apply Run.by_eq
              · intro self
                conv => lhs; simp -implicitDefEqProofs (maxSteps := 300000) (disch := omega) [-getElem?_pos, -getElem?_neg, g4]
              try (with_reducible refine Run.ret ?_)
              apply zz
              refine Cd.ra (h := ?_)
              apply Run.by_eq
              · intro self
                conv => lhs; simp -implicitDefEqProofs (maxSteps := 300000) (disch := omega) [-getElem?_pos, -getElem?_neg, g12]
              try (with_reducible refine Run.ret ?_)
              apply zz
              refine LoopK.nm (j - (k + 1)) (by omega) ⟨k + 1, by omega, rfl, by simp [gm], by simp, by simp [g11], by simp [g0], by simp [g1], by simp [g3], ?_, by omega, fun i hi hx => ?_, ?_, ⟨by omega, ?_⟩, p1⟩
              · rw [leads_succ, hL]; simp
              · rw [p3 i (by omega) hx, qb i (by omega)]; exact gold i hi hx
              · rw [p3 _ (by omega) (hXo _ (by omega)), qb _ (by omega)]; exact ggh
              · rw [p3 _ (by omega) (hXo _ hbs), qb _ (by omega)]; exact gHA.2
            · apply Run.by_eq
              · intro self
                conv => lhs; simp -implicitDefEqProofs (maxSteps := 300000) (disch := omega) [-getElem?_pos, -getElem?_neg]
              try (with_reducible refine Run.ret ?_)
              apply zz
              apply Cd.ite rfl
              · conv => lhs; simp -implicitDefEqProofs (maxSteps := 300000) (disch := omega) [-getElem?_pos, -getElem?_neg]
              all_goals intro d3
              all_goals try (cases d3; done)
              all_goals try simp only [Bool.not_eq_true', Bool.not_eq_false', decide_eq_true_eq, decide_eq_false_iff_not] at d3
              all_goals apply zz
              apply Leave.mk (by first | exact .inl rfl | exact .inr rfl) (by simp only [Fr.marks_put, fr0_marks, gm])
              · conv => lhs; simp -implicitDefEqProofs (disch := omega) [Try.results59, gm]
              refine ⟨.inr ⟨k, hlt, hL, p1⟩, by omega, fun i hi hx => ?_⟩
              rw [p3 i (by omega) hx, qb i (by omega)]; exact gold i hi hx
        · have hL : isLead rt j k = false := by unfold isLead; simp [hcl, hdk]
          apply zz
          refine Cd.ra (h := ?_)
          apply Run.by_eq
          · intro self
            conv => lhs; simp -implicitDefEqProofs (maxSteps := 300000) (disch := omega) [-getElem?_pos, -getElem?_neg, hw, hb3, g5, hdk]
          try (with_reducible refine Run.ret ?_)
          apply zz
          apply Cd.ite rfl
          · conv => lhs; simp -implicitDefEqProofs (maxSteps := 300000) (disch := omega) [-getElem?_pos, -getElem?_neg]
          all_goals intro d2
          all_goals try (cases d2; done)
          all_goals try simp only [Bool.not_eq_true', Bool.not_eq_false', decide_eq_true_eq, decide_eq_false_iff_not] at d2
          all_goals apply zz
          apply zz
          refine Cd.ra (h := ?_)
          apply Run.by_eq
          · intro self
            conv => lhs; simp -implicitDefEqProofs (maxSteps := 300000) (disch := omega) [-getElem?_pos, -getElem?_neg, g12]
          try (with_reducible refine Run.ret ?_)
          apply zz
          obtain ⟨k', rfl, e1, e2, e3, e4, e5, e6⟩ := hskipEnd hL f2 s2 gm g12 g11 g0 g1 g3 g4 (Keep.refl _)
          exact LoopK.nm (j - (k + 1)) (by omega) ⟨k + 1, by omega, rfl, by simp [gm], by simp, by simp [g11], by simp [g0], by simp [g1], by simp [g3], by simp [g4, e1], e2, e3, e4, e5, e6⟩
    · simp at c0; omega
  · obtain rfl : k = n := by omega
    apply zz
    refine Cd.ra (h := ?_)
    apply Run.by_eq
    · intro self
      conv => lhs; simp -implicitDefEqProofs (maxSteps := 300000) (disch := omega) [-getElem?_pos, -getElem?_neg, h12, h11]
    try (with_reducible refine Run.ret ?_)
    apply zz
    apply Cd.ite rfl
    · conv => lhs; simp -implicitDefEqProofs (maxSteps := 300000) (disch := omega) [-getElem?_pos, -getElem?_neg]
    all_goals intro c0
    all_goals try (cases c0; done)
    all_goals try simp only [Bool.not_eq_true', Bool.not_eq_false', decide_eq_true_eq, decide_eq_false_iff_not] at c0
    all_goals apply zz
    apply Leave.mk (by first | exact .inl rfl | exact .inr rfl) (by simp only [Fr.marks_put, fr0_marks, hm])
    · conv => lhs; simp -implicitDefEqProofs (disch := omega) [Try.results59, hm]
    exact ⟨.inl hJ, by omega, hold⟩
end Go.Proofs.Ytifkpaomhnlahaa
namespace Go.Proofs.Ytifkpaomhnlahaa
open Go Kern
/-- The first kind of which there is something. -/
def nzK (m : Mass) : Option Nat := if m.a ≠ 0 then some 0 else if m.b ≠ 0 then some 1 else if m.c ≠ 0 then some 2 else if m.d ≠ 0 then some 3 else none
theorem nzK_none {m : Mass} : nzK m = none ↔ m = Mass.zero := by
  obtain ⟨a, b, c, d⟩ := m
  unfold nzK Mass.zero
  by_cases ha : a = 0 <;> by_cases hb : b = 0 <;> by_cases hc : c = 0 <;> by_cases hd : d = 0 <;> simp_all
theorem nzK_at {m : Mass} {k : Nat} (hk : k < 4) (hz : ∀ j, j < k → m.at j = 0) (h : m.at k ≠ 0) : nzK m = some k := by
  match k, hk with
  | 0, _ => simp only [Mass.at] at h; simp [nzK, h]
  | 1, _ => have h0 := hz 0 (by omega); simp only [Mass.at] at h h0; simp [nzK, h, h0]
  | 2, _ => have h0 := hz 0 (by omega); have h1 := hz 1 (by omega); simp only [Mass.at] at h h0 h1; simp [nzK, h, h0, h1]
  | 3, _ => have h0 := hz 0 (by omega); have h1 := hz 1 (by omega); have h2 := hz 2 (by omega); simp only [Mass.at] at h h0 h1 h2; simp [nzK, h, h0, h1, h2]
theorem nzK_zero {m : Mass} (h : ∀ j, j < 4 → m.at j = 0) : nzK m = none := by
  have h0 := h 0 (by omega); have h1 := h 1 (by omega); have h2 := h 2 (by omega); have h3 := h 3 (by omega)
  simp only [Mass.at] at h0 h1 h2 h3
  simp [nzK, h0, h1, h2, h3]
theorem nzK_some {m : Mass} {k : Nat} (h : nzK m = some k) : k < 4 ∧ m.at k ≠ 0 := by
  unfold nzK at h
  repeat' split at h
  all_goals first | (cases h; done) | (cases h; exact ⟨by omega, by simp_all [Mass.at]⟩)
/-- What proves that there is no balance, if it is part k. -/
def provAt (rt : Int → Int) (fs : List FlowD) (n k : Nat) : Option (List Int × Nat) :=
  if isLead rt n k = true then (nzK (excM (clsN rt k n) fs)).map fun j => (clsN rt k n, j) else none
def provF (rt : Int → Int) (fs : List FlowD) (n : Nat) : Nat → Nat → Option (List Int × Nat)
  | 0, _ => none
  | c + 1, k => match provAt rt fs n k with
    | some p => some p
    | none => provF rt fs n c (k + 1)
theorem provF_none {rt : Int → Int} {fs : List FlowD} {n : Nat} : ∀ {c k : Nat}, (∀ j, k ≤ j → j < k + c → provAt rt fs n j = none) → provF rt fs n c k = none
  | 0, _, _ => rfl
  | c + 1, k, h => by
    unfold provF
    rw [h k (Nat.le_refl _) (by omega)]
    exact provF_none fun j h1 h2 => h j (by omega) (by omega)
theorem provF_at {rt : Int → Int} {fs : List FlowD} {n : Nat} {p : List Int × Nat} : ∀ {c i k : Nat}, (∀ j, i ≤ j → j < k → provAt rt fs n j = none) → i ≤ k → k < i + c → provAt rt fs n k = some p → provF rt fs n c i = some p
  | 0, _, _, _, h1, h2, _ => by omega
  | c + 1, i, k, h, h1, h2, hp => by
    unfold provF
    by_cases e : i = k
    · subst e; rw [hp]
    · rw [h i (Nat.le_refl _) (by omega)]
      exact provF_at (fun j a b => h j (by omega) b) (by omega) (by omega) hp
theorem provF_some {rt : Int → Int} {fs : List FlowD} {n : Nat} {p : List Int × Nat} : ∀ {c i : Nat}, provF rt fs n c i = some p → ∃ k, k < i + c ∧ provAt rt fs n k = some p
  | 0, _, h => by cases h
  | c + 1, i, h => by
    unfold provF at h
    split at h
    · rename_i q hq; cases h; exact ⟨i, by omega, hq⟩
    · obtain ⟨k, h1, h2⟩ := provF_some h; exact ⟨k, by omega, h2⟩
/-- What is found: units, kind and error. -/
def proveR (u : Int) (fs : List FlowD) : List Int × Int × Int :=
  if checkErr u fs ≠ 0 then ([], 0, checkErr u fs) else match provF (rtF (-1) fs 0 id) fs u.toNat u.toNat 0 with
    | some p => (p.1, p.2, 0)
    | none => ([], 0, 5)
def leakB (xs : List Int) (f : FlowD) : Bool := !f.me && (decide (f.fr ∈ xs) != decide (f.to ∈ xs))
def refutesR (u : Int) (fs : List FlowD) (xs : List Int) (kind : Int) : Int :=
  if unitsErr u fs xs ≠ 0 then unitsErr u fs xs else if kind < 0 ∨ 4 ≤ kind then 18 else if (excM xs fs).at kind.toNat = 0 ∨ fs.any (leakB xs) = true then 11 else 0
theorem uni_same {rt : Int → Int} {a b x y : Int} (h : rt x = rt y) : uni rt a b x = uni rt a b y := by
  unfold uni
  split
  · exact h
  · simp only [h]
theorem uni_ends (rt : Int → Int) (a b : Int) : uni rt a b a = uni rt a b b := by
  unfold uni
  by_cases h : rt a = rt b
  · rw [if_pos h]; exact h
  · rw [if_neg h]
    simp only [if_true]
    rw [if_neg (fun q => h q.symm)]
theorem rtF_same (lo : Int) {x y : Int} : ∀ (fs : List FlowD) (i : Nat) (rt : Int → Int), rt x = rt y → rtF lo fs i rt x = rtF lo fs i rt y
  | [], _, _, h => h
  | f :: r, i, rt, h => by
    unfold rtF
    refine rtF_same lo r (i + 1) _ ?_
    split
    · exact uni_same h
    · exact h
theorem rtF_ends (lo : Int) : ∀ (fs : List FlowD) (i : Nat) (rt : Int → Int) (k : Nat) (f : FlowD), fs[k]? = some f → f.me = false → ((i + k : Nat) : Int) ≠ lo → rtF lo fs i rt f.fr = rtF lo fs i rt f.to
  | [], _, _, _, _, h, _, _ => by simp at h
  | g :: r, i, rt, 0, f, h, hm, hl => by
    simp at h; subst h
    unfold rtF
    rw [if_pos ⟨hm, hl⟩]
    exact rtF_same lo r (i + 1) _ (uni_ends rt g.fr g.to)
  | g :: r, i, rt, k + 1, f, h, hm, hl => by
    unfold rtF
    exact rtF_ends lo r (i + 1) _ k f (by simpa using h) hm (by rw [show i + 1 + k = i + (k + 1) by omega]; exact hl)
theorem clsN_sorted (rt : Int → Int) (k n : Nat) : (clsN rt k n).Pairwise (· < ·) := by
  unfold clsN
  rw [List.pairwise_map]
  exact (List.pairwise_lt_range.filter _).imp fun h => by omega
end Go.Proofs.Ytifkpaomhnlahaa
namespace Go.Proofs.Ytifkpaomhnlahaa
open Go Kern
/-- What is joined by flows that may be used. -/
inductive Path (fs : List FlowD) (E : Nat → Prop) (x : Int) : Int → Prop
  | refl : Path fs E x x
  | step {y z : Int} (j : Nat) (f : FlowD) (h : Path fs E x y) (hj : fs[j]? = some f) (he : E j) (hz : (f.fr = y ∧ f.to = z) ∨ (f.fr = z ∧ f.to = y)) : Path fs E x z
section
variable {fs : List FlowD} {E E' : Nat → Prop} {x y z : Int}
theorem Path.trans (h : Path fs E x y) (k : Path fs E y z) : Path fs E x z := by
  induction k with
  | refl => exact h
  | step j f _ hj he hz ih => exact .step j f ih hj he hz
theorem Path.symm (h : Path fs E x y) : Path fs E y x := by
  induction h with
  | refl => exact .refl
  | step j f _ hj he hz ih => exact Path.trans (.step j f .refl hj he (by rcases hz with ⟨a, b⟩ | ⟨a, b⟩; exact .inr ⟨a, b⟩; exact .inl ⟨a, b⟩)) ih
theorem Path.mono (h : Path fs E x y) (k : ∀ j f, fs[j]? = some f → E j → E' j) : Path fs E' x y := by
  induction h with
  | refl => exact .refl
  | step j f _ hj he hz ih => exact .step j f ih hj (k j f hj he) hz
theorem Path.one {j : Nat} {f : FlowD} (hj : fs[j]? = some f) (he : E j) : Path fs E f.fr f.to := .step j f .refl hj he (.inl ⟨rfl, rfl⟩)
theorem Path.split {k : Nat} {f : FlowD} (hk : fs[k]? = some f) (h : Path fs (fun j => E j ∨ j = k) x y) : Path fs E x y ∨ (Path fs E x f.fr ∧ Path fs E f.to y) ∨ (Path fs E x f.to ∧ Path fs E f.fr y) := by
  induction h with
  | refl => exact .inl .refl
  | step j g _ hj he hz ih =>
    by_cases e : E j
    · rcases ih with h | ⟨h1, h2⟩ | ⟨h1, h2⟩
      · exact .inl (.step j g h hj e hz)
      · exact .inr (.inl ⟨h1, .step j g h2 hj e hz⟩)
      · exact .inr (.inr ⟨h1, .step j g h2 hj e hz⟩)
    · obtain rfl : j = k := he.resolve_left e
      rw [hk] at hj; cases hj
      rcases hz with ⟨rfl, rfl⟩ | ⟨rfl, rfl⟩ <;> rcases ih with h | ⟨h1, h2⟩ | ⟨h1, h2⟩
      · exact .inr (.inl ⟨h, .refl⟩)
      · exact .inr (.inl ⟨h1, .refl⟩)
      · exact .inl h1
      · exact .inr (.inr ⟨h, .refl⟩)
      · exact .inl h1
      · exact .inr (.inr ⟨h1, .refl⟩)
theorem Path.absorb {k : Nat} {f : FlowD} (hk : fs[k]? = some f) (hab : Path fs E f.fr f.to) (h : Path fs (fun j => E j ∨ j = k) x y) : Path fs E x y := by
  rcases h.split hk with h | ⟨h1, h2⟩ | ⟨h1, h2⟩
  · exact h
  · exact h1.trans (hab.trans h2)
  · exact h1.trans (hab.symm.trans h2)
theorem Path.stay {n : Nat} (hf : ∀ f ∈ fs, (-1 ≤ f.fr ∧ f.fr < n) ∧ (-1 ≤ f.to ∧ f.to < n)) (hx : -1 ≤ x ∧ x < n) (h : Path fs E x y) : -1 ≤ y ∧ y < n := by
  induction h with
  | refl => exact hx
  | step j f _ hj _ hz _ =>
    have := hf f (List.mem_of_getElem? hj)
    rcases hz with ⟨_, rfl⟩ | ⟨rfl, _⟩
    · exact this.2
    · exact this.1
end
/-- The flows that are not measured, but one. -/
def Unm (fs : List FlowD) (lo : Int) (j : Nat) : Prop := (∃ f, fs[j]? = some f ∧ f.me = false) ∧ (j : Int) ≠ lo
theorem uni_iff (rt : Int → Int) (a b x y : Int) : uni rt a b x = uni rt a b y ↔ rt x = rt y ∨ (rt x = rt a ∧ rt b = rt y) ∨ (rt x = rt b ∧ rt a = rt y) := by
  unfold uni
  by_cases h : rt a = rt b
  · rw [if_pos h]
    constructor
    · exact .inl
    · rintro (h1 | ⟨h1, h2⟩ | ⟨h1, h2⟩)
      · exact h1
      · rw [h1, h, h2]
      · rw [h1, ← h, h2]
  · rw [if_neg h]
    by_cases hx : rt x = rt a
    · by_cases hy : rt y = rt a
      · simp [hx, hy]
      · simp only [hx, hy, if_true, if_false, true_and]
        constructor
        · exact fun h => .inr (.inl h)
        · rintro (h1 | h1 | ⟨_, h1⟩)
          · exact absurd h1.symm hy
          · exact h1
          · exact absurd h1.symm hy
    · by_cases hy : rt y = rt a
      · simp [hx, hy]
      · simp [hx, hy]
        intro _ h1
        exact absurd h1.symm hy
theorem rt_path (fs : List FlowD) (lo : Int) : ∀ (k : Nat) (x y : Int), rtF lo (fs.take k) 0 id x = rtF lo (fs.take k) 0 id y ↔ Path fs (fun j => j < k ∧ Unm fs lo j) x y
  | 0, x, y => by
    rw [List.take_zero]
    constructor
    · intro h
      obtain rfl : x = y := h
      exact .refl
    · intro h
      have : ∀ {x y}, Path fs (fun j => j < 0 ∧ Unm fs lo j) x y → x = y := fun h => by
        cases h with
        | refl => rfl
        | step j f _ _ he _ => exact absurd he.1 (by omega)
      rw [this h]
  | k + 1, x, y => by
    cases hk : fs[k]? with
    | none =>
      have : fs.take (k + 1) = fs.take k := by
        rw [List.getElem?_eq_none_iff] at hk
        rw [List.take_of_length_le (by omega), List.take_of_length_le hk]
      rw [this, rt_path fs lo k x y]
      constructor <;> refine fun h => h.mono fun j f hj he => ⟨?_, he.2⟩
      · have := he.1; omega
      · have := he.1
        have h2 : j ≠ k := fun e => by subst e; rw [hk] at hj; cases hj
        omega
    | some f =>
      rw [rtF_take lo fs 0 id k f hk, Nat.zero_add]
      unfold rtStep
      by_cases hu : f.me = false ∧ (k : Int) ≠ lo
      · rw [if_pos hu, uni_iff, rt_path fs lo k x y, rt_path fs lo k x f.fr, rt_path fs lo k f.to y, rt_path fs lo k x f.to, rt_path fs lo k f.fr y]
        have hE : ∀ {x y}, Path fs (fun j => j < k + 1 ∧ Unm fs lo j) x y ↔ Path fs (fun j => (j < k ∧ Unm fs lo j) ∨ j = k) x y := fun {x y} => by
          constructor <;> refine fun h => h.mono fun j g hj he => ?_
          · by_cases e : j = k
            · exact .inr e
            · exact .inl ⟨by have := he.1; omega, he.2⟩
          · rcases he with he | rfl
            · exact ⟨by have := he.1; omega, he.2⟩
            · exact ⟨by omega, ⟨f, hk, hu.1⟩, hu.2⟩
        have hin : ∀ {x y}, Path fs (fun j => j < k ∧ Unm fs lo j) x y → Path fs (fun j => (j < k ∧ Unm fs lo j) ∨ j = k) x y := fun h => h.mono fun j g _ he => .inl he
        have hed : Path fs (fun j => (j < k ∧ Unm fs lo j) ∨ j = k) f.fr f.to := Path.one hk (.inr rfl)
        rw [hE]
        constructor
        · rintro (h | ⟨h1, h2⟩ | ⟨h1, h2⟩)
          · exact hin h
          · exact (hin h1).trans (hed.trans (hin h2))
          · exact (hin h1).trans (hed.symm.trans (hin h2))
        · exact fun h => h.split hk
      · rw [if_neg hu, rt_path fs lo k x y]
        constructor <;> refine fun h => h.mono fun j g hj he => ⟨?_, he.2⟩
        · have := he.1; omega
        · have h1 := he.1
          have h2 : j ≠ k := fun e => by
            subst e
            obtain ⟨⟨g', hg', hm⟩, hne⟩ := he.2
            rw [hk] at hg'; cases hg'
            exact hu ⟨hm, hne⟩
          omega
theorem rt_path_all (fs : List FlowD) (lo : Int) (x y : Int) : rtF lo fs 0 id x = rtF lo fs 0 id y ↔ Path fs (Unm fs lo) x y := by
  have := rt_path fs lo fs.length x y
  rw [List.take_length] at this
  rw [this]
  constructor <;> refine fun h => h.mono fun j f hj he => ?_
  · exact he.2
  · exact ⟨(List.getElem?_eq_some_iff.1 hj).1, he⟩
/-- The flows of the forest. -/
def chB (fs : List FlowD) (j : Nat) : Bool := match fs[j]? with
  | some f => !f.me && !decide (rtF (-1) (fs.take j) 0 id f.fr = rtF (-1) (fs.take j) 0 id f.to)
  | none => false
theorem chB_some {fs : List FlowD} {j : Nat} {f : FlowD} (hj : fs[j]? = some f) : chB fs j = (!f.me && !decide (rtF (-1) (fs.take j) 0 id f.fr = rtF (-1) (fs.take j) 0 id f.to)) := by unfold chB; rw [hj]
theorem chB_unm {fs : List FlowD} {j : Nat} (h : chB fs j = true) : Unm fs (-1) j := by
  unfold chB at h
  split at h
  · rename_i f hf
    simp only [Bool.and_eq_true, Bool.not_eq_true'] at h
    exact ⟨⟨f, hf, h.1⟩, by omega⟩
  · cases h
theorem forest_path (fs : List FlowD) : ∀ (k : Nat) (x y : Int), Path fs (fun j => j < k ∧ Unm fs (-1) j) x y ↔ Path fs (fun j => j < k ∧ chB fs j = true) x y := fun k => by
  induction k with
  | zero => intro x y; constructor <;> exact fun h => h.mono fun j f _ he => absurd he.1 (by omega)
  | succ k ih =>
    intro x y
    constructor
    · intro h
      have h' : Path fs (fun j => (j < k ∧ Unm fs (-1) j) ∨ j = k) x y := h.mono fun j f _ he => by
        by_cases e : j = k
        · exact .inr e
        · exact .inl ⟨by have := he.1; omega, he.2⟩
      have up : ∀ {x y}, Path fs (fun j => j < k ∧ chB fs j = true) x y → Path fs (fun j => j < k + 1 ∧ chB fs j = true) x y := fun h => h.mono fun j f _ he => ⟨by have := he.1; omega, he.2⟩
      cases hk : fs[k]? with
      | none =>
        refine up ((ih x y).1 (h'.mono fun j f hj he => ?_))
        rcases he with he | rfl
        · exact he
        · rw [hk] at hj; cases hj
      | some f =>
        by_cases hm : f.me = false
        · by_cases hr : rtF (-1) (fs.take k) 0 id f.fr = rtF (-1) (fs.take k) 0 id f.to
          · exact up ((ih x y).1 (Path.absorb hk ((rt_path fs (-1) k _ _).1 hr) h'))
          · have hc : chB fs k = true := by rw [chB_some hk, hm]; simp [hr]
            have hed : Path fs (fun j => j < k + 1 ∧ chB fs j = true) f.fr f.to := Path.one hk ⟨by omega, hc⟩
            rcases h'.split hk with h | ⟨h1, h2⟩ | ⟨h1, h2⟩
            · exact up ((ih x y).1 h)
            · exact (up ((ih _ _).1 h1)).trans (hed.trans (up ((ih _ _).1 h2)))
            · exact (up ((ih _ _).1 h1)).trans (hed.symm.trans (up ((ih _ _).1 h2)))
        · refine up ((ih x y).1 (h.mono fun j g hj he => ⟨?_, he.2⟩))
          have h1 := he.1
          have h2 : j ≠ k := fun e => by
            subst e
            obtain ⟨⟨g', hg', hm'⟩, _⟩ := he.2
            rw [hk] at hg'; cases hg'
            exact hm hm'
          omega
    · exact fun h => h.mono fun j f _ he => ⟨he.1, chB_unm he.2⟩
theorem forest_all (fs : List FlowD) (x y : Int) : rtF (-1) fs 0 id x = rtF (-1) fs 0 id y ↔ Path fs (fun j => chB fs j = true) x y := by
  rw [rt_path_all]
  have := forest_path fs fs.length x y
  constructor
  · intro h
    exact (this.1 (h.mono fun j f hj he => ⟨(List.getElem?_eq_some_iff.1 hj).1, he⟩)).mono fun j f _ he => he.2
  · exact fun h => h.mono fun j f _ he => chB_unm he
/-- Without a flow of the forest its ends are not joined by the others. -/
theorem forest_cut (fs : List FlowD) : ∀ (k i : Nat) (f : FlowD), i < k → fs[i]? = some f → chB fs i = true → ¬ Path fs (fun j => j < k ∧ chB fs j = true ∧ j ≠ i) f.fr f.to := fun k => by
  induction k with
  | zero => intro i f h; omega
  | succ k ih =>
    intro i f hi hf hc h
    have hnr : ∀ {k : Nat} {g : FlowD}, fs[k]? = some g → chB fs k = true → ¬ Path fs (fun j => j < k ∧ chB fs j = true) g.fr g.to := fun {k g} hg hcg hp => by
      rw [← forest_path, ← rt_path] at hp
      rw [chB_some hg, hp] at hcg
      simp at hcg
    by_cases e : i = k
    · subst e
      exact hnr hf hc (h.mono fun j g _ he => ⟨by have := he.1; have := he.2.2; omega, he.2.1⟩)
    · have hik : i < k := by omega
      by_cases hck : chB fs k = true
      · obtain ⟨g, hg⟩ : ∃ g, fs[k]? = some g := by
          obtain ⟨⟨g, hg, _⟩, _⟩ := chB_unm hck
          exact ⟨g, hg⟩
        have h' : Path fs (fun j => (j < k ∧ chB fs j = true ∧ j ≠ i) ∨ j = k) f.fr f.to := h.mono fun j g _ he => by
          by_cases e : j = k
          · exact .inr e
          · exact .inl ⟨by have := he.1; omega, he.2⟩
        have up : ∀ {x y}, Path fs (fun j => j < k ∧ chB fs j = true ∧ j ≠ i) x y → Path fs (fun j => j < k ∧ chB fs j = true) x y := fun h => h.mono fun j f _ he => ⟨he.1, he.2.1⟩
        have hed : Path fs (fun j => j < k ∧ chB fs j = true) f.fr f.to := Path.one hf ⟨hik, hc⟩
        rcases h'.split hg with h | ⟨h1, h2⟩ | ⟨h1, h2⟩
        · exact ih i f hik hf hc h
        · exact hnr hg hck ((up h1).symm.trans (hed.trans (up h2).symm))
        · exact hnr hg hck ((up h2).trans (hed.symm.trans (up h1)))
      · refine ih i f hik hf hc (h.mono fun j g hj he => ⟨?_, he.2⟩)
        have h1 := he.1
        have h2 : j ≠ k := fun e => by subst e; exact hck he.2.1
        omega
/-- The flows of the forest, without one. -/
def FE (fs : List FlowD) (b : Int) (j : Nat) : Prop := chB fs j = true ∧ (j : Int) ≠ b
theorem FE_cut {fs : List FlowD} {i : Nat} {f : FlowD} (hf : fs[i]? = some f) (hc : chB fs i = true) : ¬ Path fs (FE fs i) f.fr f.to := fun h =>
  forest_cut fs fs.length i f (List.getElem?_eq_some_iff.1 hf).1 hf hc (h.mono fun j g hj he => ⟨(List.getElem?_eq_some_iff.1 hj).1, he.1, fun e => he.2 (by rw [e])⟩)
/-- Ends of a flow. -/
def Ends (f : FlowD) (e w : Int) : Prop := (f.fr = e ∧ f.to = w) ∨ (f.fr = w ∧ f.to = e)
theorem Ends.symm {f : FlowD} {e w : Int} (h : Ends f e w) : Ends f w e := by
  rcases h with ⟨a, b⟩ | ⟨a, b⟩
  · exact .inr ⟨a, b⟩
  · exact .inl ⟨a, b⟩
theorem FE_cut2 {fs : List FlowD} {i : Nat} {f : FlowD} {e w : Int} (hf : fs[i]? = some f) (hc : chB fs i = true) (he : Ends f e w) : ¬ Path fs (FE fs i) w e := fun h => by
  rcases he with ⟨rfl, rfl⟩ | ⟨rfl, rfl⟩
  · exact FE_cut hf hc h.symm
  · exact FE_cut hf hc h
/-- What hangs on an end behind a flow hangs on it. -/
theorem sub_path {fs : List FlowD} {i : Nat} {f : FlowD} {b e w : Int} (hf : fs[i]? = some f) (hc : chB fs i = true) (he : Ends f e w) (hib : (i : Int) ≠ b) (hb : ∀ (j : Nat) (g : FlowD), (j : Int) = b → fs[j]? = some g → g.fr = e ∨ g.to = e) {y : Int} (h : Path fs (FE fs i) w y) :
    Path fs (FE fs b) e y ∧ y ≠ e := by
  have hne : ∀ {y}, Path fs (FE fs i) w y → y ≠ e := fun h e' => by subst e'; exact FE_cut2 hf hc he h
  refine ⟨?_, hne h⟩
  induction h with
  | refl => exact .step i f .refl hf ⟨hc, hib⟩ he
  | step j g h hj hfe hz ih =>
    refine .step j g ih hj ⟨hfe.1, fun e' => ?_⟩ hz
    have h1 := hne h
    have h2 := hne (Path.step j g h hj hfe hz)
    rcases hb j g e' hj with q | q <;> rcases hz with ⟨a, c⟩ | ⟨a, c⟩
    · exact h1 (a.symm.trans q)
    · exact h2 (a.symm.trans q)
    · exact h2 (c.symm.trans q)
    · exact h1 (c.symm.trans q)
/-- What hangs on an end behind two flows is apart. -/
theorem sub_apart {fs : List FlowD} {i i' : Nat} {f f' : FlowD} {e w w' : Int} (hf : fs[i]? = some f) (hc : chB fs i = true) (he : Ends f e w) (hf' : fs[i']? = some f') (hc' : chB fs i' = true) (he' : Ends f' e w') (hne : i ≠ i') {y : Int}
    (h : Path fs (FE fs i) w y) (h' : Path fs (FE fs i') w' y) : False := by
  have hi : (i : Int) ≠ i' := by omega
  have inc : ∀ (j : Nat) (g : FlowD), (j : Int) = (i : Int) → fs[j]? = some g → g.fr = e ∨ g.to = e := fun j g hj hg => by
    obtain rfl : j = i := by omega
    rw [hf] at hg; cases hg
    rcases he with ⟨a, _⟩ | ⟨_, a⟩
    · exact .inl a
    · exact .inr a
  -- from the end, over the other flow, to y: never over this flow
  have h1 := (sub_path (b := i) hf' hc' he' (fun q => hi q.symm) inc h').1
  exact FE_cut2 hf hc he (h.trans h1.symm)
end Go.Proofs.Ytifkpaomhnlahaa
namespace Go.Proofs.Ytifkpaomhnlahaa
open Go Kern
/-! Masses as sums -/
theorem Mass.ext' {m p : Mass} (h1 : m.a = p.a) (h2 : m.b = p.b) (h3 : m.c = p.c) (h4 : m.d = p.d) : m = p := by
  cases m; cases p; simp_all
theorem Mass.add_zero (m : Mass) : m.add Mass.zero = m := by apply Mass.ext' <;> simp [Mass.add, Mass.zero]
theorem Mass.zero_add (m : Mass) : Mass.zero.add m = m := by apply Mass.ext' <;> simp [Mass.add, Mass.zero]
theorem Mass.add_assoc (m p q : Mass) : (m.add p).add q = m.add (p.add q) := by apply Mass.ext' <;> simp [Mass.add, Int.add_assoc]
theorem Mass.add_comm (m p : Mass) : m.add p = p.add m := by apply Mass.ext' <;> simp [Mass.add, Int.add_comm]
theorem Mass.add_neg (m : Mass) : m.add (Mass.zero.sub m) = Mass.zero := by apply Mass.ext' <;> simp [Mass.add, Mass.sub, Mass.zero] <;> omega
theorem Mass.add_swap (m p q r : Mass) : (m.add p).add (q.add r) = (m.add q).add (p.add r) := by apply Mass.ext' <;> simp [Mass.add] <;> omega
theorem Mass.neg_neg (m : Mass) : Mass.zero.sub (Mass.zero.sub m) = m := by apply Mass.ext' <;> simp [Mass.sub, Mass.zero]
theorem Mass.sub_zero_zero : Mass.zero.sub Mass.zero = Mass.zero := by apply Mass.ext' <;> simp [Mass.sub, Mass.zero]
theorem Mass.add_sub_eq (m p : Mass) : m.sub p = m.add (Mass.zero.sub p) := by apply Mass.ext' <;> simp [Mass.add, Mass.sub, Mass.zero] <;> omega
theorem Mass.le_zero {B : Int} (h : 0 ≤ B) : Mass.zero.le B := by simp [Mass.le, Mass.zero]; omega
theorem Mass.le_neg {m : Mass} {B : Int} (h : m.le B) : (Mass.zero.sub m).le B := by
  unfold Mass.le Mass.sub Mass.zero at *; simp only []; omega
def sumN (g : Nat → Mass) : Nat → Mass
  | 0 => Mass.zero
  | k + 1 => (sumN g k).add (g k)
theorem sumN_congr {g h : Nat → Mass} : ∀ {k : Nat}, (∀ j, j < k → g j = h j) → sumN g k = sumN h k
  | 0, _ => rfl
  | k + 1, hc => by
    unfold sumN
    rw [sumN_congr fun j hj => hc j (by omega), hc k (by omega)]
theorem sumN_add (g h : Nat → Mass) : ∀ k, sumN (fun j => (g j).add (h j)) k = (sumN g k).add (sumN h k)
  | 0 => (Mass.add_zero _).symm
  | k + 1 => by unfold sumN; rw [sumN_add g h k, Mass.add_swap]
theorem sumN_zero : ∀ k, sumN (fun _ => Mass.zero) k = Mass.zero
  | 0 => rfl
  | k + 1 => by unfold sumN; rw [sumN_zero k, Mass.add_zero]
theorem sumN_one {g : Nat → Mass} {i : Nat} : ∀ {k : Nat}, i < k → (∀ j, j < k → j ≠ i → g j = Mass.zero) → sumN g k = g i
  | 0, h, _ => by omega
  | k + 1, h, hz => by
    unfold sumN
    by_cases e : i = k
    · subst e
      rw [sumN_congr (h := fun _ => Mass.zero) fun j hj => hz j (by omega) (by omega), sumN_zero, Mass.zero_add]
    · rw [sumN_one (by omega) fun j hj hji => hz j (by omega) hji, hz k (by omega) (by omega), Mass.add_zero]
theorem sumN_take {α : Type} (c : α → Mass) : ∀ (l : List α) (k : Nat), k ≤ l.length → sumN (fun j => match l[j]? with | some x => c x | none => Mass.zero) k = (l.take k).foldl (fun a x => a.add (c x)) Mass.zero
  | l, 0, _ => by simp [sumN]
  | l, k + 1, h => by
    have hk : l[k]? = some l[k] := List.getElem?_eq_getElem (by omega)
    unfold sumN
    rw [sumN_take c l k (by omega), fold_take _ _ _ hk, hk]
/-- What a flow with some masses brings to an end. -/
def brings (f : FlowD) (v : Int) (m : Mass) : Mass := if f.to = v then m else if f.fr = v then Mass.zero.sub m else Mass.zero
/-- What it brings to a set of ends. -/
def bringsL (f : FlowD) (xs : List Int) (m : Mass) : Mass := if f.to ∈ xs then (if f.fr ∈ xs then Mass.zero else m) else if f.fr ∈ xs then Mass.zero.sub m else Mass.zero
theorem bringsL_one {f : FlowD} (hne : f.fr ≠ f.to) (v : Int) (m : Mass) : bringsL f [v] m = brings f v m := by
  unfold bringsL brings
  by_cases h1 : f.to = v
  · have h2 : ¬ f.fr = v := fun e => hne (e.trans h1.symm)
    simp [h1, h2]
  · simp [h1]
theorem excStep_brings (xs : List Int) (acc : Mass) (f : FlowD) : excStep xs acc f = acc.add (if f.me = true then bringsL f xs f.m else Mass.zero) := by
  unfold excStep bringsL
  by_cases hm : f.me = true
  · simp only [hm, if_true]
    by_cases h1 : f.fr ∈ xs <;> by_cases h2 : f.to ∈ xs <;> simp only [h1, h2, if_true, if_false]
    · rw [Mass.add_sub, Mass.add_zero]
    · exact Mass.add_sub_eq _ _
    · rw [Mass.add_zero]
  · rw [if_neg hm, if_neg hm, Mass.add_zero]
theorem excM_sum (xs : List Int) (fs : List FlowD) : excM xs fs = sumN (fun j => match fs[j]? with | some f => (if f.me = true then bringsL f xs f.m else Mass.zero) | none => Mass.zero) fs.length := by
  have h := sumN_take (fun f => if f.me = true then bringsL f xs f.m else Mass.zero) fs fs.length (Nat.le_refl _)
  rw [List.take_length] at h
  refine Eq.trans (Eq.trans ?_ h.symm) (sumN_congr fun j _ => by cases fs[j]? <;> rfl)
  unfold excM
  congr 1
  funext a f
  exact excStep_brings xs a f
/-! What comes to an end -/
/-- By a flow of the forest. -/
def contr (fs : List FlowD) (B : Nat → Mass) (v : Int) (j : Nat) : Mass := match fs[j]? with
  | some f => if chB fs j = true then brings f v (B j) else Mass.zero
  | none => Mass.zero
/-- By what is measured and by the first k flows of the forest, but one. -/
def netx (fs : List FlowD) (B : Nat → Mass) (v b : Int) (k : Nat) : Mass := (excM [v] fs).add (sumN (fun j => if (j : Int) = b then Mass.zero else contr fs B v j) k)
def netB (fs : List FlowD) (B : Nat → Mass) (v : Int) : Mass := netx fs B v (-1) fs.length
theorem contr_congr {fs : List FlowD} {B B' : Nat → Mass} {v : Int} {j : Nat} (h : ∀ f, fs[j]? = some f → chB fs j = true → (f.fr = v ∨ f.to = v) → B j = B' j) : contr fs B v j = contr fs B' v j := by
  unfold contr
  cases hj : fs[j]? with
  | none => rfl
  | some f =>
    simp only []
    split
    · rename_i hc
      unfold brings
      by_cases h1 : f.to = v
      · rw [if_pos h1, if_pos h1, h f hj hc (.inr h1)]
      · rw [if_neg h1, if_neg h1]
        by_cases h2 : f.fr = v
        · rw [if_pos h2, if_pos h2, h f hj hc (.inl h2)]
        · rw [if_neg h2, if_neg h2]
    · rfl
theorem netx_congr {fs : List FlowD} {B B' : Nat → Mass} {v b : Int} {k : Nat} (h : ∀ j f, j < k → (j : Int) ≠ b → fs[j]? = some f → chB fs j = true → (f.fr = v ∨ f.to = v) → B j = B' j) : netx fs B v b k = netx fs B' v b k := by
  unfold netx
  congr 1
  refine sumN_congr fun j hj => ?_
  by_cases e : (j : Int) = b
  · rw [if_pos e, if_pos e]
  · rw [if_neg e, if_neg e]
    exact contr_congr fun f hf hc hv => h j f hj e hf hc hv
theorem netx_succ (fs : List FlowD) (B : Nat → Mass) (v b : Int) (k : Nat) : netx fs B v b (k + 1) = (netx fs B v b k).add (if (k : Int) = b then Mass.zero else contr fs B v k) := by
  unfold netx
  rw [Mass.add_assoc]; rfl
theorem netB_split {fs : List FlowD} {B : Nat → Mass} {v : Int} {i : Nat} (hi : i < fs.length) : netB fs B v = (netx fs B v i fs.length).add (contr fs B v i) := by
  unfold netB netx
  rw [Mass.add_assoc]
  congr 1
  have h1 : sumN (fun j => if (j : Int) = (i : Int) then contr fs B v j else Mass.zero) fs.length = contr fs B v i := by
    rw [sumN_one hi fun j _ hj => if_neg (by omega)]
    rw [if_pos rfl]
  rw [← h1, ← sumN_add]
  refine sumN_congr fun j _ => ?_
  by_cases e : (j : Int) = (i : Int)
  · rw [if_pos e, if_pos e, if_neg (by omega), Mass.zero_add]
  · rw [if_neg e, if_neg e, if_neg (by omega), Mass.add_zero]
/-! How many ends -/
open Classical in
noncomputable def cntP (n : Nat) (P : Int → Prop) : Nat := ((List.range (n + 1)).filter fun i : Nat => decide (P ((i : Int) - 1))).length
theorem cntP_congr {n : Nat} {P Q : Int → Prop} (h : ∀ x, P x ↔ Q x) : cntP n P = cntP n Q := by
  have : P = Q := by funext x; exact propext (h x)
  rw [this]
theorem cntP_le (n : Nat) (P : Int → Prop) : cntP n P ≤ n + 1 := by
  unfold cntP
  exact Nat.le_trans (List.length_filter_le _ _) (by simp)
theorem filter_or {l : List Nat} {p q : Nat → Bool} (h : ∀ i, p i = true → q i = true → False) : (l.filter fun i => p i || q i).length = (l.filter p).length + (l.filter q).length := by
  induction l with
  | nil => rfl
  | cons a r ih =>
    simp only [List.filter_cons]
    cases hp : p a <;> cases hq : q a
    · simpa using ih
    · simp only [Bool.false_or, if_true, Bool.false_eq_true, if_false, List.length_cons, ih]; omega
    · simp only [Bool.or_false, if_true, Bool.false_eq_true, if_false, List.length_cons, ih]; omega
    · exact absurd hq (fun hq => h a hp hq)
theorem cntP_or {n : Nat} {P Q : Int → Prop} (h : ∀ x, P x → Q x → False) : cntP n (fun x => P x ∨ Q x) = cntP n P + cntP n Q := by
  unfold cntP
  rw [← filter_or]
  · congr 1
    apply List.filter_congr
    intro i _
    by_cases h1 : P ((i : Int) - 1) <;> by_cases h2 : Q ((i : Int) - 1) <;> simp [h1, h2]
  · intro i h1 h2
    exact h _ (by simpa using h1) (by simpa using h2)
theorem cntP_one {n : Nat} {e : Int} (h : -1 ≤ e ∧ e < n) : cntP n (fun x => x = e) = 1 := by
  have h2 : cntP n (fun x => x = e) = ((List.range (n + 1)).filter fun i : Nat => i == (e + 1).toNat).length := by
    unfold cntP
    congr 1
    apply List.filter_congr
    intro i _
    have : ((i : Int) - 1 = e) ↔ i = (e + 1).toNat := by omega
    by_cases h1 : i = (e + 1).toNat
    · exact Eq.trans (@decide_eq_true _ (_) (this.2 h1)) (beq_iff_eq.2 h1).symm
    · exact Eq.trans (@decide_eq_false _ (_) (fun q => h1 (this.1 q))) (beq_eq_false_iff_ne.2 h1).symm
  rw [h2]
  have hlt : (e + 1).toNat < n + 1 := by omega
  have key : ∀ (m k : Nat), ((List.range m).filter fun i : Nat => i == k).length = if k < m then 1 else 0 := fun m k => by
    induction m with
    | zero => simp
    | succ m ih =>
      rw [List.range_succ, List.filter_append, List.length_append, ih]
      by_cases h1 : k < m
      · have : ¬ m = k := by omega
        simp [h1, this, Nat.lt_succ_of_lt h1]
      · by_cases h2 : m = k
        · subst h2; simp
        · have h3 : ¬ k < m + 1 := by omega
          simp [h1, h2, h3]
  rw [key, if_pos hlt]
theorem cntP_mono {n : Nat} {P Q : Int → Prop} (h : ∀ x, P x → Q x) : cntP n P ≤ cntP n Q := by
  have h1 : cntP n Q = cntP n (fun x => P x ∨ (Q x ∧ ¬ P x)) := cntP_congr fun x => by
    by_cases hp : P x
    · simp [hp, h x hp]
    · simp [hp]
  rw [h1, cntP_or (fun x h1 h2 => h2.2 h1)]
  omega
theorem cntP_lt {n : Nat} {P Q : Int → Prop} (h : ∀ x, P x → Q x) {e : Int} (he : -1 ≤ e ∧ e < n) (hq : Q e) (hp : ¬ P e) : cntP n P < cntP n Q := by
  have h1 := cntP_mono (n := n) (P := fun x => P x ∨ x = e) (Q := Q) fun x hx => by
    rcases hx with hx | rfl
    · exact h x hx
    · exact hq
  rw [cntP_or (P := P) (Q := fun x => x = e) (fun x q1 q2 => hp (by subst q2; exact q1)), cntP_one he] at h1
  omega
end Go.Proofs.Ytifkpaomhnlahaa
namespace Go.Proofs.Ytifkpaomhnlahaa
open Go Kern
/-- The end, and what hangs on it behind the first k flows. -/
def Tk (fs : List FlowD) (e b : Int) (k : Nat) (x : Int) : Prop := x = e ∨ ∃ (i : Nat) (f : FlowD) (w : Int), i < k ∧ fs[i]? = some f ∧ chB fs i = true ∧ (i : Int) ≠ b ∧ Ends f e w ∧ Path fs (FE fs i) w x
def Touch (fs : List FlowD) (e b : Int) (k j : Nat) : Prop :=
  ∃ f, fs[j]? = some f ∧ chB fs j = true ∧ (j : Int) ≠ b ∧ ((j < k ∧ (f.fr = e ∨ f.to = e)) ∨ ∃ (i : Nat) (g : FlowD) (w : Int), i < k ∧ i ≠ j ∧ fs[i]? = some g ∧ chB fs i = true ∧ (i : Int) ≠ b ∧ Ends g e w ∧ Path fs (FE fs i) w f.fr)
structure GInv (fs : List FlowD) (n : Nat) (K W : Int) (e b : Int) (k : Nat) (R0 : Int → Bool) (B0 : Nat → Mass) (R : Int → Bool) (B : Nat → Mass) (left : Mass) : Prop where
  reach : ∀ x : Int, -1 ≤ x → x < n → (R x = true ↔ R0 x = true ∨ Tk fs e b k x)
  touch : ∀ j, B j ≠ B0 j → Touch fs e b k j
  nets : ∀ v, Tk fs e b k v → v ≠ e → netB fs B v = Mass.zero
  sum : left = netx fs B e b k
  le : left.le (cntP n (Tk fs e b k) * K)
  bound : ∀ j, (B j).le W
structure GDone (fs : List FlowD) (n : Nat) (K W : Int) (e b : Int) (R0 : Int → Bool) (B0 : Nat → Mass) (R : Int → Bool) (B : Nat → Mass) (left : Mass) : Prop where
  reach : ∀ x : Int, -1 ≤ x → x < n → (R x = true ↔ R0 x = true ∨ Path fs (FE fs b) e x)
  touch : ∀ j, B j ≠ B0 j → ∃ f, fs[j]? = some f ∧ chB fs j = true ∧ (j : Int) ≠ b ∧ Path fs (FE fs b) e f.fr
  nets : ∀ v, Path fs (FE fs b) e v → v ≠ e → netB fs B v = Mass.zero
  sum : left = netx fs B e b fs.length
  le : left.le (cntP n (Path fs (FE fs b) e) * K)
  bound : ∀ j, (B j).le W
section
variable {fs : List FlowD} {n : Nat} {K W e b : Int} {k : Nat} {R0 R R' : Int → Bool} {B0 B B' : Nat → Mass} {left rest : Mass}
theorem Tk_zero (x : Int) : Tk fs e b 0 x ↔ x = e := by
  unfold Tk
  constructor
  · rintro (h | ⟨i, f, w, hi, _⟩)
    · exact h
    · omega
  · exact .inl
theorem Tk_mono {k' : Nat} (h : k ≤ k') {x : Int} (hx : Tk fs e b k x) : Tk fs e b k' x := by
  rcases hx with rfl | ⟨i, f, w, hi, hr⟩
  · exact .inl rfl
  · exact .inr ⟨i, f, w, by omega, hr⟩
theorem Touch_mono {k' j : Nat} (h : k ≤ k') (hx : Touch fs e b k j) : Touch fs e b k' j := by
  obtain ⟨f, h1, h2, h3, h4⟩ := hx
  refine ⟨f, h1, h2, h3, ?_⟩
  rcases h4 with ⟨a, c⟩ | ⟨i, g, w, hi, hr⟩
  · exact .inl ⟨by omega, c⟩
  · exact .inr ⟨i, g, w, by omega, hr⟩
theorem GInv.start (hK : 0 ≤ K) (he : -1 ≤ e ∧ e < n) (hx : (excM [e] fs).le K) (hB : ∀ j, (B0 j).le W) (hR : ∀ x : Int, -1 ≤ x → x < n → (R x = true ↔ R0 x = true ∨ x = e)) : GInv fs n K W e b 0 R0 B0 R B0 (excM [e] fs) where
  reach := fun x h1 h2 => by rw [hR x h1 h2, Tk_zero]
  touch := fun j h => absurd rfl h
  nets := fun v h1 h2 => absurd ((Tk_zero v).1 h1) h2
  sum := by unfold netx sumN; rw [Mass.add_zero]
  le := by rw [cntP_congr fun x => Tk_zero x, cntP_one he]; exact hx.mono (by omega)
  bound := hB
theorem Tk_skip {f : FlowD} (hf : fs[k]? = some f) (h : chB fs k = false ∨ (k : Int) = b ∨ (f.fr ≠ e ∧ f.to ≠ e)) (x : Int) : Tk fs e b (k + 1) x ↔ Tk fs e b k x := by
  constructor
  · rintro (rfl | ⟨i, g, w, hi, hg, hc, hb, he, hp⟩)
    · exact .inl rfl
    · have hik : i ≠ k := fun q => by
        subst q
        rw [hf] at hg; cases hg
        rcases h with h | h | ⟨h1, h2⟩
        · rw [h] at hc; cases hc
        · exact hb h
        · rcases he with ⟨a, _⟩ | ⟨_, a⟩
          · exact h1 a
          · exact h2 a
      exact .inr ⟨i, g, w, by omega, hg, hc, hb, he, hp⟩
  · exact Tk_mono (by omega)
theorem GInv.skip {f : FlowD} (hf : fs[k]? = some f) (h : chB fs k = false ∨ (k : Int) = b ∨ (f.fr ≠ e ∧ f.to ≠ e)) (hi : GInv fs n K W e b k R0 B0 R B left) : GInv fs n K W e b (k + 1) R0 B0 R B left where
  reach := fun x h1 h2 => by rw [Tk_skip hf h]; exact hi.reach x h1 h2
  touch := fun j hj => Touch_mono (by omega) (hi.touch j hj)
  nets := fun v h1 h2 => hi.nets v ((Tk_skip hf h v).1 h1) h2
  sum := by
    rw [netx_succ, ← hi.sum]
    have : (if (k : Int) = b then Mass.zero else contr fs B e k) = Mass.zero := by
      by_cases hb : (k : Int) = b
      · rw [if_pos hb]
      · rw [if_neg hb]
        unfold contr
        rw [hf]
        simp only []
        rcases h with h | h | ⟨h1, h2⟩
        · rw [h]; rfl
        · exact absurd h hb
        · unfold brings; rw [if_neg h2, if_neg h1]; split <;> rfl
    rw [this, Mass.add_zero]
  le := by rw [cntP_congr fun x => Tk_skip hf h x]; exact hi.le
  bound := hi.bound
theorem Tk_sub {f : FlowD} {w : Int} (hf : fs[k]? = some f) (hc : chB fs k = true) (hb : (k : Int) ≠ b) (hne : f.fr ≠ f.to) (he : Ends f e w) (x : Int) : Tk fs e b (k + 1) x ↔ Tk fs e b k x ∨ Path fs (FE fs k) w x := by
  constructor
  · rintro (rfl | ⟨i, g, w', hi, hg, hc', hb', he', hp⟩)
    · exact .inl (.inl rfl)
    · by_cases q : i = k
      · subst q
        rw [hf] at hg; cases hg
        have : w' = w := by
          rcases he with ⟨a, c⟩ | ⟨a, c⟩ <;> rcases he' with ⟨a', c'⟩ | ⟨a', c'⟩
          · exact c'.symm.trans c
          · exact absurd (a.trans c'.symm) hne
          · exact absurd (a'.trans c.symm) hne
          · exact a'.symm.trans a
        subst this
        exact .inr hp
      · exact .inl (.inr ⟨i, g, w', by omega, hg, hc', hb', he', hp⟩)
  · rintro (h | h)
    · exact Tk_mono (by omega) h
    · exact .inr ⟨k, f, w, by omega, hf, hc, hb, he, h⟩
theorem Tk_apart {f : FlowD} {w : Int} (hf : fs[k]? = some f) (hc : chB fs k = true) (he : Ends f e w) {x : Int} (h1 : Tk fs e b k x) (h2 : Path fs (FE fs k) w x) : False := by
  rcases h1 with rfl | ⟨i, g, w', hi, hg, hc', hb', he', hp⟩
  · exact FE_cut2 hf hc he h2
  · exact sub_apart hg hc' he' hf hc he (by omega) hp h2
/-- A flow of the forest that hangs there has both ends there. -/
theorem hang_ends {i j : Nat} {f : FlowD} {w : Int} (hf : fs[j]? = some f) (hc : chB fs j = true) (hij : i ≠ j) (h : Path fs (FE fs i) w f.fr) {v : Int} (hv : f.fr = v ∨ f.to = v) : Path fs (FE fs i) w v := by
  rcases hv with rfl | rfl
  · exact h
  · exact .step j f h hf ⟨hc, by omega⟩ (.inl ⟨rfl, rfl⟩)
theorem GInv.sub {f : FlowD} {w : Int} {m : Mass} (hf : fs[k]? = some f) (hc : chB fs k = true) (hb : (k : Int) ≠ b) (hne : f.fr ≠ f.to) (he : Ends f e w) (hinc : ∀ (j : Nat) (g : FlowD), (j : Int) = b → fs[j]? = some g → g.fr = e ∨ g.to = e) (hW : (n + 1) * K ≤ W) (hK : 0 ≤ K)
    (hm : m = if f.to = e then rest else Mass.zero.sub rest) (hi : GInv fs n K W e b k R0 B0 R B left) (hd : GDone fs n K W w k R B R' B' rest) :
    GInv fs n K W e b (k + 1) R0 B0 R' (fun j => if j = k then m else B' j) (left.add rest) := by
  have hwe : w ≠ e := by
    rcases he with ⟨a, c⟩ | ⟨a, c⟩
    · intro q; exact hne (a.trans (q.symm.trans c.symm))
    · intro q; exact hne (a.trans (q.trans c.symm))
  have hcut := FE_cut2 hf hc he
  have hklen : k < fs.length := (List.getElem?_eq_some_iff.1 hf).1
  -- what the flow brings to both ends
  have hbe : brings f e m = rest := by
    rw [hm]
    unfold brings
    rcases he with ⟨a, c⟩ | ⟨a, c⟩
    · rw [if_neg (by rw [c]; exact hwe), if_pos a, if_neg (by rw [c]; exact hwe), Mass.neg_neg]
    · rw [if_pos c, if_pos c]
  have hbw : brings f w m = Mass.zero.sub rest := by
    rw [hm]
    unfold brings
    rcases he with ⟨a, c⟩ | ⟨a, c⟩
    · rw [if_pos c, if_neg (by rw [c]; exact hwe)]
    · rw [if_neg (by rw [c]; exact fun q => hwe q.symm), if_pos a, if_pos c]
  have hkk : ∀ v, contr fs (fun j => if j = k then m else B' j) v k = brings f v m := fun v => by
    unfold contr; rw [hf]; simp only [hc, if_true]
  refine ⟨fun x h1 h2 => ?_, fun j hj => ?_, fun v h1 h2 => ?_, ?_, ?_, fun j => ?_⟩
  · rw [hd.reach x h1 h2, hi.reach x h1 h2, Tk_sub hf hc hb hne he, or_assoc]
  · change (if j = k then m else B' j) ≠ B0 j at hj
    by_cases q : j = k
    · subst q
      refine ⟨f, hf, hc, hb, .inl ⟨by omega, ?_⟩⟩
      rcases he with ⟨a, _⟩ | ⟨_, a⟩
      · exact .inl a
      · exact .inr a
    · rw [if_neg q] at hj
      by_cases h' : B' j = B j
      · exact Touch_mono (by omega) (hi.touch j (by rw [← h']; exact hj))
      · obtain ⟨g, hg, hcg, hgk, hp⟩ := hd.touch j h'
        have hkj : k ≠ j := fun q' => q q'.symm
        have hjb : (j : Int) ≠ b := fun hjb => hcut (hang_ends hg hcg hkj hp (hinc j g hjb hg))
        exact ⟨g, hg, hcg, hjb, .inr ⟨k, f, w, by omega, hkj, hf, hc, hb, he, hp⟩⟩
  · have hkeep : ∀ (j : Nat) (g : FlowD), fs[j]? = some g → chB fs j = true → (g.fr = v ∨ g.to = v) → ¬ Path fs (FE fs k) w v → (if j = k then m else B' j) = B j := fun j g hg hcg hv hnp => by
      have hjk : j ≠ k := fun q => by
        subst q
        rw [hf] at hg; cases hg
        have hvw : v = w := by
          rcases he with ⟨a, c⟩ | ⟨a, c⟩ <;> rcases hv with hv | hv
          · exact absurd (hv.symm.trans a) h2
          · exact hv.symm.trans c
          · exact hv.symm.trans a
          · exact absurd (hv.symm.trans c) h2
        subst hvw
        exact hnp .refl
      rw [if_neg hjk]
      refine Classical.byContradiction fun h' => ?_
      obtain ⟨g', hg', hcg', hgk, hp⟩ := hd.touch j h'
      rw [hg] at hg'; cases hg'
      exact hnp (hang_ends hg hcg (fun q => hjk q.symm) hp hv)
    rcases (Tk_sub hf hc hb hne he v).1 h1 with h | h
    · have hnp : ¬ Path fs (FE fs k) w v := fun hp => Tk_apart hf hc he h hp
      rw [← hi.nets v h h2]
      exact netx_congr fun j g _ _ hg hcg hv => hkeep j g hg hcg hv hnp
    · by_cases hvw : v = w
      · subst hvw
        rw [netB_split hklen, hkk, hbw]
        have : netx fs (fun j => if j = k then m else B' j) v k fs.length = rest := by
          rw [hd.sum]
          refine netx_congr fun j g _ hjk _ _ _ => ?_
          rw [if_neg (by omega)]
        rw [this, Mass.add_neg]
      · rw [← hd.nets v h hvw]
        refine netx_congr fun j g _ _ hg hcg hv => ?_
        have hjk : j ≠ k := fun q => by
          subst q
          rw [hf] at hg; cases hg
          rcases he with ⟨a, c⟩ | ⟨a, c⟩ <;> rcases hv with hv | hv
          · exact h2 (hv.symm.trans a)
          · exact hvw (hv.symm.trans c)
          · exact hvw (hv.symm.trans a)
          · exact h2 (hv.symm.trans c)
        rw [if_neg hjk]
  · rw [netx_succ, if_neg hb, hkk, hbe]
    congr 1
    rw [hi.sum]
    refine netx_congr fun j g hj hjb hg hcg hv => ?_
    have hjk : j ≠ k := by omega
    rw [if_neg hjk]
    refine Classical.byContradiction fun h' => ?_
    obtain ⟨g', hg', hcg', hgk, hp⟩ := hd.touch j (fun q => h' q.symm)
    rw [hg] at hg'; cases hg'
    exact hcut (hang_ends hg hcg (fun q => hjk q.symm) hp hv)
  · rw [cntP_congr fun x => Tk_sub hf hc hb hne he x, cntP_or fun x h1 h2 => Tk_apart hf hc he h1 h2]
    refine (hi.le.add hd.le).mono ?_
    push_cast
    rw [Int.add_mul]
    exact Int.le_refl _
  · have hr : rest.le W := hd.le.mono (by
      have h1 := cntP_le n (Path fs (FE fs k) w)
      have h2 : ((cntP n (Path fs (FE fs k) w) : Nat) : Int) * K ≤ ((n : Int) + 1) * K := Int.mul_le_mul_of_nonneg_right (by omega) hK
      omega)
    show (if j = k then m else B' j).le W
    by_cases q : j = k
    · rw [if_pos q, hm]
      split
      · exact hr
      · exact Mass.le_neg hr
    · rw [if_neg q]; exact hd.bound j
theorem Tk_all (hinc : ∀ (j : Nat) (g : FlowD), (j : Int) = b → fs[j]? = some g → g.fr = e ∨ g.to = e) (x : Int) : Tk fs e b fs.length x ↔ Path fs (FE fs b) e x := by
  constructor
  · rintro (rfl | ⟨i, f, w, hi, hf, hc, hb, he, hp⟩)
    · exact .refl
    · exact (sub_path hf hc he hb hinc hp).1
  · intro h
    induction h with
    | refl => exact .inl rfl
    | step j f h hj hfe hz ih =>
      rename_i y z
      have hlen := (List.getElem?_eq_some_iff.1 hj).1
      by_cases hze : z = e
      · exact .inl hze
      rcases ih with rfl | ⟨i, g, w, hi, hg, hc, hb, he, hp⟩
      · exact .inr ⟨j, f, z, hlen, hj, hfe.1, hfe.2, hz, .refl⟩
      · by_cases hij : i = j
        · subst hij
          rw [hg] at hj; cases hj
          have hzw : z = w := by
            rcases he with ⟨a, c⟩ | ⟨a, c⟩ <;> rcases hz with ⟨a', c'⟩ | ⟨a', c'⟩
            · exact c'.symm.trans c
            · exact absurd (a'.symm.trans a) hze
            · exact absurd (c'.symm.trans c) hze
            · exact a'.symm.trans a
          subst hzw
          exact .inr ⟨i, _, z, hi, hg, hc, hb, he, .refl⟩
        · exact .inr ⟨i, g, w, hi, hg, hc, hb, he, .step j f hp hj ⟨hfe.1, by omega⟩ hz⟩
theorem GInv.done (hinc : ∀ (j : Nat) (g : FlowD), (j : Int) = b → fs[j]? = some g → g.fr = e ∨ g.to = e) (hi : GInv fs n K W e b fs.length R0 B0 R B left) : GDone fs n K W e b R0 B0 R B left where
  reach := fun x h1 h2 => by rw [hi.reach x h1 h2, Tk_all hinc]
  touch := fun j hj => by
    obtain ⟨f, h1, h2, h3, h4⟩ := hi.touch j hj
    refine ⟨f, h1, h2, h3, ?_⟩
    rcases h4 with ⟨_, hv | hv⟩ | ⟨i, g, w, hik, hij, hg, hc, hb, he, hp⟩
    · rw [hv]; exact .refl
    · exact .step j f .refl h1 ⟨h2, h3⟩ (.inr ⟨rfl, hv⟩)
    · exact (sub_path hg hc he hb hinc hp).1
  nets := fun v h1 h2 => hi.nets v ((Tk_all hinc v).2 h1) h2
  sum := hi.sum
  le := by rw [← cntP_congr fun x => Tk_all hinc x]; exact hi.le
  bound := hi.bound
theorem sub_lt {f : FlowD} {w : Int} (hf : fs[k]? = some f) (hc : chB fs k = true) (hb : (k : Int) ≠ b) (he : Ends f e w) (hinc : ∀ (j : Nat) (g : FlowD), (j : Int) = b → fs[j]? = some g → g.fr = e ∨ g.to = e) (hV : -1 ≤ e ∧ e < n) :
    cntP n (Path fs (FE fs k) w) < cntP n (Path fs (FE fs b) e) :=
  cntP_lt (fun x hx => (sub_path hf hc he hb hinc hx).1) hV .refl (FE_cut2 hf hc he)
end
end Go.Proofs.Ytifkpaomhnlahaa
namespace Go.Proofs.Ytifkpaomhnlahaa
open Go Kern
theorem veq_sl {n k : Nat} {s : St} {v : Value} {l : List (List Value)} (h : SlAt n s v l) : veq (k + 1) v v = true := by
  cases h with
  | nil c => exact veq_sliceN _ _ _
  | mk hb ho hc he => exact veq_slice _ _ _ _ _
@[simp] theorem binVal_boolEq (t : TypeId) (fl : Bool) (a b : Bool) : binVal TT .bool t fl .eql (.bool a) (.bool b) = some (.bool (a == b)) := by
  cases a <;> cases b <;> rfl
@[simp] theorem binVal_boolNe (t : TypeId) (fl : Bool) (a b : Bool) : binVal TT .bool t fl .neq (.bool a) (.bool b) = some (.bool (a != b)) := by
  cases a <;> cases b <;> rfl
end Go.Proofs.Ytifkpaomhnlahaa
namespace Go.Proofs.Ytifkpaomhnlahaa
open Go Kern
/-- Cells that are gathered, in a block of their own. -/
def OwnC (N : Nat) (s : St) (w : Value) (cs : List Value) : Prop :=
  (cs = [] ∧ w = .slice none 0 0) ∨ ∃ b, w = .slice (some ⟨b, 0, none⟩) cs.length cs.length ∧ cs ≠ [] ∧ N ≤ b ∧ b < s.next ∧ s.heap.get b = some (.cells cs (some 1))
theorem drop_map_cons {α β : Type} {g : α → β} {l : List α} {i : Nat} {x : α} (h : l[i]? = some x) : (l.map g).drop i = g x :: (l.map g).drop (i + 1) := by
  rw [List.drop_eq_getElem_cons (by simpa using (List.getElem?_eq_some_iff.1 h).1)]
  have := (List.getElem?_eq_some_iff.1 h).2
  simp [this]
theorem OwnC.sl {N : Nat} {s : St} {w : Value} {α : Type} {g : α → Value} {l : List α} (h : OwnC N s w (l.map g)) : SlAt 1 s w (l.map fun x => [g x]) := by
  rcases h with ⟨h, rfl⟩ | ⟨b, rfl, hne, h1, h2, h3⟩
  · cases l with
    | nil => exact .nil 0
    | cons a t => cases h
  · have := SlAt.mk (n := 1) (s := s) (off := 0) (c := (l.map g).length) (l := l.map fun x => [g x]) h2 h3 rfl (fun i e he => ?_)
    · rw [List.length_map] at this; rw [List.length_map] at this ⊢; exact this
    · rw [List.getElem?_map] at he
      cases hb : l[i]? with
      | none => rw [hb] at he; cases he
      | some y =>
        rw [hb] at he; cases he
        rw [Nat.zero_add, Nat.mul_one, drop_map_cons hb]; rfl
set_option maxRecDepth 100000 in
set_option maxHeartbeats 2000000 in
theorem side_ev (v : Value) (hs : List Int) (h : Int) (s : St) (hx : IntsAt s v hs) (hl : hs.length ≤ 100000) :
    Ev TT 52 [v, .int .i64 h] s fun r s' => Keep s s' ∧ BoolsAt s' r (hs.map fun x => decide (x = h)) := by
  obtain ⟨a, c, rfl⟩ := hx.shape
  rw [List.length_map] at hx ⊢
  refine Ev.intro (fn := Try.f52) rfl (by kernel_rfl) rfl rfl ?_
  apply zz
  refine Cd.ra (h := ?_)
  apply Run.by_eq
  · intro self
    conv => lhs; simp -implicitDefEqProofs (maxSteps := 300000) (disch := omega) [-getElem?_pos, -getElem?_neg]
  try (with_reducible refine Run.ret ?_)
  apply zz
  refine Cd.ra (h := ?_)
  apply Run.by_eq
  · intro self
    conv => lhs; simp -implicitDefEqProofs (maxSteps := 300000) (disch := omega) [-getElem?_pos, -getElem?_neg]
  try (with_reducible refine Run.ret ?_)
  apply zz
  refine Cd.ra (h := ?_)
  apply Run.by_eq
  · intro self
    conv => lhs; simp -implicitDefEqProofs (maxSteps := 300000) (disch := omega) [-getElem?_pos, -getElem?_neg]
  try (with_reducible refine Run.ret ?_)
  apply zz
  refine Cd.inv (fun z f s' => ∃ k : Nat, k ≤ hs.length ∧ z = hs.length - k ∧ f.marks = [] ∧ f.get 6 = .int .i64 k ∧ f.get 0 = .slice a hs.length c ∧ f.get 1 = .int .i64 h ∧ Keep s s' ∧ OwnC s.next s' (f.get 5) ((hs.take k).map fun x => Value.bool (decide (x = h)))) hs.length ?_ ?_
  · exact ⟨0, by omega, rfl, by simp, by simp, by simp, by simp, ⟨by (try simp only [pushed_next', upded_next']); omega, fun i hi => by simp -implicitDefEqProofs (disch := omega) []⟩, .inl ⟨rfl, by simp⟩⟩
  rintro z f s' ⟨k, hk, rfl, hm, h6, h0, h1, hkp, hU⟩
  have hkpa := hkp.1
  have hkpb := hkp.2
  by_cases hlt : k < hs.length
  · obtain ⟨x, hxk⟩ : ∃ x, hs[k]? = some x := ⟨hs[k], by simp [hlt]⟩
    obtain ⟨b, off, o, cs, gg, rfl, hb, ho, hc, ht⟩ := IntsAt.at hx hxk
    rw [← hkpb _ hb] at ho
    have htk : (hs.take (k + 1)).map (fun x => Value.bool (decide (x = h))) = (hs.take k).map (fun x => Value.bool (decide (x = h))) ++ [Value.bool (decide (x = h))] := by rw [List.take_add_one, hxk]; simp
    have hlen : ((hs.take k).map fun x => Value.bool (decide (x = h))).length = k := by rw [List.length_map, List.length_take]; omega
    apply zz
    refine Cd.ra (h := ?_)
    apply Run.by_eq
    · intro self
      conv => lhs; simp -implicitDefEqProofs (maxSteps := 300000) (disch := omega) [-getElem?_pos, -getElem?_neg, h6, h0]
    try (with_reducible refine Run.ret ?_)
    apply zz
    apply Cd.ite rfl
    · conv => lhs; simp -implicitDefEqProofs (maxSteps := 300000) (disch := omega) [-getElem?_pos, -getElem?_neg]
    all_goals intro c0
    all_goals try (cases c0; done)
    all_goals try simp only [Bool.not_eq_true', Bool.not_eq_false', decide_eq_true_eq, decide_eq_false_iff_not] at c0
    all_goals apply zz
    · rcases hU with ⟨hce, hw⟩ | ⟨bu, hw, hne, hb1, hb2, hb3⟩
      · rw [hce] at hlen
        obtain rfl : k = 0 := hlen.symm
        rw [Nat.add_zero] at ht
        apply zz
        refine Cd.ra (h := ?_)
        apply Run.by_eq
        · intro self
          conv => lhs; simp -implicitDefEqProofs (maxSteps := 300000) (disch := omega) [-getElem?_pos, -getElem?_neg, h6, h0, h1, hw, ho, hc, ht, hlt]
        try (with_reducible refine Run.ret ?_)
        apply zz
        refine Cd.ra (h := ?_)
        apply Run.by_eq
        · intro self
          conv => lhs; simp -implicitDefEqProofs (maxSteps := 300000) (disch := omega) [-getElem?_pos, -getElem?_neg, h6]
        try (with_reducible refine Run.ret ?_)
        apply zz
        refine LoopK.nm (hs.length - (0 + 1)) (by omega) ⟨0 + 1, by omega, rfl, by simp [hm], by simp, by simp [h0], by simp [h1], ⟨by (try simp only [pushed_next', upded_next']); omega, fun i hi => by simp -implicitDefEqProofs (disch := omega) [hkpb]⟩, ?_⟩
        rw [htk, hce]
        exact .inr ⟨s'.next + 1, by simp, by simp, by omega, by simp, by simp⟩
      · rw [hlen] at hw
        apply zz
        refine Cd.ra (h := ?_)
        apply Run.by_eq
        · intro self
          conv => lhs; simp -implicitDefEqProofs (maxSteps := 300000) (disch := omega) [-getElem?_pos, -getElem?_neg, h6, h0, h1, hw, ho, hc, ht, hlt]
        try (with_reducible refine Run.ret ?_)
        apply zz
        apply Run.by_eq
        · intro self
          rw [appV_moreE (size := 1) (n := k) (old := (hs.take k).map fun x => Value.bool (decide (x = h))) ?happ1 (by rw [hlen]; omega) (by omega)]
          simp -implicitDefEqProofs (disch := omega) [hb3]
        apply Run.by_eq
        · intro self
          conv => lhs; simp -implicitDefEqProofs (maxSteps := 300000) (disch := omega) [-getElem?_pos, -getElem?_neg, hb3]
        try (with_reducible refine Run.ret ?_)
        apply zz
        refine Cd.ra (h := ?_)
        apply Run.by_eq
        · intro self
          conv => lhs; simp -implicitDefEqProofs (maxSteps := 300000) (disch := omega) [-getElem?_pos, -getElem?_neg, h6]
        try (with_reducible refine Run.ret ?_)
        apply zz
        refine LoopK.nm (hs.length - (k + 1)) (by omega) ⟨k + 1, by omega, rfl, by simp [hm], by simp, by simp [h0], by simp [h1], ⟨by (try simp only [pushed_next', upded_next']); omega, fun i hi => by simp -implicitDefEqProofs (disch := omega) [hkpb]⟩, ?_⟩
        rw [htk]
        exact .inr ⟨s'.next + 1, by simp [Nat.min_eq_left hk], by simp, by omega, by simp, by simp⟩
    · simp at c0; omega
  · obtain rfl : k = hs.length := by omega
    rw [List.take_length] at hU
    apply zz
    refine Cd.ra (h := ?_)
    apply Run.by_eq
    · intro self
      conv => lhs; simp -implicitDefEqProofs (maxSteps := 300000) (disch := omega) [-getElem?_pos, -getElem?_neg, h6, h0]
    try (with_reducible refine Run.ret ?_)
    apply zz
    apply Cd.ite rfl
    · conv => lhs; simp -implicitDefEqProofs (maxSteps := 300000) (disch := omega) [-getElem?_pos, -getElem?_neg]
    all_goals intro c0
    all_goals try (cases c0; done)
    all_goals try simp only [Bool.not_eq_true', Bool.not_eq_false', decide_eq_true_eq, decide_eq_false_iff_not] at c0
    all_goals apply zz
    apply zz
    refine Cd.ra (h := ?_)
    apply Run.by_eq
    · intro self
      conv => lhs; simp -implicitDefEqProofs (maxSteps := 300000) (disch := omega) [-getElem?_pos, -getElem?_neg]
    try (with_reducible refine Run.ret ?_)
    apply zz
    apply Leave.mk (by first | exact .inl rfl | exact .inr rfl) (by simp only [Fr.marks_put, fr0_marks, hm])
    · conv => lhs; simp -implicitDefEqProofs (disch := omega) [Try.results52, hm]
    refine ⟨hkp, ?_⟩
    have := hU.sl
    show SlAt 1 s' (f.get 5) _
    rw [List.map_map]; exact this
end Go.Proofs.Ytifkpaomhnlahaa
namespace Go.Proofs.Ytifkpaomhnlahaa
open Go Kern
theorem Same.out {n : Nat} {rt : Int → Int} {L : Nat → Int} (hs : Same n rt L) : L 0 = 0 := by have := hs.1 0 (by omega); omega
theorem Same.st {n : Nat} {rt : Int → Int} {L : Nat → Int} (hs : Same n rt L) {x y : Nat} (hx : x < n) (hy : y < n) : L (x + 1) = L (y + 1) ↔ rt x = rt y := by
  have := hs.2 (x + 1) (y + 1) (by omega) (by omega)
  rw [show (((x + 1 : Nat) : Int) - 1) = x by omega, show (((y + 1 : Nat) : Int) - 1) = y by omega] at this
  exact this
theorem Same.st0 {n : Nat} {rt : Int → Int} {L : Nat → Int} (hs : Same n rt L) {x : Nat} (hx : x < n) : L (x + 1) = 0 ↔ rt x = rt (-1) := by
  have := hs.2 (x + 1) 0 (by omega) (by omega)
  rw [show (((x + 1 : Nat) : Int) - 1) = x by omega, hs.out] at this
  simpa using this
theorem lead_iff {n : Nat} {rt : Int → Int} {L : Nat → Int} (hs : Same n rt L) {k : Nat} (hk : k < n) : isLead rt n k = true ↔ L (k + 1) = (k : Int) + 1 := by
  have hc := hs.1 (k + 1) (by omega)
  push_cast at hc
  constructor
  · intro h
    have h0 : L (k + 1) ≠ 0 := fun e => by
      have := (hs.st0 hk).1 e
      simp [isLead, this] at h
    by_cases e : L (k + 1) = (k : Int) + 1
    · exact e
    · have hl : (L (k + 1) - 1).toNat < k := by omega
      have := (hs.st (x := (L (k + 1) - 1).toNat) (y := k) (by omega) hk).1 (by rw [show (L (k + 1) - 1).toNat + 1 = (L (k + 1)).toNat by omega]; exact hc.2.2)
      exact absurd this (clsN_first h hl hk)
  · intro h
    refine isLead_of hk (fun l hl e => ?_) (fun e => ?_)
    · have h1 := (hs.st (x := l) (y := k) (by omega) hk).2 e
      have := (hs.1 (l + 1) (by omega)).2.1
      push_cast at this
      omega
    · have := (hs.st0 hk).2 e
      omega
/-- The units of a head. -/
def sideL (L : Nat → Int) (n : Nat) (h : Int) : List Int := ((List.range (n + 1)).filter fun i => decide (L i = h)).map fun i : Nat => (i : Int) - 1
theorem mem_sideL {L : Nat → Int} {n : Nat} {h x : Int} (h1 : -1 ≤ x) (h2 : x < n) : x ∈ sideL L n h ↔ L (x + 1).toNat = h := by
  unfold sideL
  constructor
  · intro hm
    obtain ⟨i, hi, e⟩ := List.mem_map.1 hm
    obtain rfl : i = (x + 1).toNat := by omega
    simpa using (List.mem_filter.1 hi).2
  · intro hm
    exact List.mem_map.2 ⟨(x + 1).toNat, List.mem_filter.2 ⟨List.mem_range.2 (by omega), by simp [hm]⟩, by omega⟩
theorem side_get {L : Nat → Int} {n : Nat} {h : Int} {x : Int} (h1 : -1 ≤ x) (h2 : x < n) : (((List.range (n + 1)).map L).map fun x => decide (x = h))[(x + 1).toNat]? = some (decide (x ∈ sideL L n h)) := by
  have hlt : (x + 1).toNat < n + 1 := by omega
  simp only [List.getElem?_map, List.getElem?_range hlt, Option.map_some, mem_sideL h1 h2]
theorem sideL_cls {n : Nat} {rt : Int → Int} {L : Nat → Int} (hs : Same n rt L) {k : Nat} (hk : k < n) (hL : L (k + 1) = (k : Int) + 1) : sideL L n ((k : Int) + 1) = clsN rt k n := by
  unfold sideL clsN
  rw [List.range_succ_eq_map, List.filter_cons, if_neg (by rw [hs.out]; simp; omega), List.filter_map, List.map_map]
  have h1 : (fun i : Nat => (i : Int) - 1) ∘ Nat.succ = fun x : Nat => (x : Int) := by funext x; simp
  rw [h1]
  congr 1
  apply List.filter_congr
  intro x hx
  have hxn : x < n := by simpa using hx
  simp only [Function.comp_apply, decide_eq_decide]
  rw [← hs.st hxn hk, hL]
/-- What the reference finds: units and kind. -/
def clashR (n : Nat) (fs : List FlowD) : List Int × Nat := (provF (rtF (-1) fs 0 id) fs n n 0).getD ([], 0)
set_option maxRecDepth 100000 in
set_option maxHeartbeats 4000000 in
theorem clash_ev (n : Nat) (v : Value) (fs : List FlowD) (s : St) (hf : FlAt s v fs) (hck : checkErr n fs = 0) :
    Ev TT 51 [plantV n v] s fun r s' => Keep s s' ∧ ∃ w, r = .tuple #[w, .int .i64 (clashR n fs).2] ∧ IntsAt s' w (clashR n fs).1 := by
  obtain ⟨hu1, hu2, hl20, _⟩ := checkErr_ok hck
  have hends := ends_in hck
  have hn8 : n ≤ 8 := by omega
  have hsame := Same.flows (lo := -1) (i := 0) (Same.init n) hends
  obtain ⟨a, c, rfl⟩ := hf.shape
  rw [List.length_map] at hf ⊢
  unfold plantV
  refine Ev.intro (fn := Try.f51) rfl (by kernel_rfl) rfl rfl ?_
  apply zz
  refine Cd.ra (h := ?_)
  apply Run.by_eq
  · intro self
    conv => lhs; simp -implicitDefEqProofs (maxSteps := 300000) (disch := omega) [-getElem?_pos, -getElem?_neg]
  try (with_reducible refine Run.ret ?_)
  apply zz
  refine Cd.ra (h := ?_)
  apply Run.by_eq
  · intro self
    conv => lhs; simp -implicitDefEqProofs (maxSteps := 300000) (disch := omega) [-getElem?_pos, -getElem?_neg]
  try (with_reducible refine Run.ret ?_)
  apply zz
  refine Run.call ((refJoined_ev n (-1) _ fs _ hn8 (hf.keep ⟨by (try simp only [pushed_next', upded_next']); omega, fun i hi => by simp -implicitDefEqProofs (disch := omega) []⟩) (by omega) hends).mono fun hs w2 hv => ?_)
  obtain ⟨k2, hI⟩ := hv
  unfold clashR
  generalize labF (-1) fs 0 (fun x => (x : Int)) = L at hI hsame
  generalize rtF (-1) fs 0 id = rt at hsame ⊢
  have k2a := k2.1
  have k2b := k2.2
  simp only [pushed_next'] at k2a k2b
  obtain ⟨a', c', rfl⟩ := hI.shape
  rw [List.length_map, List.length_map, List.length_range] at hI ⊢
  have hf2 := hf.keep (s' := w2) ⟨by (try simp only [pushed_next', upded_next']); omega, fun i hi => by simp -implicitDefEqProofs (disch := omega) [k2b]⟩
  have hp2 : w2.heap.get s.next = some (.cells [.int .i64 n, .slice a fs.length c] none) := by rw [k2b _ (by omega)]; simp -implicitDefEqProofs (disch := omega)
  apply Run.by_eq
  · intro self
    conv => lhs; simp -implicitDefEqProofs (maxSteps := 300000) (disch := omega) [-getElem?_pos, -getElem?_neg]
  try (with_reducible refine Run.ret ?_)
  apply zz
  refine Cd.ra (h := ?_)
  apply Run.by_eq
  · intro self
    conv => lhs; simp -implicitDefEqProofs (maxSteps := 300000) (disch := omega) [-getElem?_pos, -getElem?_neg]
  try (with_reducible refine Run.ret ?_)
  apply zz
  refine Cd.inv (fun z f s' => ∃ k : Nat, k ≤ n ∧ z = n - k ∧ f.marks = [] ∧ f.get 5 = .int .i64 ((k : Int) + 1) ∧ f.get 4 = .slice a' (n + 1) c' ∧ f.get 1 = .pointer (some ⟨s.next, 0, none⟩) ∧ Keep w2 s' ∧ (∀ j, 0 ≤ j → j < k → provAt rt fs n j = none)) n ?_ ?_
  · exact ⟨0, by omega, rfl, by simp, by simp, by simp, by simp, Keep.refl _, fun j _ hj => absurd hj (by omega)⟩
  rintro z f s' ⟨k, hk, rfl, hm, h5, h4, h1, hkp, hz⟩
  have hkpa := hkp.1
  have hkpb := hkp.2
  have hg0 : s'.heap.get s.next = some (.cells [.int .i64 n, .slice a fs.length c] none) := (hkpb _ (by omega)).trans hp2
  by_cases hlt : k < n
  · apply zz
    refine Cd.ra (h := ?_)
    apply Run.by_eq
    · intro self
      conv => lhs; simp -implicitDefEqProofs (maxSteps := 300000) (disch := omega) [-getElem?_pos, -getElem?_neg, h5, h1, hg0]
    try (with_reducible refine Run.ret ?_)
    apply zz
    apply Cd.ite rfl
    · conv => lhs; simp -implicitDefEqProofs (maxSteps := 300000) (disch := omega) [-getElem?_pos, -getElem?_neg]
    all_goals intro c0
    all_goals try (cases c0; done)
    all_goals try simp only [Bool.not_eq_true', Bool.not_eq_false', decide_eq_true_eq, decide_eq_false_iff_not] at c0
    all_goals apply zz
    · apply zz
      refine Cd.ra (h := ?_)
      apply Run.by_eq
      · intro self
        conv => lhs; simp -implicitDefEqProofs (maxSteps := 300000) (disch := omega) [-getElem?_pos, -getElem?_neg, h5, h4]
      try (with_reducible refine Run.ret ?_)
      apply zz
      refine Run.call ((side_ev _ _ ((k : Int) + 1) _ (hI.keep hkp) (by simp; omega)).mono fun sv w3 hv => ?_)
      obtain ⟨k3, hB⟩ := hv
      have k3a := k3.1
      have k3b := k3.2
      obtain ⟨ab, cb, rfl⟩ := hB.shape
      rw [List.length_map, List.length_map, List.length_map, List.length_range] at hB ⊢
      have hg3 : w3.heap.get s.next = some (.cells [.int .i64 n, .slice a fs.length c] none) := (k3b _ (by omega)).trans hg0
      apply Run.by_eq
      · intro self
        conv => lhs; simp -implicitDefEqProofs (maxSteps := 300000) (disch := omega) [-getElem?_pos, -getElem?_neg]
      try (with_reducible refine Run.ret ?_)
      apply zz
      refine Cd.ra (h := ?_)
      apply Run.by_eq
      · intro self
        conv => lhs; simp -implicitDefEqProofs (maxSteps := 300000) (disch := omega) [-getElem?_pos, -getElem?_neg, h1, hg3]
      try (with_reducible refine Run.ret ?_)
      apply zz
      refine Run.call ((refExcess_ev n _ _ fs (sideL L n ((k : Int) + 1)) _ _ (hf2.keep (hkp.trans k3)) hB (by omega) (checkErr_le hck) (fun f hf => by have := hends f hf; simp; omega) (fun x h1 h2 => side_get h1 (by simp at h2; omega)) (by simp; omega)).mono fun v wy hv => ?_)
      obtain ⟨rfl, y⟩ := hv
      have ya := y.1
      have yb := y.2
      try simp only [pushed_next', upded_next'] at ya yb
      generalize hmx : excM (sideL L n ((k : Int) + 1)) fs = mx
      apply Run.by_eq
      · intro self
        conv => lhs; simp -implicitDefEqProofs (maxSteps := 300000) (disch := omega) [-getElem?_pos, -getElem?_neg, Mass.v]
      try (with_reducible refine Run.ret ?_)
      apply zz
      refine Cd.ra (h := ?_)
      apply Run.by_eq
      · intro self
        conv => lhs; simp -implicitDefEqProofs (maxSteps := 300000) (disch := omega) [-getElem?_pos, -getElem?_neg]
      try (with_reducible refine Run.ret ?_)
      apply zz
      have hle := lead_iff hsame hlt
      have hside : ∀ x : Nat, x ≤ n → ∃ b off o cs g, ab = some ⟨b, off, none⟩ ∧ b < w3.next ∧ w3.heap.get b = some o ∧ cellsOf o = some (cs, g) ∧ cs[off + x]? = some (.bool (decide (L x = (k : Int) + 1))) := fun x hx => BoolsAt.at hB (by simp [List.getElem?_range (show x < n + 1 by omega)])
      obtain ⟨b, off, o, cs, gg, rfl, hb, ho, hc, hk1⟩ := hside (k + 1) (by omega)
      have hcell : ∀ x : Nat, x ≤ n → cs[off + x]? = some (.bool (decide (L x = (k : Int) + 1))) := fun x hx => by
        obtain ⟨b', off', o', cs', gg', e1, _, ho', hc', hx'⟩ := hside x hx
        cases e1
        rw [ho] at ho'; cases ho'
        rw [hc] at hc'; cases hc'
        exact hx'
      refine Cd.inv (fun z f2 s2 => ∃ q : Nat, q ≤ 4 ∧ z = 4 - q ∧ f2.marks = [] ∧ f2.get 8 = .int .i64 q ∧ f2.get 5 = .int .i64 ((k : Int) + 1) ∧ f2.get 4 = .slice a' (n + 1) c' ∧ f2.get 1 = .pointer (some ⟨s.next, 0, none⟩) ∧ f2.get 6 = .slice (some ⟨b, off, none⟩) (n + 1) cb ∧ f2.get 7 = .pointer (some ⟨wy.next, 0, none⟩) ∧ Keep w3 s2 ∧ wy.next < s2.next ∧ s2.heap.get wy.next = some (.cells mx.cs none) ∧ (L (k + 1) = (k : Int) + 1 → ∀ j, j < q → mx.at j = 0)) 4 ?_ ?_
      · refine ⟨0, by omega, rfl, by simp [hm], by simp, by simp [h5], by simp [h4], by simp [h1], by simp, by simp, ⟨by (try simp only [pushed_next', upded_next']); omega, fun i hi => by simp -implicitDefEqProofs (disch := omega) [yb]⟩, by simp, by simp [Mass.cs], fun _ j hj => absurd hj (by omega)⟩
      rintro z2 f2 s2 ⟨q, hq, rfl, gm, g8, g5, g4, g1, g6, g7, gkp, gnx, ghx, gz⟩
      have gkpa := gkp.1
      have gkpb := gkp.2
      have hos : s2.heap.get b = some o := (gkpb _ hb).trans ho
      have hgs : s2.heap.get s.next = some (.cells [.int .i64 n, .slice a fs.length c] none) := (gkpb _ (by omega)).trans hg3
      by_cases hq4 : q < 4
      · have hat := mx.cs_at hq4
        have nk1 : natOf (.int .i64 ((k : Int) + 1)) = some (k + 1) := natOf_cast _ (k + 1)
        have hkn : k + 1 < n + 1 := by omega
        simp only [Mass.cs] at ghx
        apply zz
        refine Cd.ra (h := ?_)
        apply Run.by_eq
        · intro self
          conv => lhs; simp -implicitDefEqProofs (maxSteps := 300000) (disch := omega) [-getElem?_pos, -getElem?_neg, g8]
        try (with_reducible refine Run.ret ?_)
        apply zz
        apply Cd.ite rfl
        · conv => lhs; simp -implicitDefEqProofs (maxSteps := 300000) (disch := omega) [-getElem?_pos, -getElem?_neg]
        all_goals intro c1
        all_goals try (cases c1; done)
        all_goals try simp only [Bool.not_eq_true', Bool.not_eq_false', decide_eq_true_eq, decide_eq_false_iff_not] at c1
        all_goals apply zz
        · by_cases hlead : L (k + 1) = (k : Int) + 1
          · rw [hlead, decide_eq_true rfl] at hk1
            by_cases hz0 : mx.at q = 0
            · apply zz
              refine Cd.ra (h := ?_)
              apply Run.by_eq
              · intro self
                conv => lhs; simp -implicitDefEqProofs (maxSteps := 300000) (disch := omega) [-getElem?_pos, -getElem?_neg, g8, g6, g5, g7, hos, hc, hk1, nk1, hkn, ghx, hat, hq4, hz0]
              try (with_reducible refine Run.ret ?_)
              apply zz
              apply Cd.ite rfl
              · conv => lhs; simp -implicitDefEqProofs (maxSteps := 300000) (disch := omega) [-getElem?_pos, -getElem?_neg]
              all_goals intro c2
              all_goals try (cases c2; done)
              all_goals try simp only [Bool.not_eq_true', Bool.not_eq_false', decide_eq_true_eq, decide_eq_false_iff_not] at c2
              all_goals apply zz
              apply zz
              refine Cd.ra (h := ?_)
              apply Run.by_eq
              · intro self
                conv => lhs; simp -implicitDefEqProofs (maxSteps := 300000) (disch := omega) [-getElem?_pos, -getElem?_neg, g8]
              try (with_reducible refine Run.ret ?_)
              apply zz
              refine LoopK.nm (4 - (q + 1)) (by omega) ⟨q + 1, by omega, rfl, by simp [gm], by simp, by simp [g5], by simp [g4], by simp [g1], by simp [g6], by simp [g7], gkp, gnx, ghx, fun hl j hj => ?_⟩
              by_cases e : j = q
              · subst e; exact hz0
              · exact gz hl j (by omega)
            · apply zz
              refine Cd.ra (h := ?_)
              apply Run.by_eq
              · intro self
                conv => lhs; simp -implicitDefEqProofs (maxSteps := 300000) (disch := omega) [-getElem?_pos, -getElem?_neg, g8, g6, g5, g7, hos, hc, hk1, nk1, hkn, ghx, hat, hq4, hz0]
              try (with_reducible refine Run.ret ?_)
              apply zz
              apply Cd.ite rfl
              · conv => lhs; simp -implicitDefEqProofs (maxSteps := 300000) (disch := omega) [-getElem?_pos, -getElem?_neg]
              all_goals intro c2
              all_goals try (cases c2; done)
              all_goals try simp only [Bool.not_eq_true', Bool.not_eq_false', decide_eq_true_eq, decide_eq_false_iff_not] at c2
              all_goals apply zz
              apply zz
              refine Cd.ra (h := ?_)
              apply Run.by_eq
              · intro self
                conv => lhs; simp -implicitDefEqProofs (maxSteps := 300000) (disch := omega) [-getElem?_pos, -getElem?_neg]
              try (with_reducible refine Run.ret ?_)
              apply zz
              refine Cd.ra (h := ?_)
              apply Run.by_eq
              · intro self
                conv => lhs; simp -implicitDefEqProofs (maxSteps := 300000) (disch := omega) [-getElem?_pos, -getElem?_neg]
              try (with_reducible refine Run.ret ?_)
              apply zz
              refine Cd.inv (fun z f3 s3 => ∃ j : Nat, j ≤ n ∧ z = n - j ∧ f3.marks = [] ∧ f3.get 10 = .int .i64 j ∧ f3.get 8 = .int .i64 q ∧ f3.get 1 = .pointer (some ⟨s.next, 0, none⟩) ∧ f3.get 6 = .slice (some ⟨b, off, none⟩) (n + 1) cb ∧ Keep s2 s3 ∧ OwnU s2.next s3 (f3.get 9) (clsN rt k j)) n ?_ ?_
              · exact ⟨0, by omega, rfl, by simp [gm], by simp, by simp [g8], by simp [g1], by simp [g6], Keep.refl _, .inl ⟨rfl, by simp⟩⟩
              rintro z3 f3 s3 ⟨j, hj, rfl, em, e10, e8, e1, e6, ekp, hU⟩
              have ekpa := ekp.1
              have ekpb := ekp.2
              have hgs3 := (ekpb _ (by omega)).trans hgs
              have hos3 := (ekpb _ (by omega)).trans hos
              by_cases hjn : j < n
              · have hj1 := hcell (j + 1) (by omega)
                have hcn := clsN_succ rt k j
                have hiff : L (j + 1) = (k : Int) + 1 ↔ rt j = rt k := by rw [← hlead]; exact hsame.st hjn hlt
                have nj1 : natOf (.int .i64 ((j : Int) + 1)) = some (j + 1) := natOf_cast _ (j + 1)
                have hjn1 : j + 1 < n + 1 := by omega
                apply zz
                refine Cd.ra (h := ?_)
                apply Run.by_eq
                · intro self
                  conv => lhs; simp -implicitDefEqProofs (maxSteps := 300000) (disch := omega) [-getElem?_pos, -getElem?_neg, e10, e1, hgs3]
                try (with_reducible refine Run.ret ?_)
                apply zz
                apply Cd.ite rfl
                · conv => lhs; simp -implicitDefEqProofs (maxSteps := 300000) (disch := omega) [-getElem?_pos, -getElem?_neg]
                all_goals intro d0
                all_goals try (cases d0; done)
                all_goals try simp only [Bool.not_eq_true', Bool.not_eq_false', decide_eq_true_eq, decide_eq_false_iff_not] at d0
                all_goals apply zz
                · by_cases hr : rt j = rt k
                  · rw [if_pos hr] at hcn
                    rw [hiff.2 hr, decide_eq_true rfl] at hj1
                    apply zz
                    refine Cd.ra (h := ?_)
                    apply Run.by_eq
                    · intro self
                      conv => lhs; simp -implicitDefEqProofs (maxSteps := 300000) (disch := omega) [-getElem?_pos, -getElem?_neg, e10, e6, hos3, hc, hj1, nj1, hjn1]
                    try (with_reducible refine Run.ret ?_)
                    apply zz
                    apply Cd.ite rfl
                    · conv => lhs; simp -implicitDefEqProofs (maxSteps := 300000) (disch := omega) [-getElem?_pos, -getElem?_neg]
                    all_goals intro d1
                    all_goals try (cases d1; done)
                    all_goals try simp only [Bool.not_eq_true', Bool.not_eq_false', decide_eq_true_eq, decide_eq_false_iff_not] at d1
                    all_goals apply zz
                    rcases hU with ⟨hce, hw⟩ | ⟨bu, hw, hne, hb1, hb2, hb3⟩
                    · apply zz
                      refine Cd.ra (h := ?_)
                      apply Run.by_eq
                      · intro self
                        conv => lhs; simp -implicitDefEqProofs (maxSteps := 300000) (disch := omega) [-getElem?_pos, -getElem?_neg, e10, hw]
                      try (with_reducible refine Run.ret ?_)
                      apply zz
                      refine Cd.ra (h := ?_)
                      apply Run.by_eq
                      · intro self
                        conv => lhs; simp -implicitDefEqProofs (maxSteps := 300000) (disch := omega) [-getElem?_pos, -getElem?_neg, e10]
                      try (with_reducible refine Run.ret ?_)
                      apply zz
                      refine LoopK.nm (n - (j + 1)) (by omega) ⟨j + 1, by omega, rfl, by simp [em], by simp, by simp [e8], by simp [e1], by simp [e6], ⟨by (try simp only [pushed_next', upded_next']); omega, fun i hi => by simp -implicitDefEqProofs (disch := omega) [ekpb]⟩, ?_⟩
                      rw [hcn, hce]
                      exact .inr ⟨s3.next + 1, by simp, by simp, by omega, by simp, by simp⟩
                    · have hcl := clsN_length rt k j
                      apply zz
                      refine Cd.ra (h := ?_)
                      apply Run.by_eq
                      · intro self
                        conv => lhs; simp -implicitDefEqProofs (maxSteps := 300000) (disch := omega) [-getElem?_pos, -getElem?_neg, e10, hw]
                      try (with_reducible refine Run.ret ?_)
                      apply zz
                      apply Run.by_eq
                      · intro self
                        rw [appV_moreE (size := 1) (n := (clsN rt k j).length) (old := (clsN rt k j).map (Value.int .i64)) ?happ1 (by simp) (by omega)]
                        simp -implicitDefEqProofs (disch := omega) [hb3]
                      apply Run.by_eq
                      · intro self
                        conv => lhs; simp -implicitDefEqProofs (maxSteps := 300000) (disch := omega) [-getElem?_pos, -getElem?_neg, hb3]
                      try (with_reducible refine Run.ret ?_)
                      apply zz
                      refine Cd.ra (h := ?_)
                      apply Run.by_eq
                      · intro self
                        conv => lhs; simp -implicitDefEqProofs (maxSteps := 300000) (disch := omega) [-getElem?_pos, -getElem?_neg, e10]
                      try (with_reducible refine Run.ret ?_)
                      apply zz
                      refine LoopK.nm (n - (j + 1)) (by omega) ⟨j + 1, by omega, rfl, by simp [em], by simp, by simp [e8], by simp [e1], by simp [e6], ⟨by (try simp only [pushed_next', upded_next']); omega, fun i hi => by simp -implicitDefEqProofs (disch := omega) [ekpb]⟩, ?_⟩
                      rw [hcn]
                      exact .inr ⟨s3.next + 1, by simp, by simp, by omega, by simp, by simp⟩
                  · rw [if_neg hr] at hcn
                    rw [decide_eq_false (fun h => hr (hiff.1 h))] at hj1
                    apply zz
                    refine Cd.ra (h := ?_)
                    apply Run.by_eq
                    · intro self
                      conv => lhs; simp -implicitDefEqProofs (maxSteps := 300000) (disch := omega) [-getElem?_pos, -getElem?_neg, e10, e6, hos3, hc, hj1, nj1, hjn1]
                    try (with_reducible refine Run.ret ?_)
                    apply zz
                    apply Cd.ite rfl
                    · conv => lhs; simp -implicitDefEqProofs (maxSteps := 300000) (disch := omega) [-getElem?_pos, -getElem?_neg]
                    all_goals intro d1
                    all_goals try (cases d1; done)
                    all_goals try simp only [Bool.not_eq_true', Bool.not_eq_false', decide_eq_true_eq, decide_eq_false_iff_not] at d1
                    all_goals apply zz
                    apply zz
                    refine Cd.ra (h := ?_)
                    apply Run.by_eq
                    · intro self
                      conv => lhs; simp -implicitDefEqProofs (maxSteps := 300000) (disch := omega) [-getElem?_pos, -getElem?_neg, e10]
                    try (with_reducible refine Run.ret ?_)
                    apply zz
                    exact LoopK.nm (n - (j + 1)) (by omega) ⟨j + 1, by omega, rfl, by simp [em], by simp, by simp [e8], by simp [e1], by simp [e6], ekp, by rw [hcn]; simpa using hU⟩
                · simp at d0; omega
              · obtain rfl : j = n := by omega
                apply zz
                refine Cd.ra (h := ?_)
                apply Run.by_eq
                · intro self
                  conv => lhs; simp -implicitDefEqProofs (maxSteps := 300000) (disch := omega) [-getElem?_pos, -getElem?_neg, e10, e1, hgs3]
                try (with_reducible refine Run.ret ?_)
                apply zz
                apply Cd.ite rfl
                · conv => lhs; simp -implicitDefEqProofs (maxSteps := 300000) (disch := omega) [-getElem?_pos, -getElem?_neg]
                all_goals intro d0
                all_goals try (cases d0; done)
                all_goals try simp only [Bool.not_eq_true', Bool.not_eq_false', decide_eq_true_eq, decide_eq_false_iff_not] at d0
                all_goals apply zz
                apply zz
                refine Cd.ra (h := ?_)
                apply Run.by_eq
                · intro self
                  conv => lhs; simp -implicitDefEqProofs (maxSteps := 300000) (disch := omega) [-getElem?_pos, -getElem?_neg, e8]
                try (with_reducible refine Run.ret ?_)
                apply zz
                apply Leave.mk (by first | exact .inl rfl | exact .inr rfl) (by simp only [Fr.marks_put, fr0_marks, em])
                · conv => lhs; simp -implicitDefEqProofs (disch := omega) [Try.results51, em]
                have hp : provAt rt fs j k = some (clsN rt k j, q) := by
                  unfold provAt
                  rw [if_pos (hle.2 hlead), ← sideL_cls hsame hlt hlead, hmx, nzK_at hq4 (gz hlead) hz0]; rfl
                rw [provF_at hz (by omega) (by omega) hp]
                exact ⟨⟨by omega, fun i hi => by rw [ekpb i (by omega), gkpb i (by omega), k3b i (by omega), hkpb i (by omega), k2b i (by omega)]; simp -implicitDefEqProofs (disch := omega)⟩, _, rfl, hU.ints⟩
          · rw [decide_eq_false hlead] at hk1
            apply zz
            refine Cd.ra (h := ?_)
            apply Run.by_eq
            · intro self
              conv => lhs; simp -implicitDefEqProofs (maxSteps := 300000) (disch := omega) [-getElem?_pos, -getElem?_neg, g8, g6, g5, g7, hos, hc, hk1, nk1, hkn]
            try (with_reducible refine Run.ret ?_)
            apply zz
            apply Cd.ite rfl
            · conv => lhs; simp -implicitDefEqProofs (maxSteps := 300000) (disch := omega) [-getElem?_pos, -getElem?_neg]
            all_goals intro c2
            all_goals try (cases c2; done)
            all_goals try simp only [Bool.not_eq_true', Bool.not_eq_false', decide_eq_true_eq, decide_eq_false_iff_not] at c2
            all_goals apply zz
            apply zz
            refine Cd.ra (h := ?_)
            apply Run.by_eq
            · intro self
              conv => lhs; simp -implicitDefEqProofs (maxSteps := 300000) (disch := omega) [-getElem?_pos, -getElem?_neg, g8]
            try (with_reducible refine Run.ret ?_)
            apply zz
            exact LoopK.nm (4 - (q + 1)) (by omega) ⟨q + 1, by omega, rfl, by simp [gm], by simp, by simp [g5], by simp [g4], by simp [g1], by simp [g6], by simp [g7], gkp, gnx, ghx, fun hl => absurd hl hlead⟩
        · simp at c1; omega
      · obtain rfl : q = 4 := by omega
        apply zz
        refine Cd.ra (h := ?_)
        apply Run.by_eq
        · intro self
          conv => lhs; simp -implicitDefEqProofs (maxSteps := 300000) (disch := omega) [-getElem?_pos, -getElem?_neg, g8]
        try (with_reducible refine Run.ret ?_)
        apply zz
        apply Cd.ite rfl
        · conv => lhs; simp -implicitDefEqProofs (maxSteps := 300000) (disch := omega) [-getElem?_pos, -getElem?_neg]
        all_goals intro c1
        all_goals try (cases c1; done)
        all_goals try simp only [Bool.not_eq_true', Bool.not_eq_false', decide_eq_true_eq, decide_eq_false_iff_not] at c1
        all_goals apply zz
        apply zz
        refine Cd.ra (h := ?_)
        apply Run.by_eq
        · intro self
          conv => lhs; simp -implicitDefEqProofs (maxSteps := 300000) (disch := omega) [-getElem?_pos, -getElem?_neg, g5]
        try (with_reducible refine Run.ret ?_)
        apply zz
        refine LoopK.nm (n - (k + 1)) (by omega) ⟨k + 1, by omega, rfl, by simp [gm], by simp, by simp [g4], by simp [g1], ⟨by omega, fun i hi => by rw [gkpb i (by omega), k3b i (by omega), hkpb i (by omega)]⟩, fun j h1 hj => ?_⟩
        by_cases e : j = k
        · subst e
          unfold provAt
          by_cases hlead : L (j + 1) = (j : Int) + 1
          · rw [if_pos (hle.2 hlead), ← sideL_cls hsame hlt hlead, hmx, nzK_zero (gz hlead)]; rfl
          · rw [if_neg (fun h => hlead (hle.1 h))]
        · exact hz j h1 (by omega)
    · simp at c0; omega
  · obtain rfl : k = n := by omega
    have hkn : ¬ ((k : Int) + 1) ≤ k := by omega
    apply zz
    refine Cd.ra (h := ?_)
    apply Run.by_eq
    · intro self
      conv => lhs; simp -implicitDefEqProofs (maxSteps := 300000) (disch := omega) [-getElem?_pos, -getElem?_neg, h5, h1, hg0, hkn]
    try (with_reducible refine Run.ret ?_)
    apply zz
    apply Cd.ite rfl
    · conv => lhs; simp -implicitDefEqProofs (maxSteps := 300000) (disch := omega) [-getElem?_pos, -getElem?_neg]
    all_goals intro c0
    all_goals try (cases c0; done)
    all_goals try simp only [Bool.not_eq_true', Bool.not_eq_false', decide_eq_true_eq, decide_eq_false_iff_not] at c0
    all_goals apply zz
    apply zz
    refine Cd.ra (h := ?_)
    apply Run.by_eq
    · intro self
      conv => lhs; simp -implicitDefEqProofs (maxSteps := 300000) (disch := omega) [-getElem?_pos, -getElem?_neg]
    try (with_reducible refine Run.ret ?_)
    apply zz
    apply Leave.mk (by first | exact .inl rfl | exact .inr rfl) (by simp only [Fr.marks_put, fr0_marks, hm])
    · conv => lhs; simp -implicitDefEqProofs (disch := omega) [Try.results51, hm]
    rw [provF_none fun j h1 h2 => hz j h1 (by omega)]
    exact ⟨⟨by omega, fun i hi => by rw [hkpb i (by omega), k2b i (by omega)]; simp -implicitDefEqProofs (disch := omega)⟩, _, rfl, .nil 0⟩
end Go.Proofs.Ytifkpaomhnlahaa
namespace Go.Proofs.Ytifkpaomhnlahaa
open Go Kern
theorem range_setV {g h : Nat → Value} {n k : Nat} (hk : k < n) (ho : ∀ x, x < n → x ≠ k → h x = g x) {w : Value} (hw : w = h k) : ((List.range n).map g).set k w = (List.range n).map h := by
  subst hw
  apply List.ext_getElem?
  intro i
  rw [List.getElem?_set]
  by_cases e : k = i
  · subst e; simp [hk]
  · rw [if_neg e]
    by_cases hi : i < n
    · simp [hi, ho i hi (fun q => e q.symm)]
    · simp [hi]
set_option maxRecDepth 100000 in
set_option maxHeartbeats 2000000 in
theorem forestOf_ev (u : Int) (v : Value) (fs : List FlowD) (s : St) (hf : FlAt s v fs) (hl : fs.length ≤ 1000) :
    Ev TT 64 [plantV u v] s fun r s' => Keep s s' ∧ ∃ φ, r = .slice (some ⟨φ, 0, none⟩) fs.length fs.length ∧ s.next ≤ φ ∧ φ < s'.next ∧ s'.heap.get φ = some (.cells ((List.range fs.length).map fun j => Value.bool (chB fs j)) none) := by
  obtain ⟨a, c, rfl⟩ := hf.shape
  rw [List.length_map] at hf ⊢
  unfold plantV
  have nl := natOf_cast .i64 fs.length
  refine Ev.intro (fn := Try.f64) rfl (by kernel_rfl) rfl rfl ?_
  apply zz
  refine Cd.ra (h := ?_)
  apply Run.by_eq
  · intro self
    conv => lhs; simp -implicitDefEqProofs (maxSteps := 300000) (disch := omega) [-getElem?_pos, -getElem?_neg]
  try (with_reducible refine Run.ret ?_)
  apply zz
  refine Cd.ra (h := ?_)
  apply Run.by_eq
  · intro self
    conv => lhs; simp -implicitDefEqProofs (maxSteps := 300000) (disch := omega) [-getElem?_pos, -getElem?_neg, nl]
  try (with_reducible refine Run.ret ?_)
  apply zz
  refine Cd.ra (h := ?_)
  apply Run.by_eq
  · intro self
    conv => lhs; simp -implicitDefEqProofs (maxSteps := 300000) (disch := omega) [-getElem?_pos, -getElem?_neg]
  try (with_reducible refine Run.ret ?_)
  apply zz
  refine Cd.ra (h := ?_)
  apply Run.by_eq
  · intro self
    conv => lhs; simp -implicitDefEqProofs (maxSteps := 300000) (disch := omega) [-getElem?_pos, -getElem?_neg]
  try (with_reducible refine Run.ret ?_)
  apply zz
  refine Cd.inv (fun z f s' => ∃ k : Nat, k ≤ fs.length ∧ z = fs.length - k ∧ f.marks = [] ∧ f.get 16 = .int .i64 k ∧ f.get 15 = .int .i64 fs.length ∧ f.get 14 = .slice a fs.length c ∧ f.get 3 = .slice (some ⟨s.next + 1, 0, none⟩) fs.length fs.length ∧ f.get 4 = .pointer (some ⟨s.next + 1 + 1 + 1, 0, none⟩) ∧ Keep s s' ∧ s.next + 1 + 1 + 1 < s'.next ∧
    s'.heap.get (s.next + 1) = some (.cells ((List.range fs.length).map fun j => Value.bool (decide (j < k) && chB fs j)) none) ∧ s'.heap.get (s.next + 1 + 1 + 1) = some (.cells [.map (some (s.next + 1 + 1))] none) ∧ ∃ es, s'.heap.get (s.next + 1 + 1) = some (.map (mapL2 es 0) es.length) ∧ Forest es (rtF (-1) (fs.take k) 0 id)) fs.length ?_ ?_
  · refine ⟨0, by omega, rfl, by simp, by simp, by simp, by simp, by simp, by simp, ⟨by (try simp only [pushed_next', upded_next']); omega, fun i hi => by simp -implicitDefEqProofs (disch := omega) []⟩, by simp, ?_, by simp -implicitDefEqProofs (disch := omega), [], by simp -implicitDefEqProofs (disch := omega) [mapL2], Forest.empty⟩
    simp -implicitDefEqProofs (disch := omega) [repeatL_single]
    apply List.ext_getElem?
    intro i
    by_cases h : i < fs.length <;> simp [h]
  rintro z f s' ⟨k, hk, rfl, hm, h16, h15, h14, h3, h4, hkp, hnx, hg1, hg3, es, hg2, hF⟩
  have hkpa := hkp.1
  have hkpb := hkp.2
  by_cases hlt : k < fs.length
  · obtain ⟨g, hg⟩ : ∃ g, fs[k]? = some g := ⟨fs[k], by simp [hlt]⟩
    have hstep := rtF_take (-1) fs 0 id k g hg
    rw [Nat.zero_add] at hstep
    have hch := chB_some hg
    obtain ⟨b, off, o, cs, gg, rfl, hb, ho, hc, ht⟩ := FlAt.at (hf.keep hkp) hg
    obtain ⟨g0, g1, gm, m⟩ := g
    rw [FlowD.cs] at ht
    simp only [] at ht hch
    have hset : ∀ w : Value, w = .bool (chB fs k) → ((List.range fs.length).map fun j => Value.bool (decide (j < k) && chB fs j)).set k w = (List.range fs.length).map fun j => Value.bool (decide (j < k + 1) && chB fs j) := fun w hw =>
      range_setV hlt (fun x _ hx => by
        have : (x < k + 1) ↔ (x < k) := by omega
        simp [this]) (by rw [hw]; simp)
    apply zz
    refine Cd.ra (h := ?_)
    apply Run.by_eq
    · intro self
      conv => lhs; simp -implicitDefEqProofs (maxSteps := 300000) (disch := omega) [-getElem?_pos, -getElem?_neg, h16, h15]
    try (with_reducible refine Run.ret ?_)
    apply zz
    apply Cd.ite rfl
    · conv => lhs; simp -implicitDefEqProofs (maxSteps := 300000) (disch := omega) [-getElem?_pos, -getElem?_neg]
    all_goals intro c0
    all_goals try (cases c0; done)
    all_goals try simp only [Bool.not_eq_true', Bool.not_eq_false', decide_eq_true_eq, decide_eq_false_iff_not] at c0
    all_goals apply zz
    · apply zz
      refine Cd.ra (h := ?_)
      apply Run.by_eq
      · intro self
        conv => lhs; simp -implicitDefEqProofs (maxSteps := 300000) (disch := omega) [-getElem?_pos, -getElem?_neg, h16, h14, ho, hc, ht, hlt]
      try (with_reducible refine Run.ret ?_)
      apply zz
      cases gm with
      | true =>
        have hput := putL_set (Value.bool false) k ((List.range fs.length).map fun j => Value.bool (decide (j < k) && chB fs j)) (by simpa using hlt)
        rw [hset _ (by rw [hch]; rfl)] at hput
        apply zz
        refine Cd.ra (h := ?_)
        apply Run.by_eq
        · intro self
          conv => lhs; simp -implicitDefEqProofs (maxSteps := 300000) (disch := omega) [-getElem?_pos, -getElem?_neg, h3, h4, hg1, hlt, hput]
        try (with_reducible refine Run.ret ?_)
        apply zz
        refine Cd.ra (h := ?_)
        apply Run.by_eq
        · intro self
          conv => lhs; simp -implicitDefEqProofs (maxSteps := 300000) (disch := omega) [-getElem?_pos, -getElem?_neg, h16]
        try (with_reducible refine Run.ret ?_)
        apply zz
        refine LoopK.nm (fs.length - (k + 1)) (by omega) ⟨k + 1, by omega, rfl, by simp [hm], by simp, by simp [h15], by simp [h14], by simp [h3], by simp [h4], ⟨by (try simp only [pushed_next', upded_next']); omega, fun i hi => by simp -implicitDefEqProofs (disch := omega) [hkpb]⟩, by (try simp only [pushed_next', upded_next']); omega, ?_, ?_, es, ?_, ?_⟩
        · simp -implicitDefEqProofs (disch := omega)
        · simp -implicitDefEqProofs (disch := omega) [hg3]
        · simp -implicitDefEqProofs (disch := omega) [hg2]
        · rw [hstep]; unfold rtStep; rw [if_neg (by simp)]; exact hF
      | false =>
        apply zz
        refine Cd.ra (h := ?_)
        apply Run.by_eq
        · intro self
          conv => lhs; simp -implicitDefEqProofs (maxSteps := 300000) (disch := omega) [-getElem?_pos, -getElem?_neg, h3, h4, hg3]
        try (with_reducible refine Run.ret ?_)
        apply zz
        have hHA : HeadsAt ((s'.pushed (.cells [.int .i64 0, .int .i64 0, .bool false, .int .i64 0, .int .i64 0, .int .i64 0, .int .i64 0] none)).upded s'.next (.cells [.int .i64 g0, .int .i64 g1, .bool false, .int .i64 m.a, .int .i64 m.b, .int .i64 m.c, .int .i64 m.d] none)) (s.next + 1 + 1) es := ⟨by (try simp only [pushed_next', upded_next']); omega, by simp -implicitDefEqProofs (disch := omega) [hg2]⟩
        refine Run.call ((join_ev (s.next + 1 + 1) es _ g0 g1 _ hHA hF).mono fun v w1 hv => ?_)
        obtain ⟨rfl, qa, qb, es', hH', hF'⟩ := hv
        simp only [pushed_next', upded_next'] at qa qb
        have hw1 : w1.heap.get (s.next + 1) = some (.cells ((List.range fs.length).map fun j => Value.bool (decide (j < k) && chB fs j)) none) := by rw [qb _ (by omega) (by omega)]; simp -implicitDefEqProofs (disch := omega) [hg1]
        have hput := putL_set (Value.bool (!decide (rtF (-1) (fs.take k) 0 id g0 = rtF (-1) (fs.take k) 0 id g1))) k ((List.range fs.length).map fun j => Value.bool (decide (j < k) && chB fs j)) (by simpa using hlt)
        rw [hset _ (by rw [hch]; simp)] at hput
        generalize (!decide (rtF (-1) (fs.take k) 0 id g0 = rtF (-1) (fs.take k) 0 id g1)) = jb at hput
        apply Run.by_eq
        · intro self
          conv => lhs; simp -implicitDefEqProofs (maxSteps := 300000) (disch := omega) [-getElem?_pos, -getElem?_neg, h3, hw1, hlt, hput]
        try (with_reducible refine Run.ret ?_)
        apply zz
        refine Cd.ra (h := ?_)
        apply Run.by_eq
        · intro self
          conv => lhs; simp -implicitDefEqProofs (maxSteps := 300000) (disch := omega) [-getElem?_pos, -getElem?_neg, h16]
        try (with_reducible refine Run.ret ?_)
        apply zz
        refine LoopK.nm (fs.length - (k + 1)) (by omega) ⟨k + 1, by omega, rfl, by simp [hm], by simp, by simp [h15], by simp [h14], by simp [h3], by simp [h4], ⟨by (try simp only [upded_next']); omega, fun i hi => ?_⟩, by (try simp only [upded_next']); omega, ?_, ?_, es', ?_, ?_⟩
        · rw [get_upded_other _ _ _ _ (by omega), qb i (by omega) (by omega)]; simp -implicitDefEqProofs (disch := omega) [hkpb]
        · simp -implicitDefEqProofs (disch := omega)
        · rw [get_upded_other _ _ _ _ (by omega), qb _ (by omega) (by omega)]; simp -implicitDefEqProofs (disch := omega) [hg3]
        · rw [get_upded_other _ _ _ _ (by omega)]; exact hH'.2
        · rw [hstep]; unfold rtStep; rw [if_pos ⟨rfl, by omega⟩]; exact hF'
    · simp at c0; omega
  · obtain rfl : k = fs.length := by omega
    apply zz
    refine Cd.ra (h := ?_)
    apply Run.by_eq
    · intro self
      conv => lhs; simp -implicitDefEqProofs (maxSteps := 300000) (disch := omega) [-getElem?_pos, -getElem?_neg, h16, h15]
    try (with_reducible refine Run.ret ?_)
    apply zz
    apply Cd.ite rfl
    · conv => lhs; simp -implicitDefEqProofs (maxSteps := 300000) (disch := omega) [-getElem?_pos, -getElem?_neg]
    all_goals intro c0
    all_goals try (cases c0; done)
    all_goals try simp only [Bool.not_eq_true', Bool.not_eq_false', decide_eq_true_eq, decide_eq_false_iff_not] at c0
    all_goals apply zz
    apply zz
    refine Cd.ra (h := ?_)
    apply Run.by_eq
    · intro self
      conv => lhs; simp -implicitDefEqProofs (maxSteps := 300000) (disch := omega) [-getElem?_pos, -getElem?_neg, h3]
    try (with_reducible refine Run.ret ?_)
    apply zz
    apply Leave.mk (by first | exact .inl rfl | exact .inr rfl) (by simp only [Fr.marks_put, fr0_marks, hm])
    · conv => lhs; simp -implicitDefEqProofs (disch := omega) [Try.results64, hm]
    refine ⟨hkp, s.next + 1, rfl, by omega, by omega, ?_⟩
    rw [hg1]
    congr 2
    apply List.map_congr_left
    intro j hj
    have : j < fs.length := by simpa using hj
    simp [this]
end Go.Proofs.Ytifkpaomhnlahaa
namespace Go.Proofs.Ytifkpaomhnlahaa
open Go Kern
/-- Masses in memory, one after the other. -/
def balL (B : Nat → Mass) (len : Nat) : List Value := ((List.range len).map fun j => (B j).cs).flatten
theorem balL_length (B : Nat → Mass) : ∀ len, (balL B len).length = len * 4
  | 0 => rfl
  | k + 1 => by
    have := balL_length B k
    unfold balL at this ⊢
    rw [List.range_succ, List.map_append, List.flatten_append, List.length_append, this]
    simp [Mass.cs]; omega
theorem balL_succ (B : Nat → Mass) (k : Nat) : balL B (k + 1) = balL B k ++ (B k).cs := by
  unfold balL
  rw [List.range_succ, List.map_append, List.flatten_append]; simp
theorem putL_append {α : Type} (vs : List α) : ∀ (a b : List α), putL a.length vs (a ++ b) = ob (overL vs b) fun r => some (a ++ r)
  | [], b => by
    show overL vs b = _
    cases overL vs b <;> rfl
  | x :: a, b => by
    show ob (putL a.length vs (a ++ b)) (fun l => some (x :: l)) = _
    rw [putL_append vs a b]
    cases overL vs b <;> rfl
theorem overL_same {α : Type} : ∀ (vs b r : List α), vs.length = b.length → overL vs (b ++ r) = some (vs ++ r)
  | [], [], _, _ => rfl
  | v :: vs, x :: b, r, h => by
    show ob (overL vs (b ++ r)) (fun l => some (v :: l)) = _
    rw [overL_same vs b r (by simpa using h)]; rfl
theorem balL_cut (B : Nat → Mass) {i : Nat} : ∀ {len : Nat}, i < len → ∃ r, balL B len = balL B i ++ ((B i).cs ++ r) ∧ ∀ m : Mass, balL (fun j => if j = i then m else B j) len = balL B i ++ (m.cs ++ r)
  | 0, h => by omega
  | k + 1, h => by
    have hpre : ∀ m : Mass, ∀ q, q ≤ i → balL (fun j => if j = i then m else B j) q = balL B q := fun m q hq => by
      unfold balL
      congr 1
      apply List.map_congr_left
      intro x hx
      have : x < q := by simpa using hx
      show (if x = i then m else B x).cs = _
      rw [if_neg (by omega)]
    by_cases e : i = k
    · subst e
      refine ⟨[], by rw [balL_succ, List.append_nil], fun m => ?_⟩
      rw [balL_succ, hpre m i (Nat.le_refl _), if_pos rfl, List.append_nil]
    · obtain ⟨r, h1, h2⟩ := balL_cut B (i := i) (len := k) (by omega)
      refine ⟨r ++ (B k).cs, by rw [balL_succ, h1]; simp, fun m => ?_⟩
      rw [balL_succ, h2 m, if_neg (fun q => e q.symm)]; simp
theorem balL_put (B : Nat → Mass) {i len : Nat} (h : i < len) (m : Mass) : putL (i * 4) [.int .i64 m.a, .int .i64 m.b, .int .i64 m.c, .int .i64 m.d] (balL B len) = some (balL (fun j => if j = i then m else B j) len) := by
  obtain ⟨r, h1, h2⟩ := balL_cut B h
  rw [h1, h2 m, ← balL_length B i, putL_append]
  have := overL_same m.cs (B i).cs r rfl
  unfold Mass.cs at this ⊢
  rw [this]; rfl
theorem balL_get (B : Nat → Mass) {i len : Nat} (h : i < len) : takeL 4 ((balL B len).drop (i * 4)) = some (B i).cs := by
  unfold balL
  exact drop_flat (fun x hx => by obtain ⟨j, _, rfl⟩ := List.mem_map.1 hx; rfl) (by rw [List.getElem?_map, List.getElem?_range h]; rfl)
/-- Which ends are reached, in memory. -/
def reachL (R : Int → Bool) : List Value := (List.range 9).map fun x : Nat => Value.bool (R ((x : Int) - 1))
theorem reachL_put (R : Int → Bool) {e : Int} (h : -1 ≤ e ∧ e < 8) : putL (e + 1).toNat [.bool true] (reachL R) = some (reachL fun x => R x || decide (x = e)) := by
  rw [putL_set _ _ _ (by simp [reachL]; omega)]
  unfold reachL
  rw [range_setV (h := fun x : Nat => Value.bool (R ((x : Int) - 1) || decide ((x : Int) - 1 = e))) (by omega) (fun x _ hx => by
    have : ¬ (x : Int) - 1 = e := by omega
    simp [this]) (by
    have : (((e + 1).toNat : Nat) : Int) - 1 = e := by omega
    show Value.bool true = Value.bool (R ((((e + 1).toNat : Nat) : Int) - 1) || decide ((((e + 1).toNat : Nat) : Int) - 1 = e))
    rw [this]; simp)]
theorem reachL_get (R : Int → Bool) {e : Int} (h : -1 ≤ e ∧ e < 8) : (reachL R)[(e + 1).toNat]? = some (.bool (R e)) := by
  unfold reachL
  have h1 : (e + 1).toNat < 9 := by omega
  have h2 : (((e + 1).toNat : Nat) : Int) - 1 = e := by omega
  rw [List.getElem?_map, List.getElem?_range h1]
  show some (Value.bool (R ((((e + 1).toNat : Nat) : Int) - 1))) = _
  rw [h2]
/-- What the function that gathers finds in memory. -/
structure GC (s0 s : St) (u : Int) (v : Value) (fs : List FlowD) (ρ π φv φ γ βv β : Nat) : Prop where
  base : s0.next ≤ s.next
  old : ∀ i, i < s0.next → s.heap.get i = s0.heap.get i
  newR : s0.next ≤ ρ ∧ ρ < s.next
  newB : s0.next ≤ β ∧ β < s.next
  ne : ρ ≠ β
  gπ : π < s.next ∧ π ≠ ρ ∧ π ≠ β ∧ s.heap.get π = some (.cells [.int .i64 u, v] none)
  gφv : φv < s.next ∧ φv ≠ ρ ∧ φv ≠ β ∧ s.heap.get φv = some (.cells [.slice (some ⟨φ, 0, none⟩) fs.length fs.length] none)
  gφ : φ < s.next ∧ φ ≠ ρ ∧ φ ≠ β ∧ s.heap.get φ = some (.cells ((List.range fs.length).map fun j => Value.bool (chB fs j)) none)
  gγ : γ < s.next ∧ γ ≠ ρ ∧ γ ≠ β ∧ s.heap.get γ = some (.cells [.func (.func 65) #[] #[.pointer (some ⟨ρ, 0, none⟩), .pointer (some ⟨π, 0, none⟩), .pointer (some ⟨φv, 0, none⟩), .pointer (some ⟨γ, 0, none⟩), .pointer (some ⟨βv, 0, none⟩)]] none)
  gβv : βv < s.next ∧ βv ≠ ρ ∧ βv ≠ β ∧ s.heap.get βv = some (.cells [.slice (some ⟨β, 0, none⟩) fs.length fs.length] none)
theorem GC.keep {s0 s s' : St} {u : Int} {v : Value} {fs : List FlowD} {ρ π φv φ γ βv β : Nat} (h : GC s0 s u v fs ρ π φv φ γ βv β) (h1 : s.next ≤ s'.next) (h2 : ∀ i, i < s.next → i ≠ ρ → i ≠ β → s'.heap.get i = s.heap.get i) : GC s0 s' u v fs ρ π φv φ γ βv β where
  base := Nat.le_trans h.base h1
  old := fun i hi => by
    have := h.base; have := h.newR.1; have := h.newB.1
    rw [h2 i (by omega) (by omega) (by omega)]; exact h.old i hi
  newR := ⟨h.newR.1, Nat.lt_of_lt_of_le h.newR.2 h1⟩
  newB := ⟨h.newB.1, Nat.lt_of_lt_of_le h.newB.2 h1⟩
  ne := h.ne
  gπ := ⟨Nat.lt_of_lt_of_le h.gπ.1 h1, h.gπ.2.1, h.gπ.2.2.1, by rw [h2 _ h.gπ.1 h.gπ.2.1 h.gπ.2.2.1]; exact h.gπ.2.2.2⟩
  gφv := ⟨Nat.lt_of_lt_of_le h.gφv.1 h1, h.gφv.2.1, h.gφv.2.2.1, by rw [h2 _ h.gφv.1 h.gφv.2.1 h.gφv.2.2.1]; exact h.gφv.2.2.2⟩
  gφ := ⟨Nat.lt_of_lt_of_le h.gφ.1 h1, h.gφ.2.1, h.gφ.2.2.1, by rw [h2 _ h.gφ.1 h.gφ.2.1 h.gφ.2.2.1]; exact h.gφ.2.2.2⟩
  gγ := ⟨Nat.lt_of_lt_of_le h.gγ.1 h1, h.gγ.2.1, h.gγ.2.2.1, by rw [h2 _ h.gγ.1 h.gγ.2.1 h.gγ.2.2.1]; exact h.gγ.2.2.2⟩
  gβv := ⟨Nat.lt_of_lt_of_le h.gβv.1 h1, h.gβv.2.1, h.gβv.2.2.1, by rw [h2 _ h.gβv.1 h.gβv.2.1 h.gβv.2.2.1]; exact h.gβv.2.2.2⟩
set_option maxRecDepth 100000 in
set_option maxHeartbeats 4000000 in
theorem gather_ev (n : Nat) (v : Value) (fs : List FlowD) (s0 : St) (ρ π φv φ γ βv β : Nat) (K W : Int) (hn : n ≤ 8) (hf0 : FlAt s0 v fs) (hl : fs.length ≤ 1000) (hends : ∀ f ∈ fs, (-1 ≤ f.fr ∧ f.fr < n) ∧ (-1 ≤ f.to ∧ f.to < n)) (hne : ∀ f ∈ fs, f.fr ≠ f.to)
    (hB12 : ∀ f ∈ fs, f.me = true → f.m.le 1000000000000) (hK : 0 ≤ K) (hexc : ∀ e : Int, (excM [e] fs).le K) (hW : ((n : Int) + 1) * K ≤ W) (hW62 : W ≤ 4611686018427387904) :
    ∀ (m : Nat) (e b : Int) (R0 : Int → Bool) (B0 : Nat → Mass) (s : St), cntP n (Path fs (FE fs b) e) ≤ m → -1 ≤ e → e < n → (∀ (j : Nat) (g : FlowD), (j : Int) = b → fs[j]? = some g → g.fr = e ∨ g.to = e) →
      GC s0 s n v fs ρ π φv φ γ βv β → s.heap.get ρ = some (.cells (reachL R0) none) → s.heap.get β = some (.cells (balL B0 fs.length) none) → (∀ j, (B0 j).le W) →
      Ev TT 65 [.int .i64 e, .int .i64 b, .pointer (some ⟨ρ, 0, none⟩), .pointer (some ⟨π, 0, none⟩), .pointer (some ⟨φv, 0, none⟩), .pointer (some ⟨γ, 0, none⟩), .pointer (some ⟨βv, 0, none⟩)] s fun r s' =>
        ∃ (R : Int → Bool) (B : Nat → Mass) (left : Mass), r = left.v ∧ GDone fs n K W e b R0 B0 R B left ∧ s.next ≤ s'.next ∧ (∀ i, i < s.next → i ≠ ρ → i ≠ β → s'.heap.get i = s.heap.get i) ∧ s'.heap.get ρ = some (.cells (reachL R) none) ∧ s'.heap.get β = some (.cells (balL B fs.length) none) := by
  intro m
  induction m using Nat.strongRecOn with
  | _ m ih =>
  intro e b R0 B0 s hm he1 he2 hinc hC hρ hβ hBW
  obtain ⟨a, c, rfl⟩ := hf0.shape
  rw [List.length_map] at hf0 hC ih
  obtain ⟨hb1, hb2, ⟨hρ1, hρ2⟩, ⟨hβ1, hβ2⟩, hρβ, ⟨hπ1, hπ2, hπ3, hπ4⟩, ⟨hv1, hv2, hv3, hv4⟩, ⟨hφ1, hφ2, hφ3, hφ4⟩, ⟨hγ1, hγ2, hγ3, hγ4⟩, ⟨hw1, hw2, hw3, hw4⟩⟩ := id hC
  have ne := natOf_pos .i64 (show 0 ≤ e + 1 by omega)
  have hput := reachL_put R0 (e := e) (by omega)
  have hee : e - -1 = e + 1 := by omega
  refine Ev.intro (fn := Try.f65) rfl (by kernel_rfl) rfl rfl ?_
  apply zz
  refine Cd.ra (h := ?_)
  apply Run.by_eq
  · intro self
    conv => lhs; simp -implicitDefEqProofs (maxSteps := 300000) (disch := omega) [-getElem?_pos, -getElem?_neg]
  try (with_reducible refine Run.ret ?_)
  apply zz
  refine Cd.ra (h := ?_)
  apply Run.by_eq
  · intro self
    conv => lhs; simp -implicitDefEqProofs (maxSteps := 300000) (disch := omega) [-getElem?_pos, -getElem?_neg, ne, hρ, hput, hee]
  try (with_reducible refine Run.ret ?_)
  apply zz
  refine Cd.ra (h := ?_)
  apply Run.by_eq
  · intro self
    conv => lhs; simp -implicitDefEqProofs (maxSteps := 300000) (disch := omega) [-getElem?_pos, -getElem?_neg, hπ4]
  try (with_reducible refine Run.ret ?_)
  apply zz
  have hkX : ∀ {s' : St}, s.next ≤ s'.next → (∀ i, i < s.next → i ≠ ρ → i ≠ β → s'.heap.get i = s.heap.get i) → FlAt s' (.slice a fs.length c) fs := fun h1 h2 => by
    have hC' := hC.keep h1 h2
    exact hf0.keep ⟨hC'.base, hC'.old⟩
  refine Run.call ((excess_ev n (.slice a fs.length c) (.slice (some ⟨s.next + 1, 0, none⟩) 1 1) fs [e] _ (hkX (by (try simp only [pushed_next', upded_next']); omega) (fun i h1 h2 h3 => by simp -implicitDefEqProofs (disch := omega))) (ints_of_cells (xs := [e]) (g := none) (by simp) (by simp -implicitDefEqProofs (disch := omega))) (by omega) (by simp) hB12).mono fun v wq hv => ?_)
  obtain ⟨rfl, q⟩ := hv
  have qa := q.1
  have qb := q.2
  try simp only [pushed_next', upded_next'] at qa qb
  have hleft0 := hexc e
  have hst : GInv fs n K W e b 0 R0 B0 (fun x => R0 x || decide (x = e)) B0 (excM [e] fs) := GInv.start hK ⟨he1, he2⟩ hleft0 hBW (fun x _ _ => by simp)
  generalize excM [e] fs = l0 at hst
  apply Run.by_eq
  · intro self
    conv => lhs; simp -implicitDefEqProofs (maxSteps := 300000) (disch := omega) [-getElem?_pos, -getElem?_neg, Mass.v]
  try (with_reducible refine Run.ret ?_)
  apply zz
  refine Cd.ra (h := ?_)
  apply Run.by_eq
  · intro self
    conv => lhs; simp -implicitDefEqProofs (maxSteps := 300000) (disch := omega) [-getElem?_pos, -getElem?_neg, hπ4, qb]
  try (with_reducible refine Run.ret ?_)
  apply zz
  refine Cd.inv (fun z f s2 => ∃ (k : Nat) (R : Int → Bool) (B : Nat → Mass) (left : Mass), k ≤ fs.length ∧ z = fs.length - k ∧ f.marks = [] ∧ f.get 25 = .int .i64 k ∧ f.get 24 = .int .i64 fs.length ∧ f.get 23 = .slice a fs.length c ∧ f.get 0 = .int .i64 e ∧ f.get 1 = .int .i64 b ∧ f.get 4 = .pointer (some ⟨φv, 0, none⟩) ∧ f.get 5 = .pointer (some ⟨γ, 0, none⟩) ∧ f.get 6 = .pointer (some ⟨βv, 0, none⟩) ∧ f.get 9 = .pointer (some ⟨s.next, 0, none⟩) ∧ f.get 10 = .pointer (some ⟨wq.next, 0, none⟩) ∧
    wq.next < s2.next ∧ (∀ i, i < s.next → i ≠ ρ → i ≠ β → s2.heap.get i = s.heap.get i) ∧ s2.heap.get s.next = some (.cells Mass.zero.cs none) ∧ s2.heap.get wq.next = some (.cells left.cs none) ∧ s2.heap.get ρ = some (.cells (reachL R) none) ∧ s2.heap.get β = some (.cells (balL B fs.length) none) ∧ GInv fs n K W e b k R0 B0 R B left) fs.length ?_ ?_
  · refine ⟨0, _, B0, l0, by omega, rfl, by simp, by simp, by simp, by simp, by simp, by simp, by simp, by simp, by simp, by simp, by simp, by simp, fun i h1 h2 h3 => ?_, ?_, ?_, ?_, ?_, hst⟩
    · simp -implicitDefEqProofs (disch := omega) [qb]
    · simp -implicitDefEqProofs (disch := omega) [qb, Mass.zero, Mass.cs]
    · simp -implicitDefEqProofs (disch := omega) [Mass.cs]
    · simp -implicitDefEqProofs (disch := omega) [qb]
    · simp -implicitDefEqProofs (disch := omega) [qb, hβ]
  rintro z f s2 ⟨k, R, B, left, hk, rfl, hmk, g25, g24, g23, g0, g1, g4, g5, g6, g9, g10, hnx, hold, hz9, hz10, hzρ, hzβ, hI⟩
  have hC2 := hC.keep (s' := s2) (by omega) hold
  obtain ⟨-, -, -, -, -, ⟨hπ1', -, -, hπ4'⟩, ⟨hv1', -, -, hv4'⟩, ⟨hφ1', -, -, hφ4'⟩, ⟨hγ1', -, -, hγ4'⟩, ⟨hw1', -, -, hw4'⟩⟩ := id hC2
  by_cases hlt : k < fs.length
  · obtain ⟨g, hg⟩ : ∃ g, fs[k]? = some g := ⟨fs[k], by simp [hlt]⟩
    obtain ⟨b', off, o, cs, gg, rfl, hb', ho, hc, ht⟩ := FlAt.at (hf0.keep ⟨hC2.base, hC2.old⟩) hg
    have hgm := List.mem_of_getElem? hg
    have hgne := hne g hgm
    obtain ⟨hV1, hV2⟩ := hends g hgm
    have hskip := fun h => GInv.skip (n := n) (K := K) (W := W) (R0 := R0) (B0 := B0) (R := R) (B := B) (left := left) hg h hI
    have hchk : ((List.range fs.length).map fun j => Value.bool (chB fs j))[k]? = some (.bool (chB fs k)) := by rw [List.getElem?_map, List.getElem?_range hlt]; rfl
    obtain ⟨f0, f1, fm, mm⟩ := g
    rw [FlowD.cs] at ht
    simp only [] at ht hgne hV1 hV2 hskip
    simp only [Mass.cs] at hz9 hz10
    apply zz
    refine Cd.ra (h := ?_)
    apply Run.by_eq
    · intro self
      conv => lhs; simp -implicitDefEqProofs (maxSteps := 300000) (disch := omega) [-getElem?_pos, -getElem?_neg, g25, g24]
    try (with_reducible refine Run.ret ?_)
    apply zz
    apply Cd.ite rfl
    · conv => lhs; simp -implicitDefEqProofs (maxSteps := 300000) (disch := omega) [-getElem?_pos, -getElem?_neg]
    all_goals intro c0
    all_goals try (cases c0; done)
    all_goals try simp only [Bool.not_eq_true', Bool.not_eq_false', decide_eq_true_eq, decide_eq_false_iff_not] at c0
    all_goals apply zz
    · apply zz
      refine Cd.ra (h := ?_)
      apply Run.by_eq
      · intro self
        conv => lhs; simp -implicitDefEqProofs (maxSteps := 300000) (disch := omega) [-getElem?_pos, -getElem?_neg, g25, g23, ho, hc, ht, hlt]
      try (with_reducible refine Run.ret ?_)
      apply zz
      cases hch : chB fs k with
      | false =>
        rw [hch] at hchk
        apply zz
        refine Cd.ra (h := ?_)
        apply Run.by_eq
        · intro self
          conv => lhs; simp -implicitDefEqProofs (maxSteps := 300000) (disch := omega) [-getElem?_pos, -getElem?_neg, g4, hv4', hφ4', hchk, hlt]
        try (with_reducible refine Run.ret ?_)
        apply zz
        apply Cd.ite rfl
        · conv => lhs; simp -implicitDefEqProofs (maxSteps := 300000) (disch := omega) [-getElem?_pos, -getElem?_neg]
        all_goals intro c1
        all_goals try (cases c1; done)
        all_goals try simp only [Bool.not_eq_true', Bool.not_eq_false', decide_eq_true_eq, decide_eq_false_iff_not] at c1
        all_goals apply zz
        apply zz
        refine Cd.ra (h := ?_)
        apply Run.by_eq
        · intro self
          conv => lhs; simp -implicitDefEqProofs (maxSteps := 300000) (disch := omega) [-getElem?_pos, -getElem?_neg, g25]
        try (with_reducible refine Run.ret ?_)
        apply zz
        refine LoopK.nm (fs.length - (k + 1)) (by omega) ⟨k + 1, R, B, left, by omega, rfl, by simp [hmk], by simp, by simp [g24], by simp [g23], by simp [g0], by simp [g1], by simp [g4], by simp [g5], by simp [g6], by simp [g9], by simp [g10], by (try simp only [pushed_next', upded_next']); omega, fun i h1 h2 h3 => ?_, ?_, ?_, ?_, ?_, hskip (.inl hch)⟩
        · simp -implicitDefEqProofs (disch := omega) [hold]
        · simp -implicitDefEqProofs (disch := omega) [hz9, Mass.cs, Mass.zero]
        · simp -implicitDefEqProofs (disch := omega) [hz10, Mass.cs]
        · simp -implicitDefEqProofs (disch := omega) [hzρ]
        · simp -implicitDefEqProofs (disch := omega) [hzβ]
      | true =>
      rw [hch] at hchk
      by_cases hkb : (k : Int) = b
      · have hkd : decide ((k : Int) = b) = true := decide_eq_true hkb
        apply zz
        refine Cd.ra (h := ?_)
        apply Run.by_eq
        · intro self
          conv => lhs; simp -implicitDefEqProofs (maxSteps := 300000) (disch := omega) [-getElem?_pos, -getElem?_neg, g1, g4, hv4', hφ4', hchk, hlt, hkd]
        try (with_reducible refine Run.ret ?_)
        apply zz
        apply Cd.ite rfl
        · conv => lhs; simp -implicitDefEqProofs (maxSteps := 300000) (disch := omega) [-getElem?_pos, -getElem?_neg]
        all_goals intro c1
        all_goals try (cases c1; done)
        all_goals try simp only [Bool.not_eq_true', Bool.not_eq_false', decide_eq_true_eq, decide_eq_false_iff_not] at c1
        all_goals apply zz
        apply zz
        refine Cd.ra (h := ?_)
        apply Run.by_eq
        · intro self
          conv => lhs; simp -implicitDefEqProofs (maxSteps := 300000) (disch := omega) [-getElem?_pos, -getElem?_neg, g25]
        try (with_reducible refine Run.ret ?_)
        apply zz
        refine LoopK.nm (fs.length - (k + 1)) (by omega) ⟨k + 1, R, B, left, by omega, rfl, by simp [hmk], by simp, by simp [g24], by simp [g23], by simp [g0], by simp [g1], by simp [g4], by simp [g5], by simp [g6], by simp [g9], by simp [g10], by (try simp only [pushed_next', upded_next']); omega, fun i h1 h2 h3 => ?_, ?_, ?_, ?_, ?_, hskip (.inr (.inl hkb))⟩
        · simp -implicitDefEqProofs (disch := omega) [hold]
        · simp -implicitDefEqProofs (disch := omega) [hz9, Mass.cs, Mass.zero]
        · simp -implicitDefEqProofs (disch := omega) [hz10, Mass.cs]
        · simp -implicitDefEqProofs (disch := omega) [hzρ]
        · simp -implicitDefEqProofs (disch := omega) [hzβ]
      apply zz
      refine Cd.ra (h := ?_)
      apply Run.by_eq
      · intro self
        conv => lhs; simp -implicitDefEqProofs (maxSteps := 300000) (disch := omega) [-getElem?_pos, -getElem?_neg, g1, g4, hv4', hφ4', hchk, hlt, hkb]
      try (with_reducible refine Run.ret ?_)
      apply zz
      apply Cd.ite rfl
      · conv => lhs; simp -implicitDefEqProofs (maxSteps := 300000) (disch := omega) [-getElem?_pos, -getElem?_neg]
      all_goals intro c1
      all_goals try (cases c1; done)
      all_goals try simp only [Bool.not_eq_true', Bool.not_eq_false', decide_eq_true_eq, decide_eq_false_iff_not] at c1
      all_goals apply zz
      apply zz
      refine Cd.ra (h := ?_)
      apply Run.by_eq
      · intro self
        conv => lhs; simp -implicitDefEqProofs (maxSteps := 300000) (disch := omega) [-getElem?_pos, -getElem?_neg, g0]
      try (with_reducible refine Run.ret ?_)
      apply zz
      by_cases hto : e = f1
      · subst hto
        have hE : Ends ⟨f0, e, fm, mm⟩ e f0 := .inr ⟨rfl, rfl⟩
        have hsl := sub_lt (n := n) hg hch hkb hE hinc ⟨he1, he2⟩
        have hinc' : ∀ (j : Nat) (g : FlowD), (j : Int) = (k : Int) → fs[j]? = some g → g.fr = f0 ∨ g.to = f0 := fun j g hj hgj => by
          obtain rfl : j = k := by omega
          rw [hg] at hgj; cases hgj
          exact .inl rfl
        apply zz
        refine Cd.ra (h := ?_)
        apply Run.by_eq
        · intro self
          conv => lhs; simp -implicitDefEqProofs (maxSteps := 300000) (disch := omega) [-getElem?_pos, -getElem?_neg]
        try (with_reducible refine Run.ret ?_)
        apply zz
        apply Cd.ite rfl
        · conv => lhs; simp -implicitDefEqProofs (maxSteps := 300000) (disch := omega) [-getElem?_pos, -getElem?_neg]
        all_goals intro c2
        all_goals try (cases c2; done)
        all_goals try simp only [Bool.not_eq_true', Bool.not_eq_false', decide_eq_true_eq, decide_eq_false_iff_not] at c2
        all_goals apply zz
        apply zz
        refine Cd.ra (h := ?_)
        apply Run.by_eq
        · intro self
          conv => lhs; simp -implicitDefEqProofs (maxSteps := 300000) (disch := omega) [-getElem?_pos, -getElem?_neg, g5, hγ4']
        try (with_reducible refine Run.ret ?_)
        apply zz
        refine Run.call ((ih _ (by omega) f0 k R B _ (Nat.le_refl _) hV1.1 hV1.2 hinc' (hC2.keep (by (try simp only [pushed_next', upded_next']); omega) (fun i h1 h2 h3 => by simp -implicitDefEqProofs (disch := omega))) (by simp -implicitDefEqProofs (disch := omega) [hzρ]) (by simp -implicitDefEqProofs (disch := omega) [hzβ]) hI.bound).mono fun r s3 hv => ?_)
        obtain ⟨R', B', rest, rfl, hD, d1, d2, d3, d4⟩ := hv
        simp only [pushed_next', upded_next'] at d1 d2
        have hS := GInv.sub (m := rest) hg hch hkb hgne hE hinc hW hK (by rw [if_pos rfl]) hI hD
        have hputB := balL_put B' hlt rest
        have hadd : (left.add rest).le 4611686018427387904 := hS.le.mono (by
          have h1 := cntP_le n (Tk fs e b (k + 1))
          have h2 : ((cntP n (Tk fs e b (k + 1)) : Nat) : Int) * K ≤ ((n : Int) + 1) * K := Int.mul_le_mul_of_nonneg_right (by omega) hK
          omega)
        apply Run.by_eq
        · intro self
          conv => lhs; simp -implicitDefEqProofs (maxSteps := 300000) (disch := omega) [-getElem?_pos, -getElem?_neg, Mass.v]
        try (with_reducible refine Run.ret ?_)
        apply zz
        refine Cd.ra (h := ?_)
        apply Run.by_eq
        · intro self
          conv => lhs; simp -implicitDefEqProofs (maxSteps := 300000) (disch := omega) [-getElem?_pos, -getElem?_neg, g6, d2, hw4', d4, hlt, hputB]
        try (with_reducible refine Run.ret ?_)
        apply zz
        refine Cd.ra (h := ?_)
        apply Run.by_eq
        · intro self
          conv => lhs; simp -implicitDefEqProofs (maxSteps := 300000) (disch := omega) [-getElem?_pos, -getElem?_neg, g10, d2, hz10]
        try (with_reducible refine Run.ret ?_)
        apply zz
        refine Run.call ((plus_ev left rest _ hadd).mono fun v wy hv => ?_)
        obtain ⟨rfl, y⟩ := hv
        have ya := y.1
        have yb := y.2
        try simp only [pushed_next', upded_next'] at ya yb
        apply Run.by_eq
        · intro self
          conv => lhs; simp -implicitDefEqProofs (maxSteps := 300000) (disch := omega) [-getElem?_pos, -getElem?_neg, yb, d2, g10, hz10, Mass.v]
        try (with_reducible refine Run.ret ?_)
        apply zz
        refine Cd.ra (h := ?_)
        apply Run.by_eq
        · intro self
          conv => lhs; simp -implicitDefEqProofs (maxSteps := 300000) (disch := omega) [-getElem?_pos, -getElem?_neg, g25]
        try (with_reducible refine Run.ret ?_)
        apply zz
        refine LoopK.nm (fs.length - (k + 1)) (by omega) ⟨k + 1, R', fun j => if j = k then rest else B' j, left.add rest, by omega, rfl, by simp [hmk], by simp, by simp [g24], by simp [g23], by simp [g0], by simp [g1], by simp [g4], by simp [g5], by simp [g6], by simp [g9], by simp [g10], by (try simp only [pushed_next', upded_next']); omega, fun i h1 h2 h3 => ?_, ?_, ?_, ?_, ?_, hS⟩
        · simp -implicitDefEqProofs (disch := omega) [yb, d2, hold]
        · simp -implicitDefEqProofs (disch := omega) [yb, d2, hz9, Mass.cs, Mass.zero]
        · simp -implicitDefEqProofs (disch := omega) [Mass.cs]
        · simp -implicitDefEqProofs (disch := omega) [yb, d3]
        · simp -implicitDefEqProofs (disch := omega) [yb]
      · have htd : decide (e = f1) = false := decide_eq_false hto
        by_cases hfr : e = f0
        · have hE : Ends ⟨f0, f1, fm, mm⟩ e f1 := .inl ⟨hfr.symm, rfl⟩
          have hsl := sub_lt (n := n) hg hch hkb hE hinc ⟨he1, he2⟩
          have hinc' : ∀ (j : Nat) (g : FlowD), (j : Int) = (k : Int) → fs[j]? = some g → g.fr = f1 ∨ g.to = f1 := fun j g hj hgj => by
            obtain rfl : j = k := by omega
            rw [hg] at hgj; cases hgj
            exact .inr rfl
          have hfd : decide (e = f0) = true := decide_eq_true hfr
          apply zz
          refine Cd.ra (h := ?_)
          apply Run.by_eq
          · intro self
            conv => lhs; simp -implicitDefEqProofs (maxSteps := 300000) (disch := omega) [-getElem?_pos, -getElem?_neg, htd]
          try (with_reducible refine Run.ret ?_)
          apply zz
          apply Cd.ite rfl
          · conv => lhs; simp -implicitDefEqProofs (maxSteps := 300000) (disch := omega) [-getElem?_pos, -getElem?_neg]
          all_goals intro c2
          all_goals try (cases c2; done)
          all_goals try simp only [Bool.not_eq_true', Bool.not_eq_false', decide_eq_true_eq, decide_eq_false_iff_not] at c2
          all_goals apply zz
          apply zz
          refine Cd.ra (h := ?_)
          apply Run.by_eq
          · intro self
            conv => lhs; simp -implicitDefEqProofs (maxSteps := 300000) (disch := omega) [-getElem?_pos, -getElem?_neg, hfd]
          try (with_reducible refine Run.ret ?_)
          apply zz
          apply Cd.ite rfl
          · conv => lhs; simp -implicitDefEqProofs (maxSteps := 300000) (disch := omega) [-getElem?_pos, -getElem?_neg]
          all_goals intro c3
          all_goals try (cases c3; done)
          all_goals try simp only [Bool.not_eq_true', Bool.not_eq_false', decide_eq_true_eq, decide_eq_false_iff_not] at c3
          all_goals apply zz
          apply zz
          refine Cd.ra (h := ?_)
          apply Run.by_eq
          · intro self
            conv => lhs; simp -implicitDefEqProofs (maxSteps := 300000) (disch := omega) [-getElem?_pos, -getElem?_neg, g5, hγ4']
          try (with_reducible refine Run.ret ?_)
          apply zz
          refine Run.call ((ih _ (by omega) f1 k R B _ (Nat.le_refl _) hV2.1 hV2.2 hinc' (hC2.keep (by (try simp only [pushed_next', upded_next']); omega) (fun i h1 h2 h3 => by simp -implicitDefEqProofs (disch := omega))) (by simp -implicitDefEqProofs (disch := omega) [hzρ]) (by simp -implicitDefEqProofs (disch := omega) [hzβ]) hI.bound).mono fun r s3 hv => ?_)
          obtain ⟨R', B', rest, rfl, hD, d1, d2, d3, d4⟩ := hv
          simp only [pushed_next', upded_next'] at d1 d2
          have hS := GInv.sub (m := Mass.zero.sub rest) hg hch hkb hgne hE hinc hW hK (by rw [if_neg (fun q => hto q.symm)]) hI hD
          have hputB := balL_put B' hlt (Mass.zero.sub rest)
          have hadd : (left.add rest).le 4611686018427387904 := hS.le.mono (by
            have h1 := cntP_le n (Tk fs e b (k + 1))
            have h2 : ((cntP n (Tk fs e b (k + 1)) : Nat) : Int) * K ≤ ((n : Int) + 1) * K := Int.mul_le_mul_of_nonneg_right (by omega) hK
            omega)
          have hneg : (Mass.zero.sub rest).le 4611686018427387904 := Mass.le_neg (hD.le.mono (by
            have h1 := cntP_le n (Path fs (FE fs k) f1)
            have h2 : ((cntP n (Path fs (FE fs k) f1) : Nat) : Int) * K ≤ ((n : Int) + 1) * K := Int.mul_le_mul_of_nonneg_right (by omega) hK
            omega))
          have veβ : veq 5 (Value.slice (some ⟨β, 0, none⟩) fs.length fs.length) (Value.slice (some ⟨β, 0, none⟩) fs.length fs.length) = true := veq_slice _ _ _ _ _
          apply Run.by_eq
          · intro self
            conv => lhs; simp -implicitDefEqProofs (maxSteps := 300000) (disch := omega) [-getElem?_pos, -getElem?_neg, Mass.v]
          try (with_reducible refine Run.ret ?_)
          apply zz
          refine Cd.drawnH (pl := [(0, 0, false, false), (1, 0, false, false), (2, 0, false, false), (3, 0, false, false), (4, 12, true, false), (5, 31, false, false), (6, 63, true, false)]) [true, true, false, false, false, false, false] (by kernel_rfl) (by decide) (by decide) (by conv => lhs; simp only [List.map_cons, List.map_nil]) (by conv => lhs; simp [strip, orderedG, flagH]) ?_
          apply Run.by_eq
          · intro self
            conv => lhs; simp -implicitDefEqProofs (maxSteps := 300000) (disch := omega) [-getElem?_pos, -getElem?_neg, g6, d2, hw4', d4, hlt, veβ]
          try (with_reducible refine Run.ret ?_)
          apply zz
          refine Run.call ((minus_ev Mass.zero rest _ hneg).mono fun v wx hv => ?_)
          obtain ⟨rfl, x⟩ := hv
          have xa := x.1
          have xb := x.2
          try simp only [pushed_next', upded_next'] at xa xb
          apply Run.by_eq
          · intro self
            conv => lhs; simp -implicitDefEqProofs (maxSteps := 300000) (disch := omega) [-getElem?_pos, -getElem?_neg, xb, d2, hw4', d4, hlt, veβ, hputB, Mass.v]
          try (with_reducible refine Run.ret ?_)
          apply zz
          refine Cd.ra (h := ?_)
          apply Run.by_eq
          · intro self
            conv => lhs; simp -implicitDefEqProofs (maxSteps := 300000) (disch := omega) [-getElem?_pos, -getElem?_neg, g10, xb, d2, hz10]
          try (with_reducible refine Run.ret ?_)
          apply zz
          refine Run.call ((plus_ev left rest _ hadd).mono fun v wy hv => ?_)
          obtain ⟨rfl, y⟩ := hv
          have ya := y.1
          have yb := y.2
          try simp only [pushed_next', upded_next'] at ya yb
          apply Run.by_eq
          · intro self
            conv => lhs; simp -implicitDefEqProofs (maxSteps := 300000) (disch := omega) [-getElem?_pos, -getElem?_neg, yb, xb, d2, g10, hz10, Mass.v]
          try (with_reducible refine Run.ret ?_)
          apply zz
          refine Cd.ra (h := ?_)
          apply Run.by_eq
          · intro self
            conv => lhs; simp -implicitDefEqProofs (maxSteps := 300000) (disch := omega) [-getElem?_pos, -getElem?_neg, g25]
          try (with_reducible refine Run.ret ?_)
          apply zz
          refine LoopK.nm (fs.length - (k + 1)) (by omega) ⟨k + 1, R', fun j => if j = k then Mass.zero.sub rest else B' j, left.add rest, by omega, rfl, by simp [hmk], by simp, by simp [g24], by simp [g23], by simp [g0], by simp [g1], by simp [g4], by simp [g5], by simp [g6], by simp [g9], by simp [g10], by (try simp only [pushed_next', upded_next']); omega, fun i h1 h2 h3 => ?_, ?_, ?_, ?_, ?_, hS⟩
          · simp -implicitDefEqProofs (disch := omega) [yb, xb, d2, hold]
          · simp -implicitDefEqProofs (disch := omega) [yb, xb, d2, hz9, Mass.cs, Mass.zero]
          · simp -implicitDefEqProofs (disch := omega) [Mass.cs]
          · simp -implicitDefEqProofs (disch := omega) [yb, xb, d3]
          · simp -implicitDefEqProofs (disch := omega) [yb, xb]
        · have hfd : decide (e = f0) = false := decide_eq_false hfr
          apply zz
          refine Cd.ra (h := ?_)
          apply Run.by_eq
          · intro self
            conv => lhs; simp -implicitDefEqProofs (maxSteps := 300000) (disch := omega) [-getElem?_pos, -getElem?_neg, htd]
          try (with_reducible refine Run.ret ?_)
          apply zz
          apply Cd.ite rfl
          · conv => lhs; simp -implicitDefEqProofs (maxSteps := 300000) (disch := omega) [-getElem?_pos, -getElem?_neg]
          all_goals intro c2
          all_goals try (cases c2; done)
          all_goals try simp only [Bool.not_eq_true', Bool.not_eq_false', decide_eq_true_eq, decide_eq_false_iff_not] at c2
          all_goals apply zz
          apply zz
          refine Cd.ra (h := ?_)
          apply Run.by_eq
          · intro self
            conv => lhs; simp -implicitDefEqProofs (maxSteps := 300000) (disch := omega) [-getElem?_pos, -getElem?_neg, hfd]
          try (with_reducible refine Run.ret ?_)
          apply zz
          apply Cd.ite rfl
          · conv => lhs; simp -implicitDefEqProofs (maxSteps := 300000) (disch := omega) [-getElem?_pos, -getElem?_neg]
          all_goals intro c3
          all_goals try (cases c3; done)
          all_goals try simp only [Bool.not_eq_true', Bool.not_eq_false', decide_eq_true_eq, decide_eq_false_iff_not] at c3
          all_goals apply zz
          apply zz
          refine Cd.ra (h := ?_)
          apply Run.by_eq
          · intro self
            conv => lhs; simp -implicitDefEqProofs (maxSteps := 300000) (disch := omega) [-getElem?_pos, -getElem?_neg, g25]
          try (with_reducible refine Run.ret ?_)
          apply zz
          refine LoopK.nm (fs.length - (k + 1)) (by omega) ⟨k + 1, R, B, left, by omega, rfl, by simp [hmk], by simp, by simp [g24], by simp [g23], by simp [g0], by simp [g1], by simp [g4], by simp [g5], by simp [g6], by simp [g9], by simp [g10], by (try simp only [pushed_next', upded_next']); omega, fun i h1 h2 h3 => ?_, ?_, ?_, ?_, ?_, hskip (.inr (.inr ⟨fun q => hfr q.symm, fun q => hto q.symm⟩))⟩
          · simp -implicitDefEqProofs (disch := omega) [hold]
          · simp -implicitDefEqProofs (disch := omega) [hz9, Mass.cs, Mass.zero]
          · simp -implicitDefEqProofs (disch := omega) [hz10, Mass.cs]
          · simp -implicitDefEqProofs (disch := omega) [hzρ]
          · simp -implicitDefEqProofs (disch := omega) [hzβ]
    · simp at c0; omega
  · obtain rfl : k = fs.length := by omega
    apply zz
    refine Cd.ra (h := ?_)
    apply Run.by_eq
    · intro self
      conv => lhs; simp -implicitDefEqProofs (maxSteps := 300000) (disch := omega) [-getElem?_pos, -getElem?_neg, g25, g24]
    try (with_reducible refine Run.ret ?_)
    apply zz
    apply Cd.ite rfl
    · conv => lhs; simp -implicitDefEqProofs (maxSteps := 300000) (disch := omega) [-getElem?_pos, -getElem?_neg]
    all_goals intro c0
    all_goals try (cases c0; done)
    all_goals try simp only [Bool.not_eq_true', Bool.not_eq_false', decide_eq_true_eq, decide_eq_false_iff_not] at c0
    all_goals apply zz
    simp only [Mass.cs] at hz9 hz10
    apply zz
    refine Cd.ra (h := ?_)
    apply Run.by_eq
    · intro self
      conv => lhs; simp -implicitDefEqProofs (maxSteps := 300000) (disch := omega) [-getElem?_pos, -getElem?_neg, g9, g10, hz9, hz10]
    try (with_reducible refine Run.ret ?_)
    apply zz
    apply Leave.mk (by first | exact .inl rfl | exact .inr rfl) (by simp only [Fr.marks_put, fr0_marks, hmk, g9])
    · conv => lhs; simp -implicitDefEqProofs (disch := omega) [Try.results65, hmk, g9]
    refine ⟨R, B, left, rfl, hI.done hinc, by (try simp only [upded_next']); omega, fun i h1 h2 h3 => ?_, ?_, ?_⟩
    · simp -implicitDefEqProofs (disch := omega) [hold]
    · simp -implicitDefEqProofs (disch := omega) [hzρ]
    · simp -implicitDefEqProofs (disch := omega) [hzβ]
end Go.Proofs.Ytifkpaomhnlahaa
namespace Go.Proofs.Ytifkpaomhnlahaa
open Go Kern
/-- What a balance holds ahead of the trees. -/
def bal0 (fs : List FlowD) (k : Nat) (j : Nat) : Mass := if j < k then (match fs[j]? with | some f => if f.me = true then f.m else Mass.zero | none => Mass.zero) else Mass.zero
theorem bal0_succ {fs : List FlowD} {k : Nat} {f : FlowD} (hf : fs[k]? = some f) : bal0 fs (k + 1) = fun j => if j = k then (if f.me = true then f.m else Mass.zero) else bal0 fs k j := by
  funext j
  unfold bal0
  by_cases e : j = k
  · subst e; rw [if_pos (by omega), if_pos rfl, hf]
  · rw [if_neg e]
    by_cases h : j < k
    · rw [if_pos (by omega), if_pos h]
    · rw [if_neg (by omega), if_neg h]
theorem balL_congr {B B' : Nat → Mass} {len : Nat} (h : ∀ j, j < len → B j = B' j) : balL B len = balL B' len := by
  unfold balL
  congr 1
  apply List.map_congr_left
  intro j hj
  rw [h j (by simpa using hj)]
theorem balL_zero : ∀ len, balL (fun _ => Mass.zero) len = repeatL [.int .i64 0, .int .i64 0, .int .i64 0, .int .i64 0] len
  | 0 => rfl
  | k + 1 => by
    rw [balL_succ, balL_zero k]
    have : ∀ (z : List Value) (q : Nat), repeatL z q ++ z = repeatL z (q + 1) := fun z q => by
      induction q with
      | zero => show [] ++ z = z ++ []; simp
      | succ q ih =>
        show (z ++ repeatL z q) ++ z = z ++ repeatL z (q + 1)
        rw [List.append_assoc, ih]
    exact this _ _
@[simp] theorem cells_nilFunc : (Value.nilFunc).cells = #[Value.nilFunc] := rfl
structure Settled (fs : List FlowD) (n : Nat) (W : Int) (B : Nat → Mass) : Prop where
  meas : ∀ (j : Nat) (f : FlowD), fs[j]? = some f → f.me = true → B j = f.m
  rest : ∀ (j : Nat) (f : FlowD), fs[j]? = some f → f.me = false → chB fs j = false → B j = Mass.zero
  nets : ∀ v : Int, -1 ≤ v → v < n → (∀ y : Int, -1 ≤ y → Path fs (FE fs (-1)) y v → v ≤ y) ∨ netB fs B v = Mass.zero
  bound : ∀ j, (B j).le W
theorem hang_all {fs : List FlowD} {j : Nat} {f : FlowD} {e : Int} (hf : fs[j]? = some f) (hc : chB fs j = true) (h : Path fs (FE fs (-1)) e f.fr) {v : Int} (hv : f.fr = v ∨ f.to = v) : Path fs (FE fs (-1)) e v := by
  rcases hv with rfl | rfl
  · exact h
  · exact .step j f h hf ⟨hc, by omega⟩ (.inl ⟨rfl, rfl⟩)
structure SInv (fs : List FlowD) (n : Nat) (W : Int) (k : Nat) (R : Int → Bool) (B : Nat → Mass) : Prop where
  reach : ∀ x : Int, -1 ≤ x → x < n → (R x = true ↔ ∃ y : Int, -1 ≤ y ∧ y < (k : Int) - 1 ∧ Path fs (FE fs (-1)) y x)
  nets : ∀ v : Int, -1 ≤ v → v < n → R v = true → (∀ y : Int, -1 ≤ y → Path fs (FE fs (-1)) y v → v ≤ y) ∨ netB fs B v = Mass.zero
  touch : ∀ j, B j ≠ bal0 fs fs.length j → chB fs j = true
  bound : ∀ j, (B j).le W
theorem SInv.start {fs : List FlowD} {n : Nat} {W : Int} (hW : 0 ≤ W) (hB : ∀ f ∈ fs, f.me = true → f.m.le W) : SInv fs n W 0 (fun _ => false) (bal0 fs fs.length) where
  reach := fun x h1 h2 => by
    constructor
    · intro h; cases h
    · rintro ⟨y, a, b, _⟩; omega
  nets := fun v _ _ h => by cases h
  touch := fun j h => absurd rfl h
  bound := fun j => by
    unfold bal0
    split
    · cases hj : fs[j]? with
      | none => exact Mass.le_zero hW
      | some f =>
        simp only []
        by_cases hm : f.me = true
        · rw [if_pos hm]; exact hB f (List.mem_of_getElem? hj) hm
        · rw [if_neg hm]; exact Mass.le_zero hW
    · exact Mass.le_zero hW
theorem SInv.skip {fs : List FlowD} {n : Nat} {W : Int} {k : Nat} {R : Int → Bool} {B : Nat → Mass} (h : SInv fs n W k R B) (hk : k < n + 1) (hr : R ((k : Int) - 1) = true) : SInv fs n W (k + 1) R B where
  reach := fun x h1 h2 => by
    rw [h.reach x h1 h2]
    constructor
    · rintro ⟨y, a, b, c⟩; exact ⟨y, a, by omega, c⟩
    · rintro ⟨y, a, b, c⟩
      by_cases e : y = (k : Int) - 1
      · subst e
        obtain ⟨z, a', b', c'⟩ := (h.reach _ (by omega) (by omega)).1 hr
        exact ⟨z, a', b', c'.trans c⟩
      · exact ⟨y, a, by omega, c⟩
  nets := h.nets
  touch := h.touch
  bound := h.bound
theorem SInv.step {fs : List FlowD} {n : Nat} {K W : Int} {k : Nat} {R R' : Int → Bool} {B B' : Nat → Mass} {left : Mass} (h : SInv fs n W k R B) (hk : k < n + 1) (hr : R ((k : Int) - 1) = false) (hd : GDone fs n K W ((k : Int) - 1) (-1) R B R' B' left) : SInv fs n W (k + 1) R' B' where
  reach := fun x h1 h2 => by
    rw [hd.reach x h1 h2, h.reach x h1 h2]
    constructor
    · rintro (⟨y, a, b, c⟩ | c)
      · exact ⟨y, a, by omega, c⟩
      · exact ⟨(k : Int) - 1, by omega, by omega, c⟩
    · rintro ⟨y, a, b, c⟩
      by_cases e : y = (k : Int) - 1
      · subst e; exact .inr c
      · exact .inl ⟨y, a, by omega, c⟩
  nets := fun v h1 h2 hv => by
    by_cases hp : Path fs (FE fs (-1)) ((k : Int) - 1) v
    · by_cases e : v = (k : Int) - 1
      · subst e
        refine .inl fun y hy hyv => ?_
        refine Classical.byContradiction fun hlt => ?_
        have := (h.reach ((k : Int) - 1) (by omega) (by omega)).2 ⟨y, hy, by omega, hyv⟩
        rw [hr] at this; cases this
      · exact .inr (hd.nets v hp e)
    · have hR : R v = true := by
        rcases (hd.reach v h1 h2).1 hv with h | h
        · exact h
        · exact absurd h hp
      rcases h.nets v h1 h2 hR with h' | h'
      · exact .inl h'
      · refine .inr (h' ▸ netx_congr fun j g _ _ hg hc hv => ?_)
        refine Classical.byContradiction fun hne => ?_
        obtain ⟨g', hg', _, _, hpg⟩ := hd.touch j hne
        rw [hg] at hg'; cases hg'
        exact hp (hang_all hg hc hpg hv)
  touch := fun j hj => by
    by_cases e : B' j = B j
    · exact h.touch j (by rw [← e]; exact hj)
    · obtain ⟨g, _, hc, _⟩ := hd.touch j e
      exact hc
  bound := hd.bound
theorem SInv.done {fs : List FlowD} {n : Nat} {W : Int} {R : Int → Bool} {B : Nat → Mass} (h : SInv fs n W (n + 1) R B) : Settled fs n W B where
  meas := fun j f hf hm => by
    have hc : chB fs j = false := by rw [chB_some hf, hm]; rfl
    have hB : B j = bal0 fs fs.length j := Classical.byContradiction fun hne => by rw [h.touch j hne] at hc; cases hc
    rw [hB]
    unfold bal0
    rw [if_pos (List.getElem?_eq_some_iff.1 hf).1, hf]
    simp only [hm, if_true]
  rest := fun j f hf hm hc => by
    have hB : B j = bal0 fs fs.length j := Classical.byContradiction fun hne => by rw [h.touch j hne] at hc; cases hc
    rw [hB]
    unfold bal0
    rw [if_pos (List.getElem?_eq_some_iff.1 hf).1, hf]
    simp [hm]
  nets := fun v h1 h2 => h.nets v h1 h2 ((h.reach v h1 h2).2 ⟨v, h1, by omega, .refl⟩)
  bound := h.bound
set_option maxRecDepth 100000 in
set_option maxHeartbeats 4000000 in
theorem settle_ev (n : Nat) (v : Value) (fs : List FlowD) (s : St) (K W : Int) (hn : n ≤ 8) (hf : FlAt s v fs) (hl : fs.length ≤ 1000) (hends : ∀ f ∈ fs, (-1 ≤ f.fr ∧ f.fr < n) ∧ (-1 ≤ f.to ∧ f.to < n)) (hne : ∀ f ∈ fs, f.fr ≠ f.to)
    (hB12 : ∀ f ∈ fs, f.me = true → f.m.le 1000000000000) (hBW : ∀ f ∈ fs, f.me = true → f.m.le W) (hK : 0 ≤ K) (hexc : ∀ e : Int, (excM [e] fs).le K) (hW : ((n : Int) + 1) * K ≤ W) (hW0 : 0 ≤ W) (hW62 : W ≤ 4611686018427387904) :
    Ev TT 48 [plantV n v] s fun r s' => Keep s s' ∧ ∃ β B, r = .slice (some ⟨β, 0, none⟩) fs.length fs.length ∧ s.next ≤ β ∧ β < s'.next ∧ s'.heap.get β = some (.cells (balL B fs.length) none) ∧ Settled fs n W B := by
  obtain ⟨a, c, rfl⟩ := hf.shape
  rw [List.length_map] at hf ⊢
  unfold plantV
  have nl := natOf_cast .i64 fs.length
  refine Ev.intro (fn := Try.f48) rfl (by kernel_rfl) rfl rfl ?_
  apply zz
  refine Cd.ra (h := ?_)
  apply Run.by_eq
  · intro self
    conv => lhs; simp -implicitDefEqProofs (maxSteps := 300000) (disch := omega) [-getElem?_pos, -getElem?_neg]
  try (with_reducible refine Run.ret ?_)
  apply zz
  refine Cd.ra (h := ?_)
  apply Run.by_eq
  · intro self
    conv => lhs; simp -implicitDefEqProofs (maxSteps := 300000) (disch := omega) [-getElem?_pos, -getElem?_neg, nl]
  try (with_reducible refine Run.ret ?_)
  apply zz
  refine Cd.ra (h := ?_)
  apply Run.by_eq
  · intro self
    conv => lhs; simp -implicitDefEqProofs (maxSteps := 300000) (disch := omega) [-getElem?_pos, -getElem?_neg]
  try (with_reducible refine Run.ret ?_)
  apply zz
  refine Cd.inv (fun z f s' => ∃ k : Nat, k ≤ fs.length ∧ z = fs.length - k ∧ f.marks = [] ∧ f.get 17 = .int .i64 k ∧ f.get 16 = .int .i64 fs.length ∧ f.get 15 = .slice a fs.length c ∧ f.get 1 = .pointer (some ⟨s.next, 0, none⟩) ∧ f.get 3 = .pointer (some ⟨s.next + 1 + 1, 0, none⟩) ∧ Keep s s' ∧ s.next + 1 + 1 < s'.next ∧
    s'.heap.get s.next = some (.cells [.int .i64 n, .slice a fs.length c] none) ∧ s'.heap.get (s.next + 1) = some (.cells (balL (bal0 fs k) fs.length) none) ∧ s'.heap.get (s.next + 1 + 1) = some (.cells [.slice (some ⟨s.next + 1, 0, none⟩) fs.length fs.length] none)) fs.length ?_ ?_
  · refine ⟨0, by omega, rfl, by simp, by simp, by simp, by simp, by simp, by simp, ⟨by (try simp only [pushed_next', upded_next']); omega, fun i hi => by simp -implicitDefEqProofs (disch := omega) []⟩, by simp, by simp -implicitDefEqProofs (disch := omega), ?_, by simp -implicitDefEqProofs (disch := omega)⟩
    rw [show bal0 fs 0 = fun _ => Mass.zero from by funext j; unfold bal0; rw [if_neg (by omega)], balL_zero]
    simp -implicitDefEqProofs (disch := omega)
  rintro z f s' ⟨k, hk, rfl, hm, h17, h16, h15, h1, h3, hkp, hnx, hg0, hg1, hg2⟩
  have hkpa := hkp.1
  have hkpb := hkp.2
  by_cases hlt : k < fs.length
  · obtain ⟨g, hg⟩ : ∃ g, fs[k]? = some g := ⟨fs[k], by simp [hlt]⟩
    have hb0 := bal0_succ hg
    obtain ⟨b, off, o, cs, gg, rfl, hb, ho, hc, ht⟩ := FlAt.at (hf.keep hkp) hg
    obtain ⟨g0, g1, gm, m⟩ := g
    rw [FlowD.cs] at ht
    simp only [] at ht hb0
    apply zz
    refine Cd.ra (h := ?_)
    apply Run.by_eq
    · intro self
      conv => lhs; simp -implicitDefEqProofs (maxSteps := 300000) (disch := omega) [-getElem?_pos, -getElem?_neg, h17, h16]
    try (with_reducible refine Run.ret ?_)
    apply zz
    apply Cd.ite rfl
    · conv => lhs; simp -implicitDefEqProofs (maxSteps := 300000) (disch := omega) [-getElem?_pos, -getElem?_neg]
    all_goals intro c0
    all_goals try (cases c0; done)
    all_goals try simp only [Bool.not_eq_true', Bool.not_eq_false', decide_eq_true_eq, decide_eq_false_iff_not] at c0
    all_goals apply zz
    · apply zz
      refine Cd.ra (h := ?_)
      apply Run.by_eq
      · intro self
        conv => lhs; simp -implicitDefEqProofs (maxSteps := 300000) (disch := omega) [-getElem?_pos, -getElem?_neg, h17, h15, ho, hc, ht, hlt]
      try (with_reducible refine Run.ret ?_)
      apply zz
      refine Cd.ra (h := ?_)
      apply Run.by_eq
      · intro self
        conv => lhs; simp -implicitDefEqProofs (maxSteps := 300000) (disch := omega) [-getElem?_pos, -getElem?_neg]
      try (with_reducible refine Run.ret ?_)
      apply zz
      cases gm with
      | true =>
        have hput := balL_put (bal0 fs k) hlt m
        rw [show (fun j => if j = k then m else bal0 fs k j) = bal0 fs (k + 1) from by rw [hb0]; rfl] at hput
        apply zz
        apply Cd.ite rfl
        · conv => lhs; simp -implicitDefEqProofs (maxSteps := 300000) (disch := omega) [-getElem?_pos, -getElem?_neg]
        all_goals intro c1
        all_goals try (cases c1; done)
        all_goals try simp only [Bool.not_eq_true', Bool.not_eq_false', decide_eq_true_eq, decide_eq_false_iff_not] at c1
        all_goals apply zz
        apply zz
        refine Cd.ra (h := ?_)
        apply Run.by_eq
        · intro self
          conv => lhs; simp -implicitDefEqProofs (maxSteps := 300000) (disch := omega) [-getElem?_pos, -getElem?_neg, h3, hg1, hg2, hlt, hput]
        try (with_reducible refine Run.ret ?_)
        apply zz
        refine Cd.ra (h := ?_)
        apply Run.by_eq
        · intro self
          conv => lhs; simp -implicitDefEqProofs (maxSteps := 300000) (disch := omega) [-getElem?_pos, -getElem?_neg, h17]
        try (with_reducible refine Run.ret ?_)
        apply zz
        refine LoopK.nm (fs.length - (k + 1)) (by omega) ⟨k + 1, by omega, rfl, by simp [hm], by simp, by simp [h16], by simp [h15], by simp [h1], by simp [h3], ⟨by (try simp only [pushed_next', upded_next']); omega, fun i hi => by simp -implicitDefEqProofs (disch := omega) [hkpb]⟩, by (try simp only [pushed_next', upded_next']); omega, ?_, ?_, ?_⟩
        · simp -implicitDefEqProofs (disch := omega) [hg0]
        · simp -implicitDefEqProofs (disch := omega)
        · simp -implicitDefEqProofs (disch := omega) [hg2]
      | false =>
        have hsame : balL (bal0 fs (k + 1)) fs.length = balL (bal0 fs k) fs.length := balL_congr fun j _ => by
          rw [hb0]
          show (if j = k then (if false = true then m else Mass.zero) else bal0 fs k j) = _
          by_cases e : j = k
          · subst e; rw [if_pos rfl, if_neg (by decide)]; unfold bal0; rw [if_neg (by omega)]
          · rw [if_neg e]
        apply zz
        apply Cd.ite rfl
        · conv => lhs; simp -implicitDefEqProofs (maxSteps := 300000) (disch := omega) [-getElem?_pos, -getElem?_neg]
        all_goals intro c1
        all_goals try (cases c1; done)
        all_goals try simp only [Bool.not_eq_true', Bool.not_eq_false', decide_eq_true_eq, decide_eq_false_iff_not] at c1
        all_goals apply zz
        apply zz
        refine Cd.ra (h := ?_)
        apply Run.by_eq
        · intro self
          conv => lhs; simp -implicitDefEqProofs (maxSteps := 300000) (disch := omega) [-getElem?_pos, -getElem?_neg, h17]
        try (with_reducible refine Run.ret ?_)
        apply zz
        refine LoopK.nm (fs.length - (k + 1)) (by omega) ⟨k + 1, by omega, rfl, by simp [hm], by simp, by simp [h16], by simp [h15], by simp [h1], by simp [h3], ⟨by (try simp only [pushed_next', upded_next']); omega, fun i hi => by simp -implicitDefEqProofs (disch := omega) [hkpb]⟩, by (try simp only [pushed_next', upded_next']); omega, ?_, ?_, ?_⟩
        · simp -implicitDefEqProofs (disch := omega) [hg0]
        · rw [hsame]; simp -implicitDefEqProofs (disch := omega) [hg1]
        · simp -implicitDefEqProofs (disch := omega) [hg2]
    · simp at c0; omega
  obtain rfl : k = fs.length := by omega
  apply zz
  refine Cd.ra (h := ?_)
  apply Run.by_eq
  · intro self
    conv => lhs; simp -implicitDefEqProofs (maxSteps := 300000) (disch := omega) [-getElem?_pos, -getElem?_neg, h17, h16]
  try (with_reducible refine Run.ret ?_)
  apply zz
  apply Cd.ite rfl
  · conv => lhs; simp -implicitDefEqProofs (maxSteps := 300000) (disch := omega) [-getElem?_pos, -getElem?_neg]
  all_goals intro c0
  all_goals try (cases c0; done)
  all_goals try simp only [Bool.not_eq_true', Bool.not_eq_false', decide_eq_true_eq, decide_eq_false_iff_not] at c0
  all_goals apply zz
  apply zz
  refine Cd.ra (h := ?_)
  apply Run.by_eq
  · intro self
    conv => lhs; simp -implicitDefEqProofs (maxSteps := 300000) (disch := omega) [-getElem?_pos, -getElem?_neg, h1, hg0]
  try (with_reducible refine Run.ret ?_)
  apply zz
  refine Run.call ((forestOf_ev n _ fs _ (hf.keep hkp) hl).mono fun r w1 hv => ?_)
  obtain ⟨k1, φ, rfl, hφ1, hφ2, hφ3⟩ := hv
  have k1a := k1.1
  have k1b := k1.2
  have hold1 : ∀ i, i < s.next → w1.heap.get i = s.heap.get i := fun i hi => by rw [k1b i (by omega), hkpb i hi]
  have hw0 := (k1b s.next (by omega)).trans hg0
  have hw1 := (k1b (s.next + 1) (by omega)).trans hg1
  have hw2 := (k1b (s.next + 1 + 1) (by omega)).trans hg2
  apply Run.by_eq
  · intro self
    conv => lhs; simp -implicitDefEqProofs (maxSteps := 300000) (disch := omega) [-getElem?_pos, -getElem?_neg]
  try (with_reducible refine Run.ret ?_)
  apply zz
  refine Cd.ra (h := ?_)
  apply Run.by_eq
  · intro self
    conv => lhs; simp -implicitDefEqProofs (maxSteps := 300000) (disch := omega) [-getElem?_pos, -getElem?_neg]
  try (with_reducible refine Run.ret ?_)
  apply zz
  refine Cd.ra (h := ?_)
  apply Run.by_eq
  · intro self
    conv => lhs; simp -implicitDefEqProofs (maxSteps := 300000) (disch := omega) [-getElem?_pos, -getElem?_neg]
  try (with_reducible refine Run.ret ?_)
  apply zz
  refine Cd.ra (h := ?_)
  apply Run.by_eq
  · intro self
    conv => lhs; simp -implicitDefEqProofs (maxSteps := 300000) (disch := omega) [-getElem?_pos, -getElem?_neg, h1, h3]
  try (with_reducible refine Run.ret ?_)
  apply zz
  refine Cd.ra (h := ?_)
  apply Run.by_eq
  · intro self
    conv => lhs; simp -implicitDefEqProofs (maxSteps := 300000) (disch := omega) [-getElem?_pos, -getElem?_neg]
  try (with_reducible refine Run.ret ?_)
  apply zz
  have hR0 : reachL (fun _ => false) = [.bool false, .bool false, .bool false, .bool false, .bool false, .bool false, .bool false, .bool false, .bool false] := rfl
  refine Cd.inv (fun z f s' => ∃ (k : Nat) (R : Int → Bool) (B : Nat → Mass), k ≤ n + 1 ∧ z = n + 1 - k ∧ f.marks = [] ∧ f.get 9 = .int .i64 ((k : Int) - 1) ∧ f.get 1 = .pointer (some ⟨s.next, 0, none⟩) ∧ f.get 3 = .pointer (some ⟨s.next + 1 + 1, 0, none⟩) ∧ f.get 7 = .pointer (some ⟨w1.next + 1, 0, none⟩) ∧ f.get 8 = .pointer (some ⟨w1.next + 1 + 1, 0, none⟩) ∧
    GC s s' n (.slice a fs.length c) fs (w1.next + 1) s.next w1.next φ (w1.next + 1 + 1) (s.next + 1 + 1) (s.next + 1) ∧ s'.heap.get (w1.next + 1) = some (.cells (reachL R) none) ∧ s'.heap.get (s.next + 1) = some (.cells (balL B fs.length) none) ∧ SInv fs n W k R B) (n + 1) ?_ ?_
  · refine ⟨0, fun _ => false, bal0 fs fs.length, by omega, rfl, by simp [hm], by simp, by simp [h1], by simp [h3], by simp, by simp, ?_, ?_, ?_, SInv.start hW0 hBW⟩
    · refine ⟨by (try simp only [pushed_next', upded_next']); omega, fun i hi => ?_, ⟨by omega, by (try simp only [pushed_next', upded_next']); omega⟩, ⟨by omega, by (try simp only [pushed_next', upded_next']); omega⟩, by omega, ⟨by (try simp only [pushed_next', upded_next']); omega, by omega, by omega, ?_⟩, ⟨by (try simp only [pushed_next', upded_next']); omega, by omega, by omega, ?_⟩, ⟨by (try simp only [pushed_next', upded_next']); omega, by omega, by omega, ?_⟩, ⟨by (try simp only [pushed_next', upded_next']); omega, by omega, by omega, ?_⟩, ⟨by (try simp only [pushed_next', upded_next']); omega, by omega, by omega, ?_⟩⟩
      · simp -implicitDefEqProofs (disch := omega) [hold1]
      · simp -implicitDefEqProofs (disch := omega) [hw0]
      · simp -implicitDefEqProofs (disch := omega)
      · simp -implicitDefEqProofs (disch := omega) [hφ3]
      · simp -implicitDefEqProofs (disch := omega)
      · simp -implicitDefEqProofs (disch := omega) [hw2]
    · rw [hR0]; simp -implicitDefEqProofs (disch := omega)
    · simp -implicitDefEqProofs (disch := omega) [hw1]
  rintro z f2 s2 ⟨k, R, B, hk, rfl, gm, g9, g1, g3, g7, g8, hC, hρ, hβ, hS⟩
  obtain ⟨hb1, hb2, ⟨hρ1, hρ2⟩, ⟨hβ1, hβ2⟩, hρβ, ⟨hπ1, hπ2, hπ3, hπ4⟩, ⟨hv1, hv2, hv3, hv4⟩, ⟨hx1, hx2, hx3, hx4⟩, ⟨hγ1, hγ2, hγ3, hγ4⟩, ⟨hy1, hy2, hy3, hy4⟩⟩ := id hC
  by_cases hkn : k < n + 1
  · have hkd : ((k : Int) - 1 < n) := by omega
    have hge := reachL_get R (e := (k : Int) - 1) (by omega)
    have nk := natOf_cast .i64 k
    have hkk : (k : Int) - 1 - -1 = k := by omega
    rw [show ((k : Int) - 1 + 1).toNat = k by omega] at hge
    have hk9 : k < 9 := by omega
    apply zz
    refine Cd.ra (h := ?_)
    apply Run.by_eq
    · intro self
      conv => lhs; simp -implicitDefEqProofs (maxSteps := 300000) (disch := omega) [-getElem?_pos, -getElem?_neg, g9, g1, hπ4, hkd]
    try (with_reducible refine Run.ret ?_)
    apply zz
    apply Cd.ite rfl
    · conv => lhs; simp -implicitDefEqProofs (maxSteps := 300000) (disch := omega) [-getElem?_pos, -getElem?_neg]
    all_goals intro d0
    all_goals try (cases d0; done)
    all_goals try simp only [Bool.not_eq_true', Bool.not_eq_false', decide_eq_true_eq, decide_eq_false_iff_not] at d0
    all_goals apply zz
    cases hR : R ((k : Int) - 1) with
    | true =>
      rw [hR] at hge
      apply zz
      refine Cd.ra (h := ?_)
      apply Run.by_eq
      · intro self
        conv => lhs; simp -implicitDefEqProofs (maxSteps := 300000) (disch := omega) [-getElem?_pos, -getElem?_neg, g9, g7, hkk, nk, hk9, hρ, hge]
      try (with_reducible refine Run.ret ?_)
      apply zz
      apply Cd.ite rfl
      · conv => lhs; simp -implicitDefEqProofs (maxSteps := 300000) (disch := omega) [-getElem?_pos, -getElem?_neg]
      all_goals intro d1
      all_goals try (cases d1; done)
      all_goals try simp only [Bool.not_eq_true', Bool.not_eq_false', decide_eq_true_eq, decide_eq_false_iff_not] at d1
      all_goals apply zz
      apply zz
      refine Cd.ra (h := ?_)
      apply Run.by_eq
      · intro self
        conv => lhs; simp -implicitDefEqProofs (maxSteps := 300000) (disch := omega) [-getElem?_pos, -getElem?_neg, g9]
      try (with_reducible refine Run.ret ?_)
      apply zz
      refine LoopK.nm (n + 1 - (k + 1)) (by omega) ⟨k + 1, R, B, by omega, rfl, by simp [gm], ?_, by simp [g1], by simp [g3], by simp [g7], by simp [g8], hC, hρ, hβ, hS.skip hkn hR⟩
      simp
    | false =>
      rw [hR] at hge
      apply zz
      refine Cd.ra (h := ?_)
      apply Run.by_eq
      · intro self
        conv => lhs; simp -implicitDefEqProofs (maxSteps := 300000) (disch := omega) [-getElem?_pos, -getElem?_neg, g9, g7, hkk, nk, hk9, hρ, hge]
      try (with_reducible refine Run.ret ?_)
      apply zz
      apply Cd.ite rfl
      · conv => lhs; simp -implicitDefEqProofs (maxSteps := 300000) (disch := omega) [-getElem?_pos, -getElem?_neg]
      all_goals intro d1
      all_goals try (cases d1; done)
      all_goals try simp only [Bool.not_eq_true', Bool.not_eq_false', decide_eq_true_eq, decide_eq_false_iff_not] at d1
      all_goals apply zz
      apply zz
      refine Cd.ra (h := ?_)
      apply Run.by_eq
      · intro self
        conv => lhs; simp -implicitDefEqProofs (maxSteps := 300000) (disch := omega) [-getElem?_pos, -getElem?_neg, g8, g9, hγ4]
      try (with_reducible refine Run.ret ?_)
      apply zz
      refine Run.call ((gather_ev n _ fs s (w1.next + 1) s.next w1.next φ (w1.next + 1 + 1) (s.next + 1 + 1) (s.next + 1) K W hn hf hl hends hne hB12 hK hexc hW hW62 _ ((k : Int) - 1) (-1) R B s2 (Nat.le_refl _) (by omega) (by omega) (fun j g hj _ => absurd hj (by omega)) hC hρ hβ hS.bound).mono fun r s3 hv => ?_)
      obtain ⟨R', B', rest, rfl, hD, d1', d2, d3, d4⟩ := hv
      apply Run.by_eq
      · intro self
        conv => lhs; simp -implicitDefEqProofs (maxSteps := 300000) (disch := omega) [-getElem?_pos, -getElem?_neg]
      try (with_reducible refine Run.ret ?_)
      apply zz
      refine Cd.ra (h := ?_)
      apply Run.by_eq
      · intro self
        conv => lhs; simp -implicitDefEqProofs (maxSteps := 300000) (disch := omega) [-getElem?_pos, -getElem?_neg, g9]
      try (with_reducible refine Run.ret ?_)
      apply zz
      refine LoopK.nm (n + 1 - (k + 1)) (by omega) ⟨k + 1, R', B', by omega, rfl, by simp [gm], ?_, by simp [g1], by simp [g3], by simp [g7], by simp [g8], hC.keep d1' d2, d3, d4, hS.step hkn hR hD⟩
      simp
  · obtain rfl : k = n + 1 := by omega
    have hkd : ¬ (((n + 1 : Nat) : Int) - 1 < n) := by omega
    apply zz
    refine Cd.ra (h := ?_)
    apply Run.by_eq
    · intro self
      conv => lhs; simp -implicitDefEqProofs (maxSteps := 300000) (disch := omega) [-getElem?_pos, -getElem?_neg, g9, g1, hπ4, hkd]
    try (with_reducible refine Run.ret ?_)
    apply zz
    apply Cd.ite rfl
    · conv => lhs; simp -implicitDefEqProofs (maxSteps := 300000) (disch := omega) [-getElem?_pos, -getElem?_neg]
    all_goals intro d0
    all_goals try (cases d0; done)
    all_goals try simp only [Bool.not_eq_true', Bool.not_eq_false', decide_eq_true_eq, decide_eq_false_iff_not] at d0
    all_goals apply zz
    apply zz
    refine Cd.ra (h := ?_)
    apply Run.by_eq
    · intro self
      conv => lhs; simp -implicitDefEqProofs (maxSteps := 300000) (disch := omega) [-getElem?_pos, -getElem?_neg, g3, hy4]
    try (with_reducible refine Run.ret ?_)
    apply zz
    apply Leave.mk (by first | exact .inl rfl | exact .inr rfl) (by simp only [Fr.marks_put, fr0_marks, gm])
    · conv => lhs; simp -implicitDefEqProofs (disch := omega) [Try.results48, gm]
    exact ⟨⟨hC.base, hC.old⟩, s.next + 1, B, rfl, by omega, by omega, hβ, hS.done⟩
end Go.Proofs.Ytifkpaomhnlahaa
namespace Go.Proofs.Ytifkpaomhnlahaa
open Go Kern
/-! Sums over ends -/
def sumL (g : Int → Mass) : List Int → Mass
  | [] => Mass.zero
  | x :: r => (g x).add (sumL g r)
theorem sumL_zero {g : Int → Mass} : ∀ {xs : List Int}, (∀ x ∈ xs, g x = Mass.zero) → sumL g xs = Mass.zero
  | [], _ => rfl
  | x :: r, h => by unfold sumL; rw [h x (.head _), sumL_zero fun y hy => h y (.tail _ hy), Mass.add_zero]
theorem sumL_congr {g h : Int → Mass} : ∀ {xs : List Int}, (∀ x ∈ xs, g x = h x) → sumL g xs = sumL h xs
  | [], _ => rfl
  | x :: r, hc => by unfold sumL; rw [hc x (.head _), sumL_congr fun y hy => hc y (.tail _ hy)]
theorem sumL_one {g : Int → Mass} {u : Int} : ∀ {xs : List Int}, xs.Nodup → u ∈ xs → (∀ x ∈ xs, x ≠ u → g x = Mass.zero) → sumL g xs = g u
  | [], _, h, _ => by cases h
  | x :: r, hn, h, hz => by
    unfold sumL
    obtain ⟨h1, h2⟩ := List.nodup_cons.1 hn
    by_cases e : x = u
    · subst e
      rw [sumL_zero fun y hy => hz y (.tail _ hy) fun q => h1 (q ▸ hy), Mass.add_zero]
    · rw [hz x (.head _) e, Mass.zero_add]
      refine sumL_one h2 ?_ fun y hy => hz y (.tail _ hy)
      cases h with
      | head => exact absurd rfl e
      | tail _ h => exact h
theorem sumL_add (g h : Int → Mass) : ∀ xs, sumL (fun x => (g x).add (h x)) xs = (sumL g xs).add (sumL h xs)
  | [] => (Mass.add_zero _).symm
  | x :: r => by unfold sumL; rw [sumL_add g h r, Mass.add_swap]
theorem sumL_sumN (g : Int → Nat → Mass) (xs : List Int) : ∀ k, sumL (fun x => sumN (g x) k) xs = sumN (fun j => sumL (fun x => g x j) xs) k
  | 0 => sumL_zero fun _ _ => rfl
  | k + 1 => by
    unfold sumN
    rw [sumL_add, sumL_sumN g xs k]
theorem sumL_brings {f : FlowD} (hne : f.fr ≠ f.to) (m : Mass) : ∀ {xs : List Int}, xs.Nodup → sumL (fun v => brings f v m) xs = bringsL f xs m
  | [], _ => by simp [sumL, bringsL]
  | x :: r, hn => by
    obtain ⟨h1, h2⟩ := List.nodup_cons.1 hn
    unfold sumL
    rw [sumL_brings hne m h2]
    unfold brings bringsL
    by_cases e1 : f.to = x
    · have e2 : ¬ f.fr = x := fun q => hne (q.trans e1.symm)
      have e3 : ¬ f.to ∈ r := fun q => h1 (e1 ▸ q)
      by_cases e4 : f.fr ∈ r
      · simp [e1, e2, e4, e1 ▸ e3, Mass.add_neg]
      · simp [e1, e2, e4, e1 ▸ e3, Mass.add_zero]
    · by_cases e2 : f.fr = x
      · have e4 : ¬ f.fr ∈ r := fun q => h1 (e2 ▸ q)
        by_cases e3 : f.to ∈ r
        · have e5 : ¬ x ∈ r := h1
          simp [e1, e2, e3, e5, Mass.add_comm, Mass.add_neg]
        · have e5 : ¬ x ∈ r := h1
          simp [e1, e2, e3, e5, Mass.add_zero]
      · simp [e1, e2, Mass.zero_add]
/-- What comes to a set of ends, by measured flows and by those of the forest. -/
theorem sum_net {fs : List FlowD} (B : Nat → Mass) (hne : ∀ f ∈ fs, f.fr ≠ f.to) {xs : List Int} (hn : xs.Nodup) :
    sumL (netB fs B) xs = (excM xs fs).add (sumN (fun j => match fs[j]? with | some f => (if chB fs j = true then bringsL f xs (B j) else Mass.zero) | none => Mass.zero) fs.length) := by
  have h1 : ∀ v, netB fs B v = (sumN (fun j => match fs[j]? with | some f => (if f.me = true then brings f v f.m else Mass.zero) | none => Mass.zero) fs.length).add (sumN (fun j => contr fs B v j) fs.length) := fun v => by
    unfold netB netx
    have e1 : excM [v] fs = sumN (fun j => match fs[j]? with | some f => (if f.me = true then brings f v f.m else Mass.zero) | none => Mass.zero) fs.length := by
      rw [excM_sum]
      refine sumN_congr fun j hj => ?_
      have hg : fs[j]? = some fs[j] := List.getElem?_eq_getElem hj
      rw [hg]
      simp only []
      rw [bringsL_one (hne _ (List.getElem_mem hj))]
    rw [e1]
    congr 1
  rw [sumL_congr fun v _ => h1 v, sumL_add, sumL_sumN, sumL_sumN, excM_sum]
  congr 1
  · refine sumN_congr fun j hj => ?_
    have hg : fs[j]? = some fs[j] := List.getElem?_eq_getElem hj
    rw [hg]
    simp only []
    by_cases hm : fs[j].me = true
    · simp only [hm, if_true]
      exact sumL_brings (hne _ (List.getElem_mem hj)) _ hn
    · rw [if_neg hm]
      exact sumL_zero fun _ _ => if_neg hm
  · refine sumN_congr fun j hj => ?_
    have hg : fs[j]? = some fs[j] := List.getElem?_eq_getElem hj
    unfold contr
    rw [hg]
    simp only []
    by_cases hc : chB fs j = true
    · simp only [hc, if_true]
      exact sumL_brings (hne _ (List.getElem_mem hj)) _ hn
    · rw [if_neg hc]
      exact sumL_zero fun _ _ => if_neg hc
theorem bringsL_in {f : FlowD} {xs : List Int} (h : f.fr ∈ xs ↔ f.to ∈ xs) (m : Mass) : bringsL f xs m = Mass.zero := by
  unfold bringsL
  by_cases h1 : f.to ∈ xs
  · rw [if_pos h1, if_pos (h.2 h1)]
  · rw [if_neg h1, if_neg (fun q => h1 (h.1 q))]
theorem clsN_nodup (rt : Int → Int) (k n : Nat) : (clsN rt k n).Nodup := (clsN_sorted rt k n).imp fun h => by omega
theorem mem_cls' {rt : Int → Int} {n k : Nat} (ho : rt k ≠ rt (-1)) {x : Int} (h1 : -1 ≤ x) (h2 : x < n) : x ∈ clsN rt k n ↔ rt x = rt k := by
  by_cases h0 : x = -1
  · subst h0
    constructor
    · intro h
      unfold clsN at h
      obtain ⟨y, _, e⟩ := List.mem_map.1 h
      omega
    · intro h; exact absurd h.symm ho
  · obtain ⟨y, rfl⟩ : ∃ y : Nat, x = y := ⟨x.toNat, by omega⟩
    exact mem_cls (by omega)
theorem rt_FE (fs : List FlowD) (x y : Int) : rtF (-1) fs 0 id x = rtF (-1) fs 0 id y ↔ Path fs (FE fs (-1)) x y := by
  rw [forest_all]
  constructor <;> refine fun h => h.mono fun j f _ he => ?_
  · exact ⟨he, by omega⟩
  · exact he.1
/-- If no part has an excess, as much comes to each unit as goes from it. -/
theorem settled_zero {fs : List FlowD} {n : Nat} {W : Int} {B : Nat → Mass} (h : Settled fs n W B) (hends : ∀ f ∈ fs, (-1 ≤ f.fr ∧ f.fr < n) ∧ (-1 ≤ f.to ∧ f.to < n)) (hne : ∀ f ∈ fs, f.fr ≠ f.to)
    (hz : ∀ k : Nat, k < n → isLead (rtF (-1) fs 0 id) n k = true → excM (clsN (rtF (-1) fs 0 id) k n) fs = Mass.zero) {u : Nat} (hu : u < n) : netB fs B u = Mass.zero := by
  rcases h.nets u (by omega) (by omega) with hl | hl
  · have hL : isLead (rtF (-1) fs 0 id) n u = true := isLead_of hu (fun l hlu e => by
      have := hl l (by omega) ((rt_FE fs _ _).1 e)
      omega) (fun e => by
      have := hl (-1) (by omega) ((rt_FE fs _ _).1 e.symm)
      omega)
    have hex := hz u hu hL
    have ho : rtF (-1) fs 0 id u ≠ rtF (-1) fs 0 id (-1) := by
      simp only [isLead, Bool.and_eq_true, Bool.not_eq_true', decide_eq_false_iff_not] at hL
      exact hL.2
    have hsum := sum_net B hne (clsN_nodup (rtF (-1) fs 0 id) u n)
    rw [hex, Mass.zero_add] at hsum
    have hin : sumN (fun j => match fs[j]? with | some f => (if chB fs j = true then bringsL f (clsN (rtF (-1) fs 0 id) u n) (B j) else Mass.zero) | none => Mass.zero) fs.length = Mass.zero := by
      rw [sumN_congr (h := fun _ => Mass.zero) fun j hj => ?_, sumN_zero]
      have hg : fs[j]? = some fs[j] := List.getElem?_eq_getElem hj
      rw [hg]
      simp only []
      split
      · rename_i hc
        obtain ⟨⟨a, b⟩, c, d⟩ := hends _ (List.getElem_mem hj)
        refine bringsL_in ?_ _
        rw [mem_cls' ho a b, mem_cls' ho c d, (rt_FE fs fs[j].fr fs[j].to).2 (Path.one hg ⟨hc, by omega⟩)]
      · rfl
    rw [hin] at hsum
    have hmem : (u : Int) ∈ clsN (rtF (-1) fs 0 id) u n := (mem_cls hu).2 rfl
    rw [sumL_one (clsN_nodup _ _ _) hmem fun x hx hxu => ?_] at hsum
    · exact hsum
    · unfold clsN at hx
      obtain ⟨y, hy, rfl⟩ := List.mem_map.1 hx
      obtain ⟨hy1, hy2⟩ := List.mem_filter.1 hy
      have hyn : y < n := by simpa using hy1
      have hyu : rtF (-1) fs 0 id y = rtF (-1) fs 0 id u := by simpa using hy2
      rcases h.nets y (by omega) (by omega) with h' | h'
      · have h1 := h' u (by omega) ((rt_FE fs _ _).1 hyu.symm)
        have h2 := hl y (by omega) ((rt_FE fs _ _).1 hyu)
        exact absurd (by omega) hxu
      · exact h'
  · exact hl
/-- What a flow carries that is the only one, of those that are not measured, between a set of units and the rest. -/
theorem cut_value {fs : List FlowD} {n : Nat} {B : Nat → Mass} (hne : ∀ f ∈ fs, f.fr ≠ f.to) (hnet : ∀ u : Nat, u < n → netB fs B u = Mass.zero) {xs : List Int} (hn : xs.Nodup) (hxs : ∀ x ∈ xs, 0 ≤ x ∧ x < n)
    {i : Nat} {f : FlowD} (hf : fs[i]? = some f) (hc : chB fs i = true) (hin : ∀ (j : Nat) (g : FlowD), fs[j]? = some g → g.me = false → j ≠ i → (g.fr ∈ xs ↔ g.to ∈ xs)) : (excM xs fs).add (bringsL f xs (B i)) = Mass.zero := by
  have h1 := sum_net B hne hn
  rw [sumL_zero fun x hx => ?_] at h1
  · rw [sumN_one (i := i) (List.getElem?_eq_some_iff.1 hf).1 fun j hj hji => ?_] at h1
    · rw [hf] at h1
      simp only [hc, if_true] at h1
      exact h1.symm
    · have hg : fs[j]? = some fs[j] := List.getElem?_eq_getElem hj
      rw [hg]
      simp only []
      split
      · rename_i hcj
        obtain ⟨⟨g, hg', hm⟩, _⟩ := chB_unm hcj
        rw [hg] at hg'; cases hg'
        exact bringsL_in (hin j _ hg hm hji) _
      · rfl
  · obtain ⟨a, b⟩ := hxs x hx
    obtain ⟨y, rfl⟩ : ∃ y : Nat, x = y := ⟨x.toNat, by omega⟩
    exact hnet y (by omega)
end Go.Proofs.Ytifkpaomhnlahaa
