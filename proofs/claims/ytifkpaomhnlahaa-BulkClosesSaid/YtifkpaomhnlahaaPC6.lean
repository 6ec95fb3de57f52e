/-
  A balance is settled as stated, for every plant. If no part has an excess, as much comes to each unit as goes from it. A flow that is found carries what its side has as excess. Prove and the reference's Prove answer as stated, for every plant. Close answers as stated, for every plant. Regions that draw their order and make blocks, as equations. The reference's Close answers as stated, for every plant. The law BulkCloses is calculated true, for every argument. The law's self-check returns true in every world, and leaves what was there as it was: its answer is calculated by the kernel. What is calculated true of slices of the world holds of the call. Arguments that the row reads are slices, plants and numbers of the world. The statement BulkCloses is true. They hold with no condition but those that are written in each theorem.
-/
import Derived.Test.YtifkpaomhnlahaaProg
import Derived.Test.YtifkpaomhnlahaaRows
import Derived.ProofKit
import Derived.Deep.Slices
import Derived.Lib.SmallJoins
import Derived.Laws.IdiomArrays
import Derived.Test.YtifkpaomhnlahaaPC1
import Derived.Test.YtifkpaomhnlahaaPC2
import Derived.Test.YtifkpaomhnlahaaPC3
import Derived.Test.YtifkpaomhnlahaaPC4
import Derived.Test.YtifkpaomhnlahaaPC5
set_option linter.unusedSimpArgs false
set_option linter.unusedVariables false
namespace Go.Proofs.Ytifkpaomhnlahaa
open Go Kern
/-- What a balance holds ahead of the trees. -/
def bal0 (fs : List FlowD) (k : Nat) (j : Nat) : Mass := if j < k then (match fs[j]? with | some f => if f.me = true then f.m else Mass.zero | none => Mass.zero) else Mass.zero
theorem bal0_succ {fs : List FlowD} {k : Nat} {f : FlowD} (hf : fs[k]? = some f) : bal0 fs (k + 1) = fun j => if j = k then (if f.me = true then f.m else Mass.zero) else bal0 fs k j := by
  funext j
  unfold bal0
  by_cases e : j = k
  · subst e; rw [if_pos (by omega), if_pos rfl, hf]
  · rw [if_neg e]
    by_cases h : j < k
    · rw [if_pos (by omega), if_pos h]
    · rw [if_neg (by omega), if_neg h]
theorem balL_congr {B B' : Nat → Mass} {len : Nat} (h : ∀ j, j < len → B j = B' j) : balL B len = balL B' len := by
  unfold balL
  congr 1
  apply List.map_congr_left
  intro j hj
  rw [h j (by simpa using hj)]
theorem balL_zero : ∀ len, balL (fun _ => Mass.zero) len = repeatL [.int .i64 0, .int .i64 0, .int .i64 0, .int .i64 0] len
  | 0 => rfl
  | k + 1 => by
    rw [balL_succ, balL_zero k]
    have : ∀ (z : List Value) (q : Nat), repeatL z q ++ z = repeatL z (q + 1) := fun z q => by
      induction q with
      | zero => show [] ++ z = z ++ []; simp
      | succ q ih =>
        show (z ++ repeatL z q) ++ z = z ++ repeatL z (q + 1)
        rw [List.append_assoc, ih]
    exact this _ _
@[simp] theorem cells_nilFunc : (Value.nilFunc).cells = #[Value.nilFunc] := rfl
structure Settled (fs : List FlowD) (n : Nat) (W : Int) (B : Nat → Mass) : Prop where
  meas : ∀ (j : Nat) (f : FlowD), fs[j]? = some f → f.me = true → B j = f.m
  rest : ∀ (j : Nat) (f : FlowD), fs[j]? = some f → f.me = false → chB fs j = false → B j = Mass.zero
  nets : ∀ v : Int, -1 ≤ v → v < n → (∀ y : Int, -1 ≤ y → Path fs (FE fs (-1)) y v → v ≤ y) ∨ netB fs B v = Mass.zero
  bound : ∀ j, (B j).le W
theorem hang_all {fs : List FlowD} {j : Nat} {f : FlowD} {e : Int} (hf : fs[j]? = some f) (hc : chB fs j = true) (h : Path fs (FE fs (-1)) e f.fr) {v : Int} (hv : f.fr = v ∨ f.to = v) : Path fs (FE fs (-1)) e v := by
  rcases hv with rfl | rfl
  · exact h
  · exact .step j f h hf ⟨hc, by omega⟩ (.inl ⟨rfl, rfl⟩)
structure SInv (fs : List FlowD) (n : Nat) (W : Int) (k : Nat) (R : Int → Bool) (B : Nat → Mass) : Prop where
  reach : ∀ x : Int, -1 ≤ x → x < n → (R x = true ↔ ∃ y : Int, -1 ≤ y ∧ y < (k : Int) - 1 ∧ Path fs (FE fs (-1)) y x)
  nets : ∀ v : Int, -1 ≤ v → v < n → R v = true → (∀ y : Int, -1 ≤ y → Path fs (FE fs (-1)) y v → v ≤ y) ∨ netB fs B v = Mass.zero
  touch : ∀ j, B j ≠ bal0 fs fs.length j → chB fs j = true
  bound : ∀ j, (B j).le W
theorem SInv.start {fs : List FlowD} {n : Nat} {W : Int} (hW : 0 ≤ W) (hB : ∀ f ∈ fs, f.me = true → f.m.le W) : SInv fs n W 0 (fun _ => false) (bal0 fs fs.length) where
  reach := fun x h1 h2 => by
    constructor
    · intro h; cases h
    · rintro ⟨y, a, b, _⟩; omega
  nets := fun v _ _ h => by cases h
  touch := fun j h => absurd rfl h
  bound := fun j => by
    unfold bal0
    split
    · cases hj : fs[j]? with
      | none => exact Mass.le_zero hW
      | some f =>
        simp only []
        by_cases hm : f.me = true
        · rw [if_pos hm]; exact hB f (List.mem_of_getElem? hj) hm
        · rw [if_neg hm]; exact Mass.le_zero hW
    · exact Mass.le_zero hW
theorem SInv.skip {fs : List FlowD} {n : Nat} {W : Int} {k : Nat} {R : Int → Bool} {B : Nat → Mass} (h : SInv fs n W k R B) (hk : k < n + 1) (hr : R ((k : Int) - 1) = true) : SInv fs n W (k + 1) R B where
  reach := fun x h1 h2 => by
    rw [h.reach x h1 h2]
    constructor
    · rintro ⟨y, a, b, c⟩; exact ⟨y, a, by omega, c⟩
    · rintro ⟨y, a, b, c⟩
      by_cases e : y = (k : Int) - 1
      · subst e
        obtain ⟨z, a', b', c'⟩ := (h.reach _ (by omega) (by omega)).1 hr
        exact ⟨z, a', b', c'.trans c⟩
      · exact ⟨y, a, by omega, c⟩
  nets := h.nets
  touch := h.touch
  bound := h.bound
theorem SInv.step {fs : List FlowD} {n : Nat} {K W : Int} {k : Nat} {R R' : Int → Bool} {B B' : Nat → Mass} {left : Mass} (h : SInv fs n W k R B) (hk : k < n + 1) (hr : R ((k : Int) - 1) = false) (hd : GDone fs n K W ((k : Int) - 1) (-1) R B R' B' left) : SInv fs n W (k + 1) R' B' where
  reach := fun x h1 h2 => by
    rw [hd.reach x h1 h2, h.reach x h1 h2]
    constructor
    · rintro (⟨y, a, b, c⟩ | c)
      · exact ⟨y, a, by omega, c⟩
      · exact ⟨(k : Int) - 1, by omega, by omega, c⟩
    · rintro ⟨y, a, b, c⟩
      by_cases e : y = (k : Int) - 1
      · subst e; exact .inr c
      · exact .inl ⟨y, a, by omega, c⟩
  nets := fun v h1 h2 hv => by
    by_cases hp : Path fs (FE fs (-1)) ((k : Int) - 1) v
    · by_cases e : v = (k : Int) - 1
      · subst e
        refine .inl fun y hy hyv => ?_
        refine Classical.byContradiction fun hlt => ?_
        have := (h.reach ((k : Int) - 1) (by omega) (by omega)).2 ⟨y, hy, by omega, hyv⟩
        rw [hr] at this; cases this
      · exact .inr (hd.nets v hp e)
    · have hR : R v = true := by
        rcases (hd.reach v h1 h2).1 hv with h | h
        · exact h
        · exact absurd h hp
      rcases h.nets v h1 h2 hR with h' | h'
      · exact .inl h'
      · refine .inr (h' ▸ netx_congr fun j g _ _ hg hc hv => ?_)
        refine Classical.byContradiction fun hne => ?_
        obtain ⟨g', hg', _, _, hpg⟩ := hd.touch j hne
        rw [hg] at hg'; cases hg'
        exact hp (hang_all hg hc hpg hv)
  touch := fun j hj => by
    by_cases e : B' j = B j
    · exact h.touch j (by rw [← e]; exact hj)
    · obtain ⟨g, _, hc, _⟩ := hd.touch j e
      exact hc
  bound := hd.bound
theorem SInv.done {fs : List FlowD} {n : Nat} {W : Int} {R : Int → Bool} {B : Nat → Mass} (h : SInv fs n W (n + 1) R B) : Settled fs n W B where
  meas := fun j f hf hm => by
    have hc : chB fs j = false := by rw [chB_some hf, hm]; rfl
    have hB : B j = bal0 fs fs.length j := Classical.byContradiction fun hne => by rw [h.touch j hne] at hc; cases hc
    rw [hB]
    unfold bal0
    rw [if_pos (List.getElem?_eq_some_iff.1 hf).1, hf]
    simp only [hm, if_true]
  rest := fun j f hf hm hc => by
    have hB : B j = bal0 fs fs.length j := Classical.byContradiction fun hne => by rw [h.touch j hne] at hc; cases hc
    rw [hB]
    unfold bal0
    rw [if_pos (List.getElem?_eq_some_iff.1 hf).1, hf]
    simp [hm]
  nets := fun v h1 h2 => h.nets v h1 h2 ((h.reach v h1 h2).2 ⟨v, h1, by omega, .refl⟩)
  bound := h.bound
set_option maxRecDepth 100000 in
set_option maxHeartbeats 4000000 in
theorem settle_ev (n : Nat) (v : Value) (fs : List FlowD) (s : St) (K W : Int) (hn : n ≤ 8) (hf : FlAt s v fs) (hl : fs.length ≤ 1000) (hends : ∀ f ∈ fs, (-1 ≤ f.fr ∧ f.fr < n) ∧ (-1 ≤ f.to ∧ f.to < n)) (hne : ∀ f ∈ fs, f.fr ≠ f.to)
    (hB12 : ∀ f ∈ fs, f.me = true → f.m.le 1000000000000) (hBW : ∀ f ∈ fs, f.me = true → f.m.le W) (hK : 0 ≤ K) (hexc : ∀ e : Int, (excM [e] fs).le K) (hW : ((n : Int) + 1) * K ≤ W) (hW0 : 0 ≤ W) (hW62 : W ≤ 4611686018427387904) :
    Ev TT 48 [plantV n v] s fun r s' => Keep s s' ∧ ∃ β B, r = .slice (some ⟨β, 0, none⟩) fs.length fs.length ∧ s.next ≤ β ∧ β < s'.next ∧ s'.heap.get β = some (.cells (balL B fs.length) none) ∧ Settled fs n W B := by
  obtain ⟨a, c, rfl⟩ := hf.shape
  rw [List.length_map] at hf ⊢
  unfold plantV
  have nl := natOf_cast .i64 fs.length
  refine Ev.intro (fn := Try.f48) rfl (by kernel_rfl) rfl rfl ?_
  with_reducible repeat first|apply Z0|apply Z1|apply Z2|apply Z3|apply Z4|apply Z5|refine Z6 rfl ?_|apply Z7|apply Z8|apply Z9|apply Z10|apply Z11|apply Z12|apply Z13|apply Z14|apply Z15|apply Z16
  with_reducible repeat first|apply Z0|apply Z1|apply Z2|apply Z3|apply Z4|apply Z5|refine Z6 rfl ?_|apply Z7|apply Z8|apply Z9|apply Z10|apply Z11|apply Z12|apply Z13|apply Z14|apply Z15|apply Z16
  refine Cd.reg (by kernel_rfl) (by conv => lhs; simp only [List.map_cons, List.map_nil]) (by conv => lhs; simp only [List.map_cons, List.map_nil, strip]) ?_
  apply Run.by_eq
  · intro self
    conv => lhs; simp -implicitDefEqProofs (maxSteps := 300000) (disch := omega) [-getElem?_pos, -getElem?_neg]
  try (with_reducible refine Run.ret ?_)
  with_reducible repeat first|apply Z0|apply Z1|apply Z2|apply Z3|apply Z4|apply Z5|refine Z6 rfl ?_|apply Z7|apply Z8|apply Z9|apply Z10|apply Z11|apply Z12|apply Z13|apply Z14|apply Z15|apply Z16
  with_reducible repeat first|apply Z0|apply Z1|apply Z2|apply Z3|apply Z4|apply Z5|refine Z6 rfl ?_|apply Z7|apply Z8|apply Z9|apply Z10|apply Z11|apply Z12|apply Z13|apply Z14|apply Z15|apply Z16
  refine Cd.reg (by kernel_rfl) (by conv => lhs; simp only [List.map_cons, List.map_nil]) (by conv => lhs; simp only [List.map_cons, List.map_nil, strip]) ?_
  apply Run.by_eq
  · intro self
    conv => lhs; simp -implicitDefEqProofs (maxSteps := 300000) (disch := omega) [-getElem?_pos, -getElem?_neg, nl]
  try (with_reducible refine Run.ret ?_)
  with_reducible repeat first|apply Z0|apply Z1|apply Z2|apply Z3|apply Z4|apply Z5|refine Z6 rfl ?_|apply Z7|apply Z8|apply Z9|apply Z10|apply Z11|apply Z12|apply Z13|apply Z14|apply Z15|apply Z16
  with_reducible repeat first|apply Z0|apply Z1|apply Z2|apply Z3|apply Z4|apply Z5|refine Z6 rfl ?_|apply Z7|apply Z8|apply Z9|apply Z10|apply Z11|apply Z12|apply Z13|apply Z14|apply Z15|apply Z16
  refine Cd.reg (by kernel_rfl) (by conv => lhs; simp only [List.map_cons, List.map_nil]) (by conv => lhs; simp only [List.map_cons, List.map_nil, strip]) ?_
  apply Run.by_eq
  · intro self
    conv => lhs; simp -implicitDefEqProofs (maxSteps := 300000) (disch := omega) [-getElem?_pos, -getElem?_neg]
  try (with_reducible refine Run.ret ?_)
  with_reducible repeat first|apply Z0|apply Z1|apply Z2|apply Z3|apply Z4|apply Z5|refine Z6 rfl ?_|apply Z7|apply Z8|apply Z9|apply Z10|apply Z11|apply Z12|apply Z13|apply Z14|apply Z15|apply Z16
  refine Cd.inv (fun z f s' => ∃ k : Nat, k ≤ fs.length ∧ z = fs.length - k ∧ f.marks = [] ∧ f.get 17 = .int .i64 k ∧ f.get 16 = .int .i64 fs.length ∧ f.get 15 = .slice a fs.length c ∧ f.get 1 = .pointer (some ⟨s.next, 0, none⟩) ∧ f.get 3 = .pointer (some ⟨s.next + 1 + 1, 0, none⟩) ∧ Keep s s' ∧ s.next + 1 + 1 < s'.next ∧
    s'.heap.get s.next = some (.cells [.int .i64 n, .slice a fs.length c] none) ∧ s'.heap.get (s.next + 1) = some (.cells (balL (bal0 fs k) fs.length) none) ∧ s'.heap.get (s.next + 1 + 1) = some (.cells [.slice (some ⟨s.next + 1, 0, none⟩) fs.length fs.length] none)) fs.length ?_ ?_
  · refine ⟨0, by omega, rfl, by simp, by simp, by simp, by simp, by simp, by simp, ⟨by (try simp only [pushed_next', upded_next']); omega, fun i hi => by simp -implicitDefEqProofs (disch := omega) []⟩, by simp, by simp -implicitDefEqProofs (disch := omega), ?_, by simp -implicitDefEqProofs (disch := omega)⟩
    rw [show bal0 fs 0 = fun _ => Mass.zero from by funext j; unfold bal0; rw [if_neg (by omega)], balL_zero]
    simp -implicitDefEqProofs (disch := omega)
  rintro z f s' ⟨k, hk, rfl, hm, h17, h16, h15, h1, h3, hkp, hnx, hg0, hg1, hg2⟩
  have hkpa := hkp.1
  have hkpb := hkp.2
  by_cases hlt : k < fs.length
  · obtain ⟨g, hg⟩ : ∃ g, fs[k]? = some g := ⟨fs[k], by simp [hlt]⟩
    have hb0 := bal0_succ hg
    obtain ⟨b, off, o, cs, gg, rfl, hb, ho, hc, ht⟩ := FlAt.at (hf.keep hkp) hg
    obtain ⟨g0, g1, gm, m⟩ := g
    rw [FlowD.cs] at ht
    simp only [] at ht hb0
    with_reducible repeat first|apply Z0|apply Z1|apply Z2|apply Z3|apply Z4|apply Z5|refine Z6 rfl ?_|apply Z7|apply Z8|apply Z9|apply Z10|apply Z11|apply Z12|apply Z13|apply Z14|apply Z15|apply Z16
    refine Cd.reg (by kernel_rfl) (by conv => lhs; simp only [List.map_cons, List.map_nil]) (by conv => lhs; simp only [List.map_cons, List.map_nil, strip]) ?_
    apply Run.by_eq
    · intro self
      conv => lhs; simp -implicitDefEqProofs (maxSteps := 300000) (disch := omega) [-getElem?_pos, -getElem?_neg, h17, h16]
    try (with_reducible refine Run.ret ?_)
    with_reducible repeat first|apply Z0|apply Z1|apply Z2|apply Z3|apply Z4|apply Z5|refine Z6 rfl ?_|apply Z7|apply Z8|apply Z9|apply Z10|apply Z11|apply Z12|apply Z13|apply Z14|apply Z15|apply Z16
    with_reducible repeat first|apply Z0|apply Z1|apply Z2|apply Z3|apply Z4|apply Z5|refine Z6 rfl ?_|apply Z7|apply Z8|apply Z9|apply Z10|apply Z11|apply Z12|apply Z13|apply Z14|apply Z15|apply Z16
    apply Cd.ite rfl
    · conv => lhs; simp -implicitDefEqProofs (maxSteps := 300000) (disch := omega) [-getElem?_pos, -getElem?_neg]
    all_goals intro c0
    all_goals try (cases c0; done)
    all_goals try simp only [Bool.not_eq_true', Bool.not_eq_false', decide_eq_true_eq, decide_eq_false_iff_not] at c0
    all_goals with_reducible repeat first|apply Z0|apply Z1|apply Z2|apply Z3|apply Z4|apply Z5|refine Z6 rfl ?_|apply Z7|apply Z8|apply Z9|apply Z10|apply Z11|apply Z12|apply Z13|apply Z14|apply Z15|apply Z16
    · with_reducible repeat first|apply Z0|apply Z1|apply Z2|apply Z3|apply Z4|apply Z5|refine Z6 rfl ?_|apply Z7|apply Z8|apply Z9|apply Z10|apply Z11|apply Z12|apply Z13|apply Z14|apply Z15|apply Z16
      refine Cd.reg (by kernel_rfl) (by conv => lhs; simp only [List.map_cons, List.map_nil]) (by conv => lhs; simp only [List.map_cons, List.map_nil, strip]) ?_
      apply Run.by_eq
      · intro self
        conv => lhs; simp -implicitDefEqProofs (maxSteps := 300000) (disch := omega) [-getElem?_pos, -getElem?_neg, h17, h15, ho, hc, ht, hlt]
      try (with_reducible refine Run.ret ?_)
      with_reducible repeat first|apply Z0|apply Z1|apply Z2|apply Z3|apply Z4|apply Z5|refine Z6 rfl ?_|apply Z7|apply Z8|apply Z9|apply Z10|apply Z11|apply Z12|apply Z13|apply Z14|apply Z15|apply Z16
      with_reducible repeat first|apply Z0|apply Z1|apply Z2|apply Z3|apply Z4|apply Z5|refine Z6 rfl ?_|apply Z7|apply Z8|apply Z9|apply Z10|apply Z11|apply Z12|apply Z13|apply Z14|apply Z15|apply Z16
      refine Cd.reg (by kernel_rfl) (by conv => lhs; simp only [List.map_cons, List.map_nil]) (by conv => lhs; simp only [List.map_cons, List.map_nil, strip]) ?_
      apply Run.by_eq
      · intro self
        conv => lhs; simp -implicitDefEqProofs (maxSteps := 300000) (disch := omega) [-getElem?_pos, -getElem?_neg]
      try (with_reducible refine Run.ret ?_)
      with_reducible repeat first|apply Z0|apply Z1|apply Z2|apply Z3|apply Z4|apply Z5|refine Z6 rfl ?_|apply Z7|apply Z8|apply Z9|apply Z10|apply Z11|apply Z12|apply Z13|apply Z14|apply Z15|apply Z16
      cases gm with
      | true =>
        have hput := balL_put (bal0 fs k) hlt m
        rw [show (fun j => if j = k then m else bal0 fs k j) = bal0 fs (k + 1) from by rw [hb0]; rfl] at hput
        with_reducible repeat first|apply Z0|apply Z1|apply Z2|apply Z3|apply Z4|apply Z5|refine Z6 rfl ?_|apply Z7|apply Z8|apply Z9|apply Z10|apply Z11|apply Z12|apply Z13|apply Z14|apply Z15|apply Z16
        apply Cd.ite rfl
        · conv => lhs; simp -implicitDefEqProofs (maxSteps := 300000) (disch := omega) [-getElem?_pos, -getElem?_neg]
        all_goals intro c1
        all_goals try (cases c1; done)
        all_goals try simp only [Bool.not_eq_true', Bool.not_eq_false', decide_eq_true_eq, decide_eq_false_iff_not] at c1
        all_goals with_reducible repeat first|apply Z0|apply Z1|apply Z2|apply Z3|apply Z4|apply Z5|refine Z6 rfl ?_|apply Z7|apply Z8|apply Z9|apply Z10|apply Z11|apply Z12|apply Z13|apply Z14|apply Z15|apply Z16
        with_reducible repeat first|apply Z0|apply Z1|apply Z2|apply Z3|apply Z4|apply Z5|refine Z6 rfl ?_|apply Z7|apply Z8|apply Z9|apply Z10|apply Z11|apply Z12|apply Z13|apply Z14|apply Z15|apply Z16
        refine Cd.reg (by kernel_rfl) (by conv => lhs; simp only [List.map_cons, List.map_nil]) (by conv => lhs; simp only [List.map_cons, List.map_nil, strip]) ?_
        apply Run.by_eq
        · intro self
          conv => lhs; simp -implicitDefEqProofs (maxSteps := 300000) (disch := omega) [-getElem?_pos, -getElem?_neg, h3, hg1, hg2, hlt, hput]
        try (with_reducible refine Run.ret ?_)
        with_reducible repeat first|apply Z0|apply Z1|apply Z2|apply Z3|apply Z4|apply Z5|refine Z6 rfl ?_|apply Z7|apply Z8|apply Z9|apply Z10|apply Z11|apply Z12|apply Z13|apply Z14|apply Z15|apply Z16
        with_reducible repeat first|apply Z0|apply Z1|apply Z2|apply Z3|apply Z4|apply Z5|refine Z6 rfl ?_|apply Z7|apply Z8|apply Z9|apply Z10|apply Z11|apply Z12|apply Z13|apply Z14|apply Z15|apply Z16
        refine Cd.reg (by kernel_rfl) (by conv => lhs; simp only [List.map_cons, List.map_nil]) (by conv => lhs; simp only [List.map_cons, List.map_nil, strip]) ?_
        apply Run.by_eq
        · intro self
          conv => lhs; simp -implicitDefEqProofs (maxSteps := 300000) (disch := omega) [-getElem?_pos, -getElem?_neg, h17]
        try (with_reducible refine Run.ret ?_)
        with_reducible repeat first|apply Z0|apply Z1|apply Z2|apply Z3|apply Z4|apply Z5|refine Z6 rfl ?_|apply Z7|apply Z8|apply Z9|apply Z10|apply Z11|apply Z12|apply Z13|apply Z14|apply Z15|apply Z16
        refine LoopK.nm (fs.length - (k + 1)) (by omega) ⟨k + 1, by omega, rfl, by simp [hm], by simp, by simp [h16], by simp [h15], by simp [h1], by simp [h3], ⟨by (try simp only [pushed_next', upded_next']); omega, fun i hi => by simp -implicitDefEqProofs (disch := omega) [hkpb]⟩, by (try simp only [pushed_next', upded_next']); omega, ?_, ?_, ?_⟩
        · simp -implicitDefEqProofs (disch := omega) [hg0]
        · simp -implicitDefEqProofs (disch := omega)
        · simp -implicitDefEqProofs (disch := omega) [hg2]
      | false =>
        have hsame : balL (bal0 fs (k + 1)) fs.length = balL (bal0 fs k) fs.length := balL_congr fun j _ => by
          rw [hb0]
          show (if j = k then (if false = true then m else Mass.zero) else bal0 fs k j) = _
          by_cases e : j = k
          · subst e; rw [if_pos rfl, if_neg (by decide)]; unfold bal0; rw [if_neg (by omega)]
          · rw [if_neg e]
        with_reducible repeat first|apply Z0|apply Z1|apply Z2|apply Z3|apply Z4|apply Z5|refine Z6 rfl ?_|apply Z7|apply Z8|apply Z9|apply Z10|apply Z11|apply Z12|apply Z13|apply Z14|apply Z15|apply Z16
        apply Cd.ite rfl
        · conv => lhs; simp -implicitDefEqProofs (maxSteps := 300000) (disch := omega) [-getElem?_pos, -getElem?_neg]
        all_goals intro c1
        all_goals try (cases c1; done)
        all_goals try simp only [Bool.not_eq_true', Bool.not_eq_false', decide_eq_true_eq, decide_eq_false_iff_not] at c1
        all_goals with_reducible repeat first|apply Z0|apply Z1|apply Z2|apply Z3|apply Z4|apply Z5|refine Z6 rfl ?_|apply Z7|apply Z8|apply Z9|apply Z10|apply Z11|apply Z12|apply Z13|apply Z14|apply Z15|apply Z16
        with_reducible repeat first|apply Z0|apply Z1|apply Z2|apply Z3|apply Z4|apply Z5|refine Z6 rfl ?_|apply Z7|apply Z8|apply Z9|apply Z10|apply Z11|apply Z12|apply Z13|apply Z14|apply Z15|apply Z16
        refine Cd.reg (by kernel_rfl) (by conv => lhs; simp only [List.map_cons, List.map_nil]) (by conv => lhs; simp only [List.map_cons, List.map_nil, strip]) ?_
        apply Run.by_eq
        · intro self
          conv => lhs; simp -implicitDefEqProofs (maxSteps := 300000) (disch := omega) [-getElem?_pos, -getElem?_neg, h17]
        try (with_reducible refine Run.ret ?_)
        with_reducible repeat first|apply Z0|apply Z1|apply Z2|apply Z3|apply Z4|apply Z5|refine Z6 rfl ?_|apply Z7|apply Z8|apply Z9|apply Z10|apply Z11|apply Z12|apply Z13|apply Z14|apply Z15|apply Z16
        refine LoopK.nm (fs.length - (k + 1)) (by omega) ⟨k + 1, by omega, rfl, by simp [hm], by simp, by simp [h16], by simp [h15], by simp [h1], by simp [h3], ⟨by (try simp only [pushed_next', upded_next']); omega, fun i hi => by simp -implicitDefEqProofs (disch := omega) [hkpb]⟩, by (try simp only [pushed_next', upded_next']); omega, ?_, ?_, ?_⟩
        · simp -implicitDefEqProofs (disch := omega) [hg0]
        · rw [hsame]; simp -implicitDefEqProofs (disch := omega) [hg1]
        · simp -implicitDefEqProofs (disch := omega) [hg2]
    · simp at c0; omega
  obtain rfl : k = fs.length := by omega
  with_reducible repeat first|apply Z0|apply Z1|apply Z2|apply Z3|apply Z4|apply Z5|refine Z6 rfl ?_|apply Z7|apply Z8|apply Z9|apply Z10|apply Z11|apply Z12|apply Z13|apply Z14|apply Z15|apply Z16
  refine Cd.reg (by kernel_rfl) (by conv => lhs; simp only [List.map_cons, List.map_nil]) (by conv => lhs; simp only [List.map_cons, List.map_nil, strip]) ?_
  apply Run.by_eq
  · intro self
    conv => lhs; simp -implicitDefEqProofs (maxSteps := 300000) (disch := omega) [-getElem?_pos, -getElem?_neg, h17, h16]
  try (with_reducible refine Run.ret ?_)
  with_reducible repeat first|apply Z0|apply Z1|apply Z2|apply Z3|apply Z4|apply Z5|refine Z6 rfl ?_|apply Z7|apply Z8|apply Z9|apply Z10|apply Z11|apply Z12|apply Z13|apply Z14|apply Z15|apply Z16
  with_reducible repeat first|apply Z0|apply Z1|apply Z2|apply Z3|apply Z4|apply Z5|refine Z6 rfl ?_|apply Z7|apply Z8|apply Z9|apply Z10|apply Z11|apply Z12|apply Z13|apply Z14|apply Z15|apply Z16
  apply Cd.ite rfl
  · conv => lhs; simp -implicitDefEqProofs (maxSteps := 300000) (disch := omega) [-getElem?_pos, -getElem?_neg]
  all_goals intro c0
  all_goals try (cases c0; done)
  all_goals try simp only [Bool.not_eq_true', Bool.not_eq_false', decide_eq_true_eq, decide_eq_false_iff_not] at c0
  all_goals with_reducible repeat first|apply Z0|apply Z1|apply Z2|apply Z3|apply Z4|apply Z5|refine Z6 rfl ?_|apply Z7|apply Z8|apply Z9|apply Z10|apply Z11|apply Z12|apply Z13|apply Z14|apply Z15|apply Z16
  with_reducible repeat first|apply Z0|apply Z1|apply Z2|apply Z3|apply Z4|apply Z5|refine Z6 rfl ?_|apply Z7|apply Z8|apply Z9|apply Z10|apply Z11|apply Z12|apply Z13|apply Z14|apply Z15|apply Z16
  refine Cd.reg (by kernel_rfl) (by conv => lhs; simp only [List.map_cons, List.map_nil]) (by conv => lhs; simp only [List.map_cons, List.map_nil, strip]) ?_
  apply Run.by_eq
  · intro self
    conv => lhs; simp -implicitDefEqProofs (maxSteps := 300000) (disch := omega) [-getElem?_pos, -getElem?_neg, h1, hg0]
  try (with_reducible refine Run.ret ?_)
  with_reducible repeat first|apply Z0|apply Z1|apply Z2|apply Z3|apply Z4|apply Z5|refine Z6 rfl ?_|apply Z7|apply Z8|apply Z9|apply Z10|apply Z11|apply Z12|apply Z13|apply Z14|apply Z15|apply Z16
  refine Run.call ((forestOf_ev n _ fs _ (hf.keep hkp) hl).mono fun r w1 hv => ?_)
  obtain ⟨k1, φ, rfl, hφ1, hφ2, hφ3⟩ := hv
  have k1a := k1.1
  have k1b := k1.2
  have hold1 : ∀ i, i < s.next → w1.heap.get i = s.heap.get i := fun i hi => by rw [k1b i (by omega), hkpb i hi]
  have hw0 := (k1b s.next (by omega)).trans hg0
  have hw1 := (k1b (s.next + 1) (by omega)).trans hg1
  have hw2 := (k1b (s.next + 1 + 1) (by omega)).trans hg2
  apply Run.by_eq
  · intro self
    conv => lhs; simp -implicitDefEqProofs (maxSteps := 300000) (disch := omega) [-getElem?_pos, -getElem?_neg]
  try (with_reducible refine Run.ret ?_)
  with_reducible repeat first|apply Z0|apply Z1|apply Z2|apply Z3|apply Z4|apply Z5|refine Z6 rfl ?_|apply Z7|apply Z8|apply Z9|apply Z10|apply Z11|apply Z12|apply Z13|apply Z14|apply Z15|apply Z16
  with_reducible repeat first|apply Z0|apply Z1|apply Z2|apply Z3|apply Z4|apply Z5|refine Z6 rfl ?_|apply Z7|apply Z8|apply Z9|apply Z10|apply Z11|apply Z12|apply Z13|apply Z14|apply Z15|apply Z16
  refine Cd.reg (by kernel_rfl) (by conv => lhs; simp only [List.map_cons, List.map_nil]) (by conv => lhs; simp only [List.map_cons, List.map_nil, strip]) ?_
  apply Run.by_eq
  · intro self
    conv => lhs; simp -implicitDefEqProofs (maxSteps := 300000) (disch := omega) [-getElem?_pos, -getElem?_neg]
  try (with_reducible refine Run.ret ?_)
  with_reducible repeat first|apply Z0|apply Z1|apply Z2|apply Z3|apply Z4|apply Z5|refine Z6 rfl ?_|apply Z7|apply Z8|apply Z9|apply Z10|apply Z11|apply Z12|apply Z13|apply Z14|apply Z15|apply Z16
  with_reducible repeat first|apply Z0|apply Z1|apply Z2|apply Z3|apply Z4|apply Z5|refine Z6 rfl ?_|apply Z7|apply Z8|apply Z9|apply Z10|apply Z11|apply Z12|apply Z13|apply Z14|apply Z15|apply Z16
  refine Cd.reg (by kernel_rfl) (by conv => lhs; simp only [List.map_cons, List.map_nil]) (by conv => lhs; simp only [List.map_cons, List.map_nil, strip]) ?_
  apply Run.by_eq
  · intro self
    conv => lhs; simp -implicitDefEqProofs (maxSteps := 300000) (disch := omega) [-getElem?_pos, -getElem?_neg]
  try (with_reducible refine Run.ret ?_)
  with_reducible repeat first|apply Z0|apply Z1|apply Z2|apply Z3|apply Z4|apply Z5|refine Z6 rfl ?_|apply Z7|apply Z8|apply Z9|apply Z10|apply Z11|apply Z12|apply Z13|apply Z14|apply Z15|apply Z16
  with_reducible repeat first|apply Z0|apply Z1|apply Z2|apply Z3|apply Z4|apply Z5|refine Z6 rfl ?_|apply Z7|apply Z8|apply Z9|apply Z10|apply Z11|apply Z12|apply Z13|apply Z14|apply Z15|apply Z16
  refine Cd.reg (by kernel_rfl) (by conv => lhs; simp only [List.map_cons, List.map_nil]) (by conv => lhs; simp only [List.map_cons, List.map_nil, strip]) ?_
  apply Run.by_eq
  · intro self
    conv => lhs; simp -implicitDefEqProofs (maxSteps := 300000) (disch := omega) [-getElem?_pos, -getElem?_neg, h1, h3]
  try (with_reducible refine Run.ret ?_)
  with_reducible repeat first|apply Z0|apply Z1|apply Z2|apply Z3|apply Z4|apply Z5|refine Z6 rfl ?_|apply Z7|apply Z8|apply Z9|apply Z10|apply Z11|apply Z12|apply Z13|apply Z14|apply Z15|apply Z16
  with_reducible repeat first|apply Z0|apply Z1|apply Z2|apply Z3|apply Z4|apply Z5|refine Z6 rfl ?_|apply Z7|apply Z8|apply Z9|apply Z10|apply Z11|apply Z12|apply Z13|apply Z14|apply Z15|apply Z16
  refine Cd.reg (by kernel_rfl) (by conv => lhs; simp only [List.map_cons, List.map_nil]) (by conv => lhs; simp only [List.map_cons, List.map_nil, strip]) ?_
  apply Run.by_eq
  · intro self
    conv => lhs; simp -implicitDefEqProofs (maxSteps := 300000) (disch := omega) [-getElem?_pos, -getElem?_neg]
  try (with_reducible refine Run.ret ?_)
  with_reducible repeat first|apply Z0|apply Z1|apply Z2|apply Z3|apply Z4|apply Z5|refine Z6 rfl ?_|apply Z7|apply Z8|apply Z9|apply Z10|apply Z11|apply Z12|apply Z13|apply Z14|apply Z15|apply Z16
  have hR0 : reachL (fun _ => false) = [.bool false, .bool false, .bool false, .bool false, .bool false, .bool false, .bool false, .bool false, .bool false] := rfl
  refine Cd.inv (fun z f s' => ∃ (k : Nat) (R : Int → Bool) (B : Nat → Mass), k ≤ n + 1 ∧ z = n + 1 - k ∧ f.marks = [] ∧ f.get 9 = .int .i64 ((k : Int) - 1) ∧ f.get 1 = .pointer (some ⟨s.next, 0, none⟩) ∧ f.get 3 = .pointer (some ⟨s.next + 1 + 1, 0, none⟩) ∧ f.get 7 = .pointer (some ⟨w1.next + 1, 0, none⟩) ∧ f.get 8 = .pointer (some ⟨w1.next + 1 + 1, 0, none⟩) ∧
    GC s s' n (.slice a fs.length c) fs (w1.next + 1) s.next w1.next φ (w1.next + 1 + 1) (s.next + 1 + 1) (s.next + 1) ∧ s'.heap.get (w1.next + 1) = some (.cells (reachL R) none) ∧ s'.heap.get (s.next + 1) = some (.cells (balL B fs.length) none) ∧ SInv fs n W k R B) (n + 1) ?_ ?_
  · refine ⟨0, fun _ => false, bal0 fs fs.length, by omega, rfl, by simp [hm], by simp, by simp [h1], by simp [h3], by simp, by simp, ?_, ?_, ?_, SInv.start hW0 hBW⟩
    · refine ⟨by (try simp only [pushed_next', upded_next']); omega, fun i hi => ?_, ⟨by omega, by (try simp only [pushed_next', upded_next']); omega⟩, ⟨by omega, by (try simp only [pushed_next', upded_next']); omega⟩, by omega, ⟨by (try simp only [pushed_next', upded_next']); omega, by omega, by omega, ?_⟩, ⟨by (try simp only [pushed_next', upded_next']); omega, by omega, by omega, ?_⟩, ⟨by (try simp only [pushed_next', upded_next']); omega, by omega, by omega, ?_⟩, ⟨by (try simp only [pushed_next', upded_next']); omega, by omega, by omega, ?_⟩, ⟨by (try simp only [pushed_next', upded_next']); omega, by omega, by omega, ?_⟩⟩
      · simp -implicitDefEqProofs (disch := omega) [hold1]
      · simp -implicitDefEqProofs (disch := omega) [hw0]
      · simp -implicitDefEqProofs (disch := omega)
      · simp -implicitDefEqProofs (disch := omega) [hφ3]
      · simp -implicitDefEqProofs (disch := omega)
      · simp -implicitDefEqProofs (disch := omega) [hw2]
    · rw [hR0]; simp -implicitDefEqProofs (disch := omega)
    · simp -implicitDefEqProofs (disch := omega) [hw1]
  rintro z f2 s2 ⟨k, R, B, hk, rfl, gm, g9, g1, g3, g7, g8, hC, hρ, hβ, hS⟩
  obtain ⟨hb1, hb2, ⟨hρ1, hρ2⟩, ⟨hβ1, hβ2⟩, hρβ, ⟨hπ1, hπ2, hπ3, hπ4⟩, ⟨hv1, hv2, hv3, hv4⟩, ⟨hx1, hx2, hx3, hx4⟩, ⟨hγ1, hγ2, hγ3, hγ4⟩, ⟨hy1, hy2, hy3, hy4⟩⟩ := id hC
  by_cases hkn : k < n + 1
  · have hkd : ((k : Int) - 1 < n) := by omega
    have hge := reachL_get R (e := (k : Int) - 1) (by omega)
    have nk := natOf_cast .i64 k
    have hkk : (k : Int) - 1 - -1 = k := by omega
    rw [show ((k : Int) - 1 + 1).toNat = k by omega] at hge
    have hk9 : k < 9 := by omega
    with_reducible repeat first|apply Z0|apply Z1|apply Z2|apply Z3|apply Z4|apply Z5|refine Z6 rfl ?_|apply Z7|apply Z8|apply Z9|apply Z10|apply Z11|apply Z12|apply Z13|apply Z14|apply Z15|apply Z16
    refine Cd.reg (by kernel_rfl) (by conv => lhs; simp only [List.map_cons, List.map_nil]) (by conv => lhs; simp only [List.map_cons, List.map_nil, strip]) ?_
    apply Run.by_eq
    · intro self
      conv => lhs; simp -implicitDefEqProofs (maxSteps := 300000) (disch := omega) [-getElem?_pos, -getElem?_neg, g9, g1, hπ4, hkd]
    try (with_reducible refine Run.ret ?_)
    with_reducible repeat first|apply Z0|apply Z1|apply Z2|apply Z3|apply Z4|apply Z5|refine Z6 rfl ?_|apply Z7|apply Z8|apply Z9|apply Z10|apply Z11|apply Z12|apply Z13|apply Z14|apply Z15|apply Z16
    with_reducible repeat first|apply Z0|apply Z1|apply Z2|apply Z3|apply Z4|apply Z5|refine Z6 rfl ?_|apply Z7|apply Z8|apply Z9|apply Z10|apply Z11|apply Z12|apply Z13|apply Z14|apply Z15|apply Z16
    apply Cd.ite rfl
    · conv => lhs; simp -implicitDefEqProofs (maxSteps := 300000) (disch := omega) [-getElem?_pos, -getElem?_neg]
    all_goals intro d0
    all_goals try (cases d0; done)
    all_goals try simp only [Bool.not_eq_true', Bool.not_eq_false', decide_eq_true_eq, decide_eq_false_iff_not] at d0
    all_goals with_reducible repeat first|apply Z0|apply Z1|apply Z2|apply Z3|apply Z4|apply Z5|refine Z6 rfl ?_|apply Z7|apply Z8|apply Z9|apply Z10|apply Z11|apply Z12|apply Z13|apply Z14|apply Z15|apply Z16
    cases hR : R ((k : Int) - 1) with
    | true =>
      rw [hR] at hge
      with_reducible repeat first|apply Z0|apply Z1|apply Z2|apply Z3|apply Z4|apply Z5|refine Z6 rfl ?_|apply Z7|apply Z8|apply Z9|apply Z10|apply Z11|apply Z12|apply Z13|apply Z14|apply Z15|apply Z16
      refine Cd.reg (by kernel_rfl) (by conv => lhs; simp only [List.map_cons, List.map_nil]) (by conv => lhs; simp only [List.map_cons, List.map_nil, strip]) ?_
      apply Run.by_eq
      · intro self
        conv => lhs; simp -implicitDefEqProofs (maxSteps := 300000) (disch := omega) [-getElem?_pos, -getElem?_neg, g9, g7, hkk, nk, hk9, hρ, hge]
      try (with_reducible refine Run.ret ?_)
      with_reducible repeat first|apply Z0|apply Z1|apply Z2|apply Z3|apply Z4|apply Z5|refine Z6 rfl ?_|apply Z7|apply Z8|apply Z9|apply Z10|apply Z11|apply Z12|apply Z13|apply Z14|apply Z15|apply Z16
      with_reducible repeat first|apply Z0|apply Z1|apply Z2|apply Z3|apply Z4|apply Z5|refine Z6 rfl ?_|apply Z7|apply Z8|apply Z9|apply Z10|apply Z11|apply Z12|apply Z13|apply Z14|apply Z15|apply Z16
      apply Cd.ite rfl
      · conv => lhs; simp -implicitDefEqProofs (maxSteps := 300000) (disch := omega) [-getElem?_pos, -getElem?_neg]
      all_goals intro d1
      all_goals try (cases d1; done)
      all_goals try simp only [Bool.not_eq_true', Bool.not_eq_false', decide_eq_true_eq, decide_eq_false_iff_not] at d1
      all_goals with_reducible repeat first|apply Z0|apply Z1|apply Z2|apply Z3|apply Z4|apply Z5|refine Z6 rfl ?_|apply Z7|apply Z8|apply Z9|apply Z10|apply Z11|apply Z12|apply Z13|apply Z14|apply Z15|apply Z16
      with_reducible repeat first|apply Z0|apply Z1|apply Z2|apply Z3|apply Z4|apply Z5|refine Z6 rfl ?_|apply Z7|apply Z8|apply Z9|apply Z10|apply Z11|apply Z12|apply Z13|apply Z14|apply Z15|apply Z16
      refine Cd.reg (by kernel_rfl) (by conv => lhs; simp only [List.map_cons, List.map_nil]) (by conv => lhs; simp only [List.map_cons, List.map_nil, strip]) ?_
      apply Run.by_eq
      · intro self
        conv => lhs; simp -implicitDefEqProofs (maxSteps := 300000) (disch := omega) [-getElem?_pos, -getElem?_neg, g9]
      try (with_reducible refine Run.ret ?_)
      with_reducible repeat first|apply Z0|apply Z1|apply Z2|apply Z3|apply Z4|apply Z5|refine Z6 rfl ?_|apply Z7|apply Z8|apply Z9|apply Z10|apply Z11|apply Z12|apply Z13|apply Z14|apply Z15|apply Z16
      refine LoopK.nm (n + 1 - (k + 1)) (by omega) ⟨k + 1, R, B, by omega, rfl, by simp [gm], ?_, by simp [g1], by simp [g3], by simp [g7], by simp [g8], hC, hρ, hβ, hS.skip hkn hR⟩
      simp
    | false =>
      rw [hR] at hge
      with_reducible repeat first|apply Z0|apply Z1|apply Z2|apply Z3|apply Z4|apply Z5|refine Z6 rfl ?_|apply Z7|apply Z8|apply Z9|apply Z10|apply Z11|apply Z12|apply Z13|apply Z14|apply Z15|apply Z16
      refine Cd.reg (by kernel_rfl) (by conv => lhs; simp only [List.map_cons, List.map_nil]) (by conv => lhs; simp only [List.map_cons, List.map_nil, strip]) ?_
      apply Run.by_eq
      · intro self
        conv => lhs; simp -implicitDefEqProofs (maxSteps := 300000) (disch := omega) [-getElem?_pos, -getElem?_neg, g9, g7, hkk, nk, hk9, hρ, hge]
      try (with_reducible refine Run.ret ?_)
      with_reducible repeat first|apply Z0|apply Z1|apply Z2|apply Z3|apply Z4|apply Z5|refine Z6 rfl ?_|apply Z7|apply Z8|apply Z9|apply Z10|apply Z11|apply Z12|apply Z13|apply Z14|apply Z15|apply Z16
      with_reducible repeat first|apply Z0|apply Z1|apply Z2|apply Z3|apply Z4|apply Z5|refine Z6 rfl ?_|apply Z7|apply Z8|apply Z9|apply Z10|apply Z11|apply Z12|apply Z13|apply Z14|apply Z15|apply Z16
      apply Cd.ite rfl
      · conv => lhs; simp -implicitDefEqProofs (maxSteps := 300000) (disch := omega) [-getElem?_pos, -getElem?_neg]
      all_goals intro d1
      all_goals try (cases d1; done)
      all_goals try simp only [Bool.not_eq_true', Bool.not_eq_false', decide_eq_true_eq, decide_eq_false_iff_not] at d1
      all_goals with_reducible repeat first|apply Z0|apply Z1|apply Z2|apply Z3|apply Z4|apply Z5|refine Z6 rfl ?_|apply Z7|apply Z8|apply Z9|apply Z10|apply Z11|apply Z12|apply Z13|apply Z14|apply Z15|apply Z16
      with_reducible repeat first|apply Z0|apply Z1|apply Z2|apply Z3|apply Z4|apply Z5|refine Z6 rfl ?_|apply Z7|apply Z8|apply Z9|apply Z10|apply Z11|apply Z12|apply Z13|apply Z14|apply Z15|apply Z16
      refine Cd.reg (by kernel_rfl) (by conv => lhs; simp only [List.map_cons, List.map_nil]) (by conv => lhs; simp only [List.map_cons, List.map_nil, strip]) ?_
      apply Run.by_eq
      · intro self
        conv => lhs; simp -implicitDefEqProofs (maxSteps := 300000) (disch := omega) [-getElem?_pos, -getElem?_neg, g8, g9, hγ4]
      try (with_reducible refine Run.ret ?_)
      with_reducible repeat first|apply Z0|apply Z1|apply Z2|apply Z3|apply Z4|apply Z5|refine Z6 rfl ?_|apply Z7|apply Z8|apply Z9|apply Z10|apply Z11|apply Z12|apply Z13|apply Z14|apply Z15|apply Z16
      refine Run.call ((gather_ev n _ fs s (w1.next + 1) s.next w1.next φ (w1.next + 1 + 1) (s.next + 1 + 1) (s.next + 1) K W hn hf hl hends hne hB12 hK hexc hW hW62 _ ((k : Int) - 1) (-1) R B s2 (Nat.le_refl _) (by omega) (by omega) (fun j g hj _ => absurd hj (by omega)) hC hρ hβ hS.bound).mono fun r s3 hv => ?_)
      obtain ⟨R', B', rest, rfl, hD, d1', d2, d3, d4⟩ := hv
      apply Run.by_eq
      · intro self
        conv => lhs; simp -implicitDefEqProofs (maxSteps := 300000) (disch := omega) [-getElem?_pos, -getElem?_neg]
      try (with_reducible refine Run.ret ?_)
      with_reducible repeat first|apply Z0|apply Z1|apply Z2|apply Z3|apply Z4|apply Z5|refine Z6 rfl ?_|apply Z7|apply Z8|apply Z9|apply Z10|apply Z11|apply Z12|apply Z13|apply Z14|apply Z15|apply Z16
      with_reducible repeat first|apply Z0|apply Z1|apply Z2|apply Z3|apply Z4|apply Z5|refine Z6 rfl ?_|apply Z7|apply Z8|apply Z9|apply Z10|apply Z11|apply Z12|apply Z13|apply Z14|apply Z15|apply Z16
      refine Cd.reg (by kernel_rfl) (by conv => lhs; simp only [List.map_cons, List.map_nil]) (by conv => lhs; simp only [List.map_cons, List.map_nil, strip]) ?_
      apply Run.by_eq
      · intro self
        conv => lhs; simp -implicitDefEqProofs (maxSteps := 300000) (disch := omega) [-getElem?_pos, -getElem?_neg, g9]
      try (with_reducible refine Run.ret ?_)
      with_reducible repeat first|apply Z0|apply Z1|apply Z2|apply Z3|apply Z4|apply Z5|refine Z6 rfl ?_|apply Z7|apply Z8|apply Z9|apply Z10|apply Z11|apply Z12|apply Z13|apply Z14|apply Z15|apply Z16
      refine LoopK.nm (n + 1 - (k + 1)) (by omega) ⟨k + 1, R', B', by omega, rfl, by simp [gm], ?_, by simp [g1], by simp [g3], by simp [g7], by simp [g8], hC.keep d1' d2, d3, d4, hS.step hkn hR hD⟩
      simp
  · obtain rfl : k = n + 1 := by omega
    have hkd : ¬ (((n + 1 : Nat) : Int) - 1 < n) := by omega
    with_reducible repeat first|apply Z0|apply Z1|apply Z2|apply Z3|apply Z4|apply Z5|refine Z6 rfl ?_|apply Z7|apply Z8|apply Z9|apply Z10|apply Z11|apply Z12|apply Z13|apply Z14|apply Z15|apply Z16
    refine Cd.reg (by kernel_rfl) (by conv => lhs; simp only [List.map_cons, List.map_nil]) (by conv => lhs; simp only [List.map_cons, List.map_nil, strip]) ?_
    apply Run.by_eq
    · intro self
      conv => lhs; simp -implicitDefEqProofs (maxSteps := 300000) (disch := omega) [-getElem?_pos, -getElem?_neg, g9, g1, hπ4, hkd]
    try (with_reducible refine Run.ret ?_)
    with_reducible repeat first|apply Z0|apply Z1|apply Z2|apply Z3|apply Z4|apply Z5|refine Z6 rfl ?_|apply Z7|apply Z8|apply Z9|apply Z10|apply Z11|apply Z12|apply Z13|apply Z14|apply Z15|apply Z16
    with_reducible repeat first|apply Z0|apply Z1|apply Z2|apply Z3|apply Z4|apply Z5|refine Z6 rfl ?_|apply Z7|apply Z8|apply Z9|apply Z10|apply Z11|apply Z12|apply Z13|apply Z14|apply Z15|apply Z16
    apply Cd.ite rfl
    · conv => lhs; simp -implicitDefEqProofs (maxSteps := 300000) (disch := omega) [-getElem?_pos, -getElem?_neg]
    all_goals intro d0
    all_goals try (cases d0; done)
    all_goals try simp only [Bool.not_eq_true', Bool.not_eq_false', decide_eq_true_eq, decide_eq_false_iff_not] at d0
    all_goals with_reducible repeat first|apply Z0|apply Z1|apply Z2|apply Z3|apply Z4|apply Z5|refine Z6 rfl ?_|apply Z7|apply Z8|apply Z9|apply Z10|apply Z11|apply Z12|apply Z13|apply Z14|apply Z15|apply Z16
    with_reducible repeat first|apply Z0|apply Z1|apply Z2|apply Z3|apply Z4|apply Z5|refine Z6 rfl ?_|apply Z7|apply Z8|apply Z9|apply Z10|apply Z11|apply Z12|apply Z13|apply Z14|apply Z15|apply Z16
    refine Cd.reg (by kernel_rfl) (by conv => lhs; simp only [List.map_cons, List.map_nil]) (by conv => lhs; simp only [List.map_cons, List.map_nil, strip]) ?_
    apply Run.by_eq
    · intro self
      conv => lhs; simp -implicitDefEqProofs (maxSteps := 300000) (disch := omega) [-getElem?_pos, -getElem?_neg, g3, hy4]
    try (with_reducible refine Run.ret ?_)
    with_reducible repeat first|apply Z0|apply Z1|apply Z2|apply Z3|apply Z4|apply Z5|refine Z6 rfl ?_|apply Z7|apply Z8|apply Z9|apply Z10|apply Z11|apply Z12|apply Z13|apply Z14|apply Z15|apply Z16
    apply Leave.mk (by first | exact .inl rfl | exact .inr rfl) (by simp only [Fr.marks_put, fr0_marks, gm])
    · conv => lhs; simp -implicitDefEqProofs (disch := omega) [Try.results48, gm]
    exact ⟨⟨hC.base, hC.old⟩, s.next + 1, B, rfl, by omega, by omega, hβ, hS.done⟩
end Go.Proofs.Ytifkpaomhnlahaa
namespace Go.Proofs.Ytifkpaomhnlahaa
open Go Kern
/-! Sums over ends -/
def sumL (g : Int → Mass) : List Int → Mass
  | [] => Mass.zero
  | x :: r => (g x).add (sumL g r)
theorem sumL_zero {g : Int → Mass} : ∀ {xs : List Int}, (∀ x ∈ xs, g x = Mass.zero) → sumL g xs = Mass.zero
  | [], _ => rfl
  | x :: r, h => by unfold sumL; rw [h x (.head _), sumL_zero fun y hy => h y (.tail _ hy), Mass.add_zero]
theorem sumL_congr {g h : Int → Mass} : ∀ {xs : List Int}, (∀ x ∈ xs, g x = h x) → sumL g xs = sumL h xs
  | [], _ => rfl
  | x :: r, hc => by unfold sumL; rw [hc x (.head _), sumL_congr fun y hy => hc y (.tail _ hy)]
theorem sumL_one {g : Int → Mass} {u : Int} : ∀ {xs : List Int}, xs.Nodup → u ∈ xs → (∀ x ∈ xs, x ≠ u → g x = Mass.zero) → sumL g xs = g u
  | [], _, h, _ => by cases h
  | x :: r, hn, h, hz => by
    unfold sumL
    obtain ⟨h1, h2⟩ := List.nodup_cons.1 hn
    by_cases e : x = u
    · subst e
      rw [sumL_zero fun y hy => hz y (.tail _ hy) fun q => h1 (q ▸ hy), Mass.add_zero]
    · rw [hz x (.head _) e, Mass.zero_add]
      refine sumL_one h2 ?_ fun y hy => hz y (.tail _ hy)
      cases h with
      | head => exact absurd rfl e
      | tail _ h => exact h
theorem sumL_add (g h : Int → Mass) : ∀ xs, sumL (fun x => (g x).add (h x)) xs = (sumL g xs).add (sumL h xs)
  | [] => (Mass.add_zero _).symm
  | x :: r => by unfold sumL; rw [sumL_add g h r, Mass.add_swap]
theorem sumL_sumN (g : Int → Nat → Mass) (xs : List Int) : ∀ k, sumL (fun x => sumN (g x) k) xs = sumN (fun j => sumL (fun x => g x j) xs) k
  | 0 => sumL_zero fun _ _ => rfl
  | k + 1 => by
    unfold sumN
    rw [sumL_add, sumL_sumN g xs k]
theorem sumL_brings {f : FlowD} (hne : f.fr ≠ f.to) (m : Mass) : ∀ {xs : List Int}, xs.Nodup → sumL (fun v => brings f v m) xs = bringsL f xs m
  | [], _ => by simp [sumL, bringsL]
  | x :: r, hn => by
    obtain ⟨h1, h2⟩ := List.nodup_cons.1 hn
    unfold sumL
    rw [sumL_brings hne m h2]
    unfold brings bringsL
    by_cases e1 : f.to = x
    · have e2 : ¬ f.fr = x := fun q => hne (q.trans e1.symm)
      have e3 : ¬ f.to ∈ r := fun q => h1 (e1 ▸ q)
      by_cases e4 : f.fr ∈ r
      · simp [e1, e2, e4, e1 ▸ e3, Mass.add_neg]
      · simp [e1, e2, e4, e1 ▸ e3, Mass.add_zero]
    · by_cases e2 : f.fr = x
      · have e4 : ¬ f.fr ∈ r := fun q => h1 (e2 ▸ q)
        by_cases e3 : f.to ∈ r
        · have e5 : ¬ x ∈ r := h1
          simp [e1, e2, e3, e5, Mass.add_comm, Mass.add_neg]
        · have e5 : ¬ x ∈ r := h1
          simp [e1, e2, e3, e5, Mass.add_zero]
      · simp [e1, e2, Mass.zero_add]
/-- What comes to a set of ends, by measured flows and by those of the forest. -/
theorem sum_net {fs : List FlowD} (B : Nat → Mass) (hne : ∀ f ∈ fs, f.fr ≠ f.to) {xs : List Int} (hn : xs.Nodup) :
    sumL (netB fs B) xs = (excM xs fs).add (sumN (fun j => match fs[j]? with | some f => (if chB fs j = true then bringsL f xs (B j) else Mass.zero) | none => Mass.zero) fs.length) := by
  have h1 : ∀ v, netB fs B v = (sumN (fun j => match fs[j]? with | some f => (if f.me = true then brings f v f.m else Mass.zero) | none => Mass.zero) fs.length).add (sumN (fun j => contr fs B v j) fs.length) := fun v => by
    unfold netB netx
    have e1 : excM [v] fs = sumN (fun j => match fs[j]? with | some f => (if f.me = true then brings f v f.m else Mass.zero) | none => Mass.zero) fs.length := by
      rw [excM_sum]
      refine sumN_congr fun j hj => ?_
      have hg : fs[j]? = some fs[j] := List.getElem?_eq_getElem hj
      rw [hg]
      simp only []
      rw [bringsL_one (hne _ (List.getElem_mem hj))]
    rw [e1]
    congr 1
  rw [sumL_congr fun v _ => h1 v, sumL_add, sumL_sumN, sumL_sumN, excM_sum]
  congr 1
  · refine sumN_congr fun j hj => ?_
    have hg : fs[j]? = some fs[j] := List.getElem?_eq_getElem hj
    rw [hg]
    simp only []
    by_cases hm : fs[j].me = true
    · simp only [hm, if_true]
      exact sumL_brings (hne _ (List.getElem_mem hj)) _ hn
    · rw [if_neg hm]
      exact sumL_zero fun _ _ => if_neg hm
  · refine sumN_congr fun j hj => ?_
    have hg : fs[j]? = some fs[j] := List.getElem?_eq_getElem hj
    unfold contr
    rw [hg]
    simp only []
    by_cases hc : chB fs j = true
    · simp only [hc, if_true]
      exact sumL_brings (hne _ (List.getElem_mem hj)) _ hn
    · rw [if_neg hc]
      exact sumL_zero fun _ _ => if_neg hc
theorem bringsL_in {f : FlowD} {xs : List Int} (h : f.fr ∈ xs ↔ f.to ∈ xs) (m : Mass) : bringsL f xs m = Mass.zero := by
  unfold bringsL
  by_cases h1 : f.to ∈ xs
  · rw [if_pos h1, if_pos (h.2 h1)]
  · rw [if_neg h1, if_neg (fun q => h1 (h.1 q))]
theorem clsN_nodup (rt : Int → Int) (k n : Nat) : (clsN rt k n).Nodup := (clsN_sorted rt k n).imp fun h => by omega
theorem mem_cls' {rt : Int → Int} {n k : Nat} (ho : rt k ≠ rt (-1)) {x : Int} (h1 : -1 ≤ x) (h2 : x < n) : x ∈ clsN rt k n ↔ rt x = rt k := by
  by_cases h0 : x = -1
  · subst h0
    constructor
    · intro h
      unfold clsN at h
      obtain ⟨y, _, e⟩ := List.mem_map.1 h
      omega
    · intro h; exact absurd h.symm ho
  · obtain ⟨y, rfl⟩ : ∃ y : Nat, x = y := ⟨x.toNat, by omega⟩
    exact mem_cls (by omega)
theorem rt_FE (fs : List FlowD) (x y : Int) : rtF (-1) fs 0 id x = rtF (-1) fs 0 id y ↔ Path fs (FE fs (-1)) x y := by
  rw [forest_all]
  constructor <;> refine fun h => h.mono fun j f _ he => ?_
  · exact ⟨he, by omega⟩
  · exact he.1
/-- If no part has an excess, as much comes to each unit as goes from it. -/
theorem settled_zero {fs : List FlowD} {n : Nat} {W : Int} {B : Nat → Mass} (h : Settled fs n W B) (hends : ∀ f ∈ fs, (-1 ≤ f.fr ∧ f.fr < n) ∧ (-1 ≤ f.to ∧ f.to < n)) (hne : ∀ f ∈ fs, f.fr ≠ f.to)
    (hz : ∀ k : Nat, k < n → isLead (rtF (-1) fs 0 id) n k = true → excM (clsN (rtF (-1) fs 0 id) k n) fs = Mass.zero) {u : Nat} (hu : u < n) : netB fs B u = Mass.zero := by
  rcases h.nets u (by omega) (by omega) with hl | hl
  · have hL : isLead (rtF (-1) fs 0 id) n u = true := isLead_of hu (fun l hlu e => by
      have := hl l (by omega) ((rt_FE fs _ _).1 e)
      omega) (fun e => by
      have := hl (-1) (by omega) ((rt_FE fs _ _).1 e.symm)
      omega)
    have hex := hz u hu hL
    have ho : rtF (-1) fs 0 id u ≠ rtF (-1) fs 0 id (-1) := by
      simp only [isLead, Bool.and_eq_true, Bool.not_eq_true', decide_eq_false_iff_not] at hL
      exact hL.2
    have hsum := sum_net B hne (clsN_nodup (rtF (-1) fs 0 id) u n)
    rw [hex, Mass.zero_add] at hsum
    have hin : sumN (fun j => match fs[j]? with | some f => (if chB fs j = true then bringsL f (clsN (rtF (-1) fs 0 id) u n) (B j) else Mass.zero) | none => Mass.zero) fs.length = Mass.zero := by
      rw [sumN_congr (h := fun _ => Mass.zero) fun j hj => ?_, sumN_zero]
      have hg : fs[j]? = some fs[j] := List.getElem?_eq_getElem hj
      rw [hg]
      simp only []
      split
      · rename_i hc
        obtain ⟨⟨a, b⟩, c, d⟩ := hends _ (List.getElem_mem hj)
        refine bringsL_in ?_ _
        rw [mem_cls' ho a b, mem_cls' ho c d, (rt_FE fs fs[j].fr fs[j].to).2 (Path.one hg ⟨hc, by omega⟩)]
      · rfl
    rw [hin] at hsum
    have hmem : (u : Int) ∈ clsN (rtF (-1) fs 0 id) u n := (mem_cls hu).2 rfl
    rw [sumL_one (clsN_nodup _ _ _) hmem fun x hx hxu => ?_] at hsum
    · exact hsum
    · unfold clsN at hx
      obtain ⟨y, hy, rfl⟩ := List.mem_map.1 hx
      obtain ⟨hy1, hy2⟩ := List.mem_filter.1 hy
      have hyn : y < n := by simpa using hy1
      have hyu : rtF (-1) fs 0 id y = rtF (-1) fs 0 id u := by simpa using hy2
      rcases h.nets y (by omega) (by omega) with h' | h'
      · have h1 := h' u (by omega) ((rt_FE fs _ _).1 hyu.symm)
        have h2 := hl y (by omega) ((rt_FE fs _ _).1 hyu)
        exact absurd (by omega) hxu
      · exact h'
  · exact hl
/-- What a flow carries that is the only one, of those that are not measured, between a set of units and the rest. -/
theorem cut_value {fs : List FlowD} {n : Nat} {B : Nat → Mass} (hne : ∀ f ∈ fs, f.fr ≠ f.to) (hnet : ∀ u : Nat, u < n → netB fs B u = Mass.zero) {xs : List Int} (hn : xs.Nodup) (hxs : ∀ x ∈ xs, 0 ≤ x ∧ x < n)
    {i : Nat} {f : FlowD} (hf : fs[i]? = some f) (hc : chB fs i = true) (hin : ∀ (j : Nat) (g : FlowD), fs[j]? = some g → g.me = false → j ≠ i → (g.fr ∈ xs ↔ g.to ∈ xs)) : (excM xs fs).add (bringsL f xs (B i)) = Mass.zero := by
  have h1 := sum_net B hne hn
  rw [sumL_zero fun x hx => ?_] at h1
  · rw [sumN_one (i := i) (List.getElem?_eq_some_iff.1 hf).1 fun j hj hji => ?_] at h1
    · rw [hf] at h1
      simp only [hc, if_true] at h1
      exact h1.symm
    · have hg : fs[j]? = some fs[j] := List.getElem?_eq_getElem hj
      rw [hg]
      simp only []
      split
      · rename_i hcj
        obtain ⟨⟨g, hg', hm⟩, _⟩ := chB_unm hcj
        rw [hg] at hg'; cases hg'
        exact bringsL_in (hin j _ hg hm hji) _
      · rfl
  · obtain ⟨a, b⟩ := hxs x hx
    obtain ⟨y, rfl⟩ : ∃ y : Nat, x = y := ⟨x.toNat, by omega⟩
    exact hnet y (by omega)
end Go.Proofs.Ytifkpaomhnlahaa
namespace Go.Proofs.Ytifkpaomhnlahaa
open Go Kern
/-! Lists of cells of one length in memory -/
def flatG (g : Nat → List Value) (len : Nat) : List Value := ((List.range len).map g).flatten
theorem flatG_succ (g : Nat → List Value) (k : Nat) : flatG g (k + 1) = flatG g k ++ g k := by
  unfold flatG
  rw [List.range_succ, List.map_append, List.flatten_append]; simp
theorem flatG_length {g : Nat → List Value} {N : Nat} (h : ∀ j, (g j).length = N) : ∀ len, (flatG g len).length = len * N
  | 0 => by simp [flatG]
  | k + 1 => by rw [flatG_succ, List.length_append, flatG_length h k, h k, Nat.add_mul]; omega
theorem flatG_congr {g h : Nat → List Value} {len : Nat} (hc : ∀ j, j < len → g j = h j) : flatG g len = flatG h len := by
  unfold flatG
  congr 1
  apply List.map_congr_left
  intro j hj
  exact hc j (by simpa using hj)
theorem flatG_cut (g : Nat → List Value) {i : Nat} : ∀ {len : Nat}, i < len → ∃ r, flatG g len = flatG g i ++ (g i ++ r) ∧ ∀ vs, flatG (fun j => if j = i then vs else g j) len = flatG g i ++ (vs ++ r)
  | 0, h => by omega
  | k + 1, h => by
    have hpre : ∀ vs, flatG (fun j => if j = i then vs else g j) i = flatG g i := fun vs => flatG_congr fun j hj => if_neg (by omega)
    by_cases e : i = k
    · subst e
      refine ⟨[], by rw [flatG_succ, List.append_nil], fun vs => ?_⟩
      rw [flatG_succ, hpre vs, if_pos rfl, List.append_nil]
    · obtain ⟨r, h1, h2⟩ := flatG_cut g (i := i) (len := k) (by omega)
      refine ⟨r ++ g k, by rw [flatG_succ, h1]; simp, fun vs => ?_⟩
      rw [flatG_succ, h2 vs, if_neg (fun q => e q.symm)]; simp
theorem flatG_put {g : Nat → List Value} {N : Nat} (hN : ∀ j, (g j).length = N) {vs : List Value} (hv : vs.length = N) {i len : Nat} (h : i < len) : putL (i * N) vs (flatG g len) = some (flatG (fun j => if j = i then vs else g j) len) := by
  obtain ⟨r, h1, h2⟩ := flatG_cut g h
  rw [h1, h2 vs, ← flatG_length hN i, putL_append, overL_same vs (g i) r (by rw [hv, hN])]; rfl
theorem flatG_get {g : Nat → List Value} {N : Nat} (hN : ∀ j, (g j).length = N) {i len : Nat} (h : i < len) : takeL N ((flatG g len).drop (i * N)) = some (g i) := by
  unfold flatG
  exact drop_flat (fun x hx => by obtain ⟨j, _, rfl⟩ := List.mem_map.1 hx; exact hN j) (by rw [List.getElem?_map, List.getElem?_range h]; rfl)
theorem repeatL_snoc (z : List Value) : ∀ q : Nat, repeatL z q ++ z = repeatL z (q + 1)
  | 0 => by show [] ++ z = z ++ []; simp
  | q + 1 => by
    show (z ++ repeatL z q) ++ z = z ++ repeatL z (q + 1)
    rw [List.append_assoc, repeatL_snoc z q]
theorem flatG_same (z : List Value) : ∀ len, flatG (fun _ => z) len = repeatL z len
  | 0 => by simp [flatG]
  | k + 1 => by rw [flatG_succ, flatG_same z k, repeatL_snoc]
theorem sl_of_flat {N : Nat} {s : St} {b c len : Nat} {g : Nat → List Value} {o : Option Nat} (h2 : b < s.next) (hN : ∀ j, (g j).length = N) (h3 : s.heap.get b = some (.cells (flatG g len) o)) : SlAt N s (.slice (some ⟨b, 0, none⟩) len c) ((List.range len).map g) := by
  have := sl_of_cells (n := N) (c := c) (l := (List.range len).map g) h2 (fun x hx => by obtain ⟨j, _, rfl⟩ := List.mem_map.1 hx; exact hN j) h3
  rw [List.length_map, List.length_range] at this
  exact this
/-! Comparison of masses -/
theorem unA36 : Try.prog.underlying 36 = some (.array 4 3) := by kernel_rfl
theorem unA39 : Try.prog.underlying 39 = some (.array 4 3) := by kernel_rfl
theorem unA3 : Try.prog.underlying 3 = some (.int .i64) := by kernel_rfl
theorem ceA36 : Try.prog.cellsOf 36 = 4 := by kernel_rfl
theorem ceA39 : Try.prog.cellsOf 39 = 4 := by kernel_rfl
theorem ceA3 : Try.prog.cellsOf 3 = 1 := by kernel_rfl
theorem keyLitA3 {d : Nat} {a : Int} (h : (Lit.int .i64 a).wf = true) : Try.prog.keyLits (d + 1) 3 [.int .i64 a] = some [.int .i64 a] := by
  unfold Program.keyLits; rw [unA3]; simp [h]
theorem wfA_of {a : Int} (h : -4611686018427387904 ≤ a ∧ a ≤ 4611686018427387904) : (Lit.int .i64 a).wf = true := by
  simp [Lit.wf, IntKind.min, IntKind.max, IntKind.bits, IntKind.signed]
  omega
theorem keyLitsA {t : TypeId} (hu : Try.prog.underlying t = some (.array 4 3)) (hc : Try.prog.cellsOf t = 4) {m : Mass} (h : m.le 4611686018427387904) : Try.prog.keyLits 21 t m.cs = some [.int .i64 m.a, .int .i64 m.b, .int .i64 m.c, .int .i64 m.d] := by
  obtain ⟨h1, h2, h3, h4⟩ : (Lit.int .i64 m.a).wf = true ∧ (Lit.int .i64 m.b).wf = true ∧ (Lit.int .i64 m.c).wf = true ∧ (Lit.int .i64 m.d).wf = true := by
    unfold Mass.le at h; exact ⟨wfA_of (by omega), wfA_of (by omega), wfA_of (by omega), wfA_of (by omega)⟩
  unfold Program.keyLits; rw [hu]
  simp [hc, ceA3, Mass.cs, List.range, List.range.loop, keyLitA3 h1, keyLitA3 h2, keyLitA3 h3, keyLitA3 h4]
theorem formedA {t : TypeId} (hu : Try.prog.underlying t = some (.array 4 3)) (hc : Try.prog.cellsOf t = 4) (x y z w : Value) : Value.formed Try.prog t (.agg #[x, y, z, w]) = true := by
  simp [Value.formed, hu, hc]
theorem litsEq_mass (m p : Mass) : litsEq [.int .i64 m.a, .int .i64 m.b, .int .i64 m.c, .int .i64 m.d] [.int .i64 p.a, .int .i64 p.b, .int .i64 p.c, .int .i64 p.d] = decide (m = p) := by
  rw [Bool.eq_iff_iff, litsEq_iff, decide_eq_true_eq]
  constructor
  · intro h
    simp at h
    exact Mass.ext' h.1 h.2.1 h.2.2.1 h.2.2.2
  · intro h; subst h; rfl
theorem aggEqA {t : TypeId} (hu : Try.prog.underlying t = some (.array 4 3)) (hc : Try.prog.cellsOf t = 4) {m p : Mass} (h : m.le 4611686018427387904) (k : p.le 4611686018427387904) : aggEq TT t #[.int .i64 m.a, .int .i64 m.b, .int .i64 m.c, .int .i64 m.d] #[.int .i64 p.a, .int .i64 p.b, .int .i64 p.c, .int .i64 p.d] = some (decide (m = p)) := by
  unfold aggEq
  have h1 := keyLitsA hu hc h
  have h2 := keyLitsA hu hc k
  unfold Mass.cs at h1 h2
  change gd _ (ob (Try.prog.keyLits 21 t _) fun la => ob (Try.prog.keyLits 21 t _) fun lb => some (litsEq la lb)) = _
  rw [h1, h2, show Value.formed TT.prog t (.agg #[.int .i64 m.a, .int .i64 m.b, .int .i64 m.c, .int .i64 m.d]) = true from formedA hu hc _ _ _ _, show Value.formed TT.prog t (.agg #[.int .i64 p.a, .int .i64 p.b, .int .i64 p.c, .int .i64 p.d]) = true from formedA hu hc _ _ _ _]
  show gd (_ && true && true) (some (litsEq _ _)) = _
  rw [litsEq_mass]; rfl
theorem flagA36 : (TT.prog.keyTypeAt 20 36 && !TT.prog.eqGuardType TT.prog.depth 36) = true := by kernel_rfl
theorem flagA39 : (TT.prog.keyTypeAt 20 39 && !TT.prog.eqGuardType TT.prog.depth 39) = true := by kernel_rfl
@[simp] theorem binVal_36ne (a b : Array Value) : binVal TT (.array 4 3) 36 (TT.prog.keyTypeAt 20 36 && !TT.prog.eqGuardType TT.prog.depth 36) .neq (.agg a) (.agg b) = ob (aggEq TT 36 a b) fun r => some (.bool (!r)) := by
  rw [flagA36]; rfl
@[simp] theorem binVal_39ne (a b : Array Value) : binVal TT (.array 4 3) 39 (TT.prog.keyTypeAt 20 39 && !TT.prog.eqGuardType TT.prog.depth 39) .neq (.agg a) (.agg b) = ob (aggEq TT 39 a b) fun r => some (.bool (!r)) := by
  rw [flagA39]; rfl
/-! What is known of a flow -/
structure KnownD where
  st : Int
  m : Mass
def KnownD.cs (k : KnownD) : List Value := [.int .i64 k.st, .int .i64 k.m.a, .int .i64 k.m.b, .int .i64 k.m.c, .int .i64 k.m.d]
def labE (fs : List FlowD) (i : Nat) (x : Int) : Int := labF i fs 0 (fun x => (x : Int)) (x + 1).toNat
def closeAt (fs : List FlowD) (n i : Nat) (f : FlowD) : KnownD :=
  if f.me = true then ⟨1, f.m⟩ else if labE fs i f.fr = labE fs i f.to then ⟨3, Mass.zero⟩ else
    if labE fs i f.fr ≠ 0 then ⟨2, excM (sideL (labF i fs 0 (fun x => (x : Int))) n (labE fs i f.fr)) fs⟩ else ⟨2, Mass.zero.sub (excM (sideL (labF i fs 0 (fun x => (x : Int))) n (labE fs i f.to)) fs)⟩
def closeF (fs : List FlowD) (n i : Nat) : KnownD := match fs[i]? with
  | some f => closeAt fs n i f
  | none => ⟨0, Mass.zero⟩
def closeErr (u : Int) (fs : List FlowD) : Int := if checkErr u fs ≠ 0 then checkErr u fs else match provF (rtF (-1) fs 0 id) fs u.toNat u.toNat 0 with
  | some _ => 12
  | none => 0
def closeKs (u : Int) (fs : List FlowD) : List KnownD := if closeErr u fs = 0 then (List.range fs.length).map (closeF fs u.toNat) else []
theorem sideL_sorted (L : Nat → Int) (n : Nat) (h : Int) : (sideL L n h).Pairwise (· < ·) := by
  unfold sideL
  rw [List.pairwise_map]
  exact (List.pairwise_lt_range.filter _).imp fun h => by omega
theorem sideL_range {L : Nat → Int} {n : Nat} {h : Int} (h0 : L 0 ≠ h) {x : Int} (hx : x ∈ sideL L n h) : 0 ≤ x ∧ x < n := by
  unfold sideL at hx
  obtain ⟨i, hi, e⟩ := List.mem_map.1 hx
  obtain ⟨h1, h2⟩ := List.mem_filter.1 hi
  have h1 := List.mem_range.1 h1
  have h2 : L i = h := by simpa using h2
  have : i ≠ 0 := fun q => h0 (by rw [← h2, q])
  change (i : Int) - 1 = x at e
  omega
theorem lab_rt {fs : List FlowD} {n i : Nat} (hends : ∀ f ∈ fs, (-1 ≤ f.fr ∧ f.fr < n) ∧ (-1 ≤ f.to ∧ f.to < n)) {x y : Int} (hx : -1 ≤ x ∧ x < n) (hy : -1 ≤ y ∧ y < n) : labE fs i x = labE fs i y ↔ rtF i fs 0 id x = rtF i fs 0 id y := by
  have hs := Same.flows (lo := (i : Int)) (i := 0) (Same.init n) hends
  have := hs.2 (x + 1).toNat (y + 1).toNat (by omega) (by omega)
  rw [show (((x + 1).toNat : Nat) : Int) - 1 = x by omega, show (((y + 1).toNat : Nat) : Int) - 1 = y by omega] at this
  exact this
theorem found_value {fs : List FlowD} {n i : Nat} {B : Nat → Mass} {f : FlowD} (hends : ∀ f ∈ fs, (-1 ≤ f.fr ∧ f.fr < n) ∧ (-1 ≤ f.to ∧ f.to < n)) (hne : ∀ f ∈ fs, f.fr ≠ f.to) (hnet : ∀ u : Nat, u < n → netB fs B u = Mass.zero)
    (hf : fs[i]? = some f) (hm : f.me = false) (hd : rtF i fs 0 id f.fr ≠ rtF i fs 0 id f.to) : closeAt fs n i f = ⟨2, B i⟩ := by
  have hfm := List.mem_of_getElem? hf
  obtain ⟨hV1, hV2⟩ := hends f hfm
  have hc : chB fs i = true := by
    rw [chB_some hf, hm]
    have hnr : ¬ rtF (-1) (fs.take i) 0 id f.fr = rtF (-1) (fs.take i) 0 id f.to := fun e => by
      refine hd ((rt_path_all fs i _ _).2 (((rt_path fs (-1) i _ _).1 e).mono fun j g _ he => ⟨he.2.1, ?_⟩))
      have := he.1; omega
    simp [hnr]
  have hs := Same.flows (lo := (i : Int)) (i := 0) (Same.init n) hends
  have hne2 : labE fs i f.fr ≠ labE fs i f.to := fun e => hd ((lab_rt hends hV1 hV2).1 e)
  have hin : ∀ (h : Int) (j : Nat) (g : FlowD), fs[j]? = some g → g.me = false → j ≠ i → (g.fr ∈ sideL (labF i fs 0 (fun x => (x : Int))) n h ↔ g.to ∈ sideL (labF i fs 0 (fun x => (x : Int))) n h) := fun h j g hg hmg hji => by
    obtain ⟨a, b⟩ := hends g (List.mem_of_getElem? hg)
    rw [mem_sideL a.1 a.2, mem_sideL b.1 b.2]
    have he := rtF_ends i fs 0 id j g hg hmg (by omega)
    have := (lab_rt (i := i) hends a b).2 he
    unfold labE at this
    rw [this]
  have hnd : ∀ h, (sideL (labF i fs 0 (fun x => (x : Int))) n h).Nodup := fun h => (sideL_sorted _ _ _).imp fun h => by omega
  unfold closeAt
  rw [if_neg (by rw [hm]; decide), if_neg hne2]
  by_cases ha : labE fs i f.fr = 0
  · rw [if_neg (by simp [ha])]
    congr 1
    have hb : labE fs i f.to ≠ 0 := fun q => hne2 (ha.trans q.symm)
    have hcv := cut_value hne hnet (hnd (labE fs i f.to)) (fun x hx => sideL_range (by rw [hs.out]; exact fun q => hb q.symm) hx) hf hc (hin _)
    have h1 : f.to ∈ sideL (labF i fs 0 (fun x => (x : Int))) n (labE fs i f.to) := (mem_sideL hV2.1 hV2.2).2 rfl
    have h2 : ¬ f.fr ∈ sideL (labF i fs 0 (fun x => (x : Int))) n (labE fs i f.to) := fun q => hne2 ((mem_sideL hV1.1 hV1.2).1 q)
    unfold bringsL at hcv
    rw [if_pos h1, if_neg h2] at hcv
    generalize excM (sideL (labF i fs 0 (fun x => (x : Int))) n (labE fs i f.to)) fs = x at hcv ⊢
    generalize B i = y at hcv ⊢
    obtain ⟨a1, a2, a3, a4⟩ := x
    obtain ⟨b1, b2, b3, b4⟩ := y
    simp [Mass.add, Mass.zero, Mass.sub] at hcv ⊢
    omega
  · rw [if_pos ha]
    congr 1
    have hcv := cut_value hne hnet (hnd (labE fs i f.fr)) (fun x hx => sideL_range (by rw [hs.out]; exact fun q => ha q.symm) hx) hf hc (hin _)
    have h1 : f.fr ∈ sideL (labF i fs 0 (fun x => (x : Int))) n (labE fs i f.fr) := (mem_sideL hV1.1 hV1.2).2 rfl
    have h2 : ¬ f.to ∈ sideL (labF i fs 0 (fun x => (x : Int))) n (labE fs i f.fr) := fun q => hne2 ((mem_sideL hV2.1 hV2.2).1 q).symm
    unfold bringsL at hcv
    rw [if_neg h2, if_pos h1] at hcv
    generalize excM (sideL (labF i fs 0 (fun x => (x : Int))) n (labE fs i f.fr)) fs = x at hcv ⊢
    generalize B i = y at hcv ⊢
    obtain ⟨a1, a2, a3, a4⟩ := x
    obtain ⟨b1, b2, b3, b4⟩ := y
    simp [Mass.add, Mass.zero, Mass.sub] at hcv ⊢
    omega
end Go.Proofs.Ytifkpaomhnlahaa
namespace Go.Proofs.Ytifkpaomhnlahaa
open Go Kern
theorem SlAt.same {n : Nat} {s s' : St} {b o m c : Nat} {l : List (List Value)} (h : SlAt n s (.slice (some ⟨b, o, none⟩) m c) l) (h1 : b < s.next → b < s'.next) (h2 : s'.heap.get b = s.heap.get b) : SlAt n s' (.slice (some ⟨b, o, none⟩) m c) l := by
  cases h with
  | mk hb ho hc he => exact .mk (h1 hb) (h2.trans ho) hc he
theorem SlAt.lt {n : Nat} {s : St} {b o m c : Nat} {l : List (List Value)} (h : SlAt n s (.slice (some ⟨b, o, none⟩) m c) l) : b < s.next := by
  cases h with
  | mk hb ho hc he => exact hb
end Go.Proofs.Ytifkpaomhnlahaa
namespace Go.Proofs.Ytifkpaomhnlahaa
open Go Kern
theorem exc_le {fs : List FlowD} {xs : List Int} {β : Int} (hβ : 0 ≤ β) (hf : ∀ f ∈ fs, f.me = true → f.m.le β) (hl : fs.length ≤ 20) : (excM xs fs).le (20 * β) := by
  have := exc_bound (xs := xs) hβ hf fs.length
  rw [List.take_length] at this
  exact this.mono (Int.mul_le_mul_of_nonneg_right (by omega) hβ)
theorem checkErr_ne {u : Int} {fs : List FlowD} (h : checkErr u fs = 0) : ∀ f ∈ fs, f.fr ≠ f.to := fun f hf => (flowErr_ok ((checkErr_ok h).2.2.2 f hf)).2.2.1
theorem checkErr_le9 {u : Int} {fs : List FlowD} (h : checkErr u fs = 0) : ∀ f ∈ fs, f.me = true → f.m.le 1000000000 := fun f hf hm =>
  eachB_le ((flowErr_ok ((checkErr_ok h).2.2.2 f hf)).2.2.2 hm)
def knG (fs : List FlowD) (n k : Nat) (j : Nat) : List Value := if j < k then (closeF fs n j).cs else [.int .i64 0, .int .i64 0, .int .i64 0, .int .i64 0, .int .i64 0]
theorem knG_length (fs : List FlowD) (n k : Nat) (j : Nat) : (knG fs n k j).length = 5 := by
  unfold knG; split <;> rfl
theorem knG_succ (fs : List FlowD) (n k : Nat) : (fun j => if j = k then (closeF fs n k).cs else knG fs n k j) = knG fs n (k + 1) := by
  funext j
  unfold knG
  by_cases e : j = k
  · subst e; rw [if_pos rfl, if_pos (by omega)]
  · rw [if_neg e]
    by_cases h : j < k
    · rw [if_pos h, if_pos (by omega)]
    · rw [if_neg h, if_neg (by omega)]
theorem excM_zero_of {rt : Int → Int} {fs : List FlowD} {n k : Nat} (h : provAt rt fs n k = none) (hL : isLead rt n k = true) : excM (clsN rt k n) fs = Mass.zero := by
  unfold provAt at h
  rw [if_pos hL] at h
  rw [← nzK_none]
  cases hz : nzK (excM (clsN rt k n) fs) with
  | none => rfl
  | some j => rw [hz] at h; cases h
set_option maxRecDepth 100000 in
set_option maxHeartbeats 4000000 in
theorem close_ev (u : Int) (v : Value) (fs : List FlowD) (s : St) (hf : FlAt s v fs) (hl : fs.length ≤ 1000000) :
    Ev TT 24 [plantV u v] s fun r s' => Keep s s' ∧ ∃ w, r = .tuple #[w, .int .i64 (closeErr u fs)] ∧ SlAt 5 s' w ((closeKs u fs).map KnownD.cs) := by
  unfold plantV
  refine Ev.intro (fn := Try.f24) rfl (by kernel_rfl) rfl rfl ?_
  with_reducible repeat first|apply Z0|apply Z1|apply Z2|apply Z3|apply Z4|apply Z5|refine Z6 rfl ?_|apply Z7|apply Z8|apply Z9|apply Z10|apply Z11|apply Z12|apply Z13|apply Z14|apply Z15|apply Z16
  with_reducible repeat first|apply Z0|apply Z1|apply Z2|apply Z3|apply Z4|apply Z5|refine Z6 rfl ?_|apply Z7|apply Z8|apply Z9|apply Z10|apply Z11|apply Z12|apply Z13|apply Z14|apply Z15|apply Z16
  refine Cd.reg (by kernel_rfl) (by conv => lhs; simp only [List.map_cons, List.map_nil]) (by conv => lhs; simp only [List.map_cons, List.map_nil, strip]) ?_
  apply Run.by_eq
  · intro self
    conv => lhs; simp -implicitDefEqProofs (maxSteps := 300000) (disch := omega) [-getElem?_pos, -getElem?_neg]
  try (with_reducible refine Run.ret ?_)
  with_reducible repeat first|apply Z0|apply Z1|apply Z2|apply Z3|apply Z4|apply Z5|refine Z6 rfl ?_|apply Z7|apply Z8|apply Z9|apply Z10|apply Z11|apply Z12|apply Z13|apply Z14|apply Z15|apply Z16
  with_reducible repeat first|apply Z0|apply Z1|apply Z2|apply Z3|apply Z4|apply Z5|refine Z6 rfl ?_|apply Z7|apply Z8|apply Z9|apply Z10|apply Z11|apply Z12|apply Z13|apply Z14|apply Z15|apply Z16
  refine Cd.reg (by kernel_rfl) (by conv => lhs; simp only [List.map_cons, List.map_nil]) (by conv => lhs; simp only [List.map_cons, List.map_nil, strip]) ?_
  apply Run.by_eq
  · intro self
    conv => lhs; simp -implicitDefEqProofs (maxSteps := 300000) (disch := omega) [-getElem?_pos, -getElem?_neg]
  try (with_reducible refine Run.ret ?_)
  with_reducible repeat first|apply Z0|apply Z1|apply Z2|apply Z3|apply Z4|apply Z5|refine Z6 rfl ?_|apply Z7|apply Z8|apply Z9|apply Z10|apply Z11|apply Z12|apply Z13|apply Z14|apply Z15|apply Z16
  refine Run.call ((check_ev u v fs _ (hf.keep ⟨by (try simp only [pushed_next', upded_next']); omega, fun i hi => by simp -implicitDefEqProofs (disch := omega) []⟩) hl).mono fun v wq hv => ?_)
  obtain ⟨rfl, q⟩ := hv
  have qa := q.1
  have qb := q.2
  try simp only [pushed_next', upded_next'] at qa qb
  apply Run.by_eq
  · intro self
    conv => lhs; simp -implicitDefEqProofs (maxSteps := 300000) (disch := omega) [-getElem?_pos, -getElem?_neg, qb]
  try (with_reducible refine Run.ret ?_)
  with_reducible repeat first|apply Z0|apply Z1|apply Z2|apply Z3|apply Z4|apply Z5|refine Z6 rfl ?_|apply Z7|apply Z8|apply Z9|apply Z10|apply Z11|apply Z12|apply Z13|apply Z14|apply Z15|apply Z16
  with_reducible repeat first|apply Z0|apply Z1|apply Z2|apply Z3|apply Z4|apply Z5|refine Z6 rfl ?_|apply Z7|apply Z8|apply Z9|apply Z10|apply Z11|apply Z12|apply Z13|apply Z14|apply Z15|apply Z16
  refine Cd.reg (by kernel_rfl) (by conv => lhs; simp only [List.map_cons, List.map_nil]) (by conv => lhs; simp only [List.map_cons, List.map_nil, strip]) ?_
  apply Run.by_eq
  · intro self
    conv => lhs; simp -implicitDefEqProofs (maxSteps := 300000) (disch := omega) [-getElem?_pos, -getElem?_neg, qb]
  try (with_reducible refine Run.ret ?_)
  with_reducible repeat first|apply Z0|apply Z1|apply Z2|apply Z3|apply Z4|apply Z5|refine Z6 rfl ?_|apply Z7|apply Z8|apply Z9|apply Z10|apply Z11|apply Z12|apply Z13|apply Z14|apply Z15|apply Z16
  with_reducible repeat first|apply Z0|apply Z1|apply Z2|apply Z3|apply Z4|apply Z5|refine Z6 rfl ?_|apply Z7|apply Z8|apply Z9|apply Z10|apply Z11|apply Z12|apply Z13|apply Z14|apply Z15|apply Z16
  apply Cd.ite rfl
  · conv => lhs; simp -implicitDefEqProofs (maxSteps := 300000) (disch := omega) [-getElem?_pos, -getElem?_neg]
  all_goals intro c0
  all_goals try (cases c0; done)
  all_goals try simp only [Bool.not_eq_true', Bool.not_eq_false', decide_eq_true_eq, decide_eq_false_iff_not] at c0
  all_goals with_reducible repeat first|apply Z0|apply Z1|apply Z2|apply Z3|apply Z4|apply Z5|refine Z6 rfl ?_|apply Z7|apply Z8|apply Z9|apply Z10|apply Z11|apply Z12|apply Z13|apply Z14|apply Z15|apply Z16
  · with_reducible repeat first|apply Z0|apply Z1|apply Z2|apply Z3|apply Z4|apply Z5|refine Z6 rfl ?_|apply Z7|apply Z8|apply Z9|apply Z10|apply Z11|apply Z12|apply Z13|apply Z14|apply Z15|apply Z16
    refine Cd.reg (by kernel_rfl) (by conv => lhs; simp only [List.map_cons, List.map_nil]) (by conv => lhs; simp only [List.map_cons, List.map_nil, strip]) ?_
    apply Run.by_eq
    · intro self
      conv => lhs; simp -implicitDefEqProofs (maxSteps := 300000) (disch := omega) [-getElem?_pos, -getElem?_neg, qb]
    try (with_reducible refine Run.ret ?_)
    with_reducible repeat first|apply Z0|apply Z1|apply Z2|apply Z3|apply Z4|apply Z5|refine Z6 rfl ?_|apply Z7|apply Z8|apply Z9|apply Z10|apply Z11|apply Z12|apply Z13|apply Z14|apply Z15|apply Z16
    apply Leave.mk (by first | exact .inl rfl | exact .inr rfl) (by simp only [Fr.marks_put, fr0_marks, qb])
    · conv => lhs; simp -implicitDefEqProofs (disch := omega) [Try.results24, qb]
    have hce : closeErr u fs = checkErr u fs := by unfold closeErr; rw [if_pos c0]
    have hck : closeKs u fs = [] := by unfold closeKs; rw [if_neg (by rw [hce]; exact c0)]
    rw [hce, hck]
    exact ⟨⟨by (try simp only [pushed_next', upded_next']); omega, fun i hi => by simp -implicitDefEqProofs (disch := omega) [qb]⟩, _, rfl, .nil 0⟩
  have hck : checkErr u fs = 0 := c0
  obtain ⟨hu1, hu2, hl20, _⟩ := checkErr_ok hck
  have hends := ends_in hck
  obtain ⟨n, hn⟩ : ∃ n : Nat, u = n := ⟨u.toNat, by omega⟩
  subst hn
  have hn8 : n ≤ 8 := by omega
  have hce : closeErr n fs = match provF (rtF (-1) fs 0 id) fs n n 0 with | some _ => 12 | none => 0 := by unfold closeErr; rw [if_neg (by simp [hck])]; rfl
  with_reducible repeat first|apply Z0|apply Z1|apply Z2|apply Z3|apply Z4|apply Z5|refine Z6 rfl ?_|apply Z7|apply Z8|apply Z9|apply Z10|apply Z11|apply Z12|apply Z13|apply Z14|apply Z15|apply Z16
  refine Cd.reg (by kernel_rfl) (by conv => lhs; simp only [List.map_cons, List.map_nil]) (by conv => lhs; simp only [List.map_cons, List.map_nil, strip]) ?_
  apply Run.by_eq
  · intro self
    conv => lhs; simp -implicitDefEqProofs (maxSteps := 300000) (disch := omega) [-getElem?_pos, -getElem?_neg, qb]
  try (with_reducible refine Run.ret ?_)
  with_reducible repeat first|apply Z0|apply Z1|apply Z2|apply Z3|apply Z4|apply Z5|refine Z6 rfl ?_|apply Z7|apply Z8|apply Z9|apply Z10|apply Z11|apply Z12|apply Z13|apply Z14|apply Z15|apply Z16
  refine Run.call ((parts_ev n v _).mono fun r w1 hv => ?_)
  obtain ⟨hk1, bp, rfl, hbp1, hbp2, hgp⟩ := hv
  have k1a := hk1.1
  have k1b := hk1.2
  have hk : Keep s w1 := ⟨by omega, fun i hi => by rw [k1b i (by omega)]; simp -implicitDefEqProofs (disch := omega) [qb]⟩
  have hv0 : w1.heap.get s.next = some (.cells [.int .i64 n, v] none) := by rw [k1b _ (by omega)]; simp -implicitDefEqProofs (disch := omega) [qb]
  have hv1 : w1.heap.get (s.next + 1) = some (.cells [.slice none 0 0] none) := by rw [k1b _ (by omega)]; simp -implicitDefEqProofs (disch := omega) [qb]
  have hv2 : w1.heap.get (s.next + 1 + 1) = some (.cells [.int .i64 0] none) := by rw [k1b _ (by omega)]; simp -implicitDefEqProofs (disch := omega) [qb]
  apply Run.by_eq
  · intro self
    conv => lhs; simp -implicitDefEqProofs (maxSteps := 300000) (disch := omega) [-getElem?_pos, -getElem?_neg]
  try (with_reducible refine Run.ret ?_)
  with_reducible repeat first|apply Z0|apply Z1|apply Z2|apply Z3|apply Z4|apply Z5|refine Z6 rfl ?_|apply Z7|apply Z8|apply Z9|apply Z10|apply Z11|apply Z12|apply Z13|apply Z14|apply Z15|apply Z16
  refine Cd.rangeJ (gi := 59) (first := #[]) (captured := #[.pointer (some ⟨bp, 0, none⟩)]) rfl (by simp) ?_
  generalize hR : ALoop.mk true none _ _ _ _ _ = R0
  show Ev TT 59 [.func (.yield (w1.next + 1)) #[] #[], .pointer (some ⟨bp, 0, none⟩)] _ _
  refine (iterJ_ev n v (.func (.yield (w1.next + 1)) #[] #[]) fs bp _ (fun i => i = s.next + 1 ∨ i = s.next + 1 + 1 ∨ i = w1.next + 1)
    (fun j s2 => s2.heap.get (w1.next + 1) = some (.loop R0) ∧ s2.heap.get s.next = some (.cells [.int .i64 n, v] none) ∧ s2.heap.get (s.next + 1) = some (.cells [.slice none 0 0] none) ∧ s2.heap.get (s.next + 1 + 1) = some (.cells [.int .i64 0] none) ∧ s2.heap.get w1.next = some (.deferred true) ∧ w1.next + 1 < s2.next ∧ (∀ i, i < s.next → s2.heap.get i = s.heap.get i) ∧ ∀ i, 0 ≤ i → i < j → provAt (rtF (-1) fs 0 id) fs n i = none)
    (fun j s2 => s2.heap.get (w1.next + 1) = some (.loop ⟨false, some .ret, R0.n, R0.tmps, R0.params, R0.assign, R0.body⟩) ∧ s2.heap.get w1.next = some (.deferred true) ∧ w1.next + 1 < s2.next ∧ s2.heap.get (s.next + 1) = some (.cells [.slice none 0 0] none) ∧ s2.heap.get (s.next + 1 + 1) = some (.cells [.int .i64 12] none) ∧ (∃ p, provAt (rtF (-1) fs 0 id) fs n j = some p) ∧ ∀ i, 0 ≤ i → i < j → provAt (rtF (-1) fs 0 id) fs n i = none)
    hn8 ((hf.keep hk).keep ⟨by (try simp only [pushed_next', upded_next']); omega, fun i hi => by simp -implicitDefEqProofs (disch := omega) []⟩) hl ?_ ?_ ?_ ?_ ?_ ?_ ?_ ?_).mono fun _ s2 hres => ?_
  · simp only [pushed_next']; omega
  · simp -implicitDefEqProofs (disch := omega) [hgp]
  · rintro i (rfl | rfl | rfl) <;> simp only [pushed_next'] <;> omega
  · rintro (h | h | h) <;> omega
  · refine ⟨?_, ?_, ?_, ?_, ?_, ?_, fun i hi => ?_, fun i _ hi => absurd hi (by omega)⟩
    · simp -implicitDefEqProofs (disch := omega)
    · simp -implicitDefEqProofs (disch := omega) [hv0]
    · simp -implicitDefEqProofs (disch := omega) [hv1]
    · simp -implicitDefEqProofs (disch := omega) [hv2]
    · simp -implicitDefEqProofs (disch := omega)
    · simp
    · simp -implicitDefEqProofs (disch := omega) [hk.2]
  · rintro j s1 s2 ⟨j0, j1, j2, j3, j5, j6, jk, j7⟩ h1 h2
    simp only [pushed_next'] at h2
    exact ⟨by rw [h2 _ (by omega)]; exact j0, by rw [h2 _ (by omega)]; exact j1, by rw [h2 _ (by omega)]; exact j2, by rw [h2 _ (by omega)]; exact j3, by rw [h2 _ (by omega)]; exact j5, by omega, fun i hi => by rw [h2 _ (by omega)]; exact jk i hi, j7⟩
  · rintro j s1 hj hL ⟨j0, j1, j2, j3, j5, j6, jk, j7⟩
    refine ⟨j0, j1, j2, j3, j5, j6, jk, fun i h1 h2 => ?_⟩
    by_cases e : i = j
    · subst e; unfold provAt; rw [hL]; rfl
    · exact j7 i h1 (by omega)
  · rintro j s1 w hj hL ⟨j0, j1, j2, j3, j5, j6, jk, j7⟩ hs1 hw ⟨bw, hbw, rfl⟩
    simp only [pushed_next'] at hs1 hbw
    show Evn TT (fun self => exRound self (w1.next + 1) _ s1) _
    subst hR
    refine Evn.roundJ j0 rfl ?_
    show Cd TT true _ _ ((((Fr.mk _ []).put (some 18) _).put (some 19) _)) _ _
    dsimp only
    with_reducible repeat first|apply Z0|apply Z1|apply Z2|apply Z3|apply Z4|apply Z5|refine Z6 rfl ?_|apply Z7|apply Z8|apply Z9|apply Z10|apply Z11|apply Z12|apply Z13|apply Z14|apply Z15|apply Z16
    refine Cd.reg (by kernel_rfl) (by conv => lhs; simp only [List.map_cons, List.map_nil]) (by conv => lhs; simp only [List.map_cons, List.map_nil, strip]) ?_
    apply Run.by_eq
    · intro self
      conv => lhs; simp -implicitDefEqProofs (maxSteps := 300000) (disch := omega) [-getElem?_pos, -getElem?_neg, Fr.get_mk]
    try (with_reducible refine Run.ret ?_)
    with_reducible repeat first|apply Z0|apply Z1|apply Z2|apply Z3|apply Z4|apply Z5|refine Z6 rfl ?_|apply Z7|apply Z8|apply Z9|apply Z10|apply Z11|apply Z12|apply Z13|apply Z14|apply Z15|apply Z16
    refine ⟨rfl, _, j0, rfl, rfl, ?_⟩
    dsimp only
    with_reducible repeat first|apply Z0|apply Z1|apply Z2|apply Z3|apply Z4|apply Z5|refine Z6 rfl ?_|apply Z7|apply Z8|apply Z9|apply Z10|apply Z11|apply Z12|apply Z13|apply Z14|apply Z15|apply Z16
    refine Cd.reg (by kernel_rfl) (by conv => lhs; simp only [List.map_cons, List.map_nil]) (by conv => lhs; simp only [List.map_cons, List.map_nil, strip]) ?_
    apply Run.by_eq
    · intro self
      conv => lhs; simp -implicitDefEqProofs (maxSteps := 300000) (disch := omega) [-getElem?_pos, -getElem?_neg, Fr.get_mk, j1]
    try (with_reducible refine Run.ret ?_)
    with_reducible repeat first|apply Z0|apply Z1|apply Z2|apply Z3|apply Z4|apply Z5|refine Z6 rfl ?_|apply Z7|apply Z8|apply Z9|apply Z10|apply Z11|apply Z12|apply Z13|apply Z14|apply Z15|apply Z16
    generalize hLf : ALoop.mk false none _ _ _ _ _ = Lf
    generalize hrt : rtF (-1) fs 0 id = rt at *
    have hcl := clsN_length rt j n
    refine Run.call ((excess_ev n v _ fs (clsN rt j n) _ (hf.keep ⟨by (try simp only [pushed_next', upded_next']); omega, fun i hi => by simp -implicitDefEqProofs (disch := omega) [jk]⟩) (SlAt.same hw (by simp) (by simp -implicitDefEqProofs (disch := omega))) (by omega) (by omega) (checkErr_le hck)).mono fun v wy hv => ?_)
    obtain ⟨rfl, y⟩ := hv
    have ya := y.1
    have yb := y.2
    try simp only [pushed_next', upded_next'] at ya yb
    have hxl := exc_le (xs := clsN rt j n) (by omega) (checkErr_le hck) hl20
    generalize hmx : excM (clsN rt j n) fs = mx at hxl
    have hEq : aggEq TT 36 #[.int .i64 mx.a, .int .i64 mx.b, .int .i64 mx.c, .int .i64 mx.d] #[.int .i64 0, .int .i64 0, .int .i64 0, .int .i64 0] = some (decide (mx = Mass.zero)) := aggEqA unA36 ceA36 (m := mx) (p := Mass.zero) (hxl.mono (by omega)) (Mass.le_zero (by omega))
    try simp only [upded_next'] at ya
    have hlp : wy.heap.get (w1.next + 1) = some (.loop Lf) := by rw [yb _ (by omega)]; simp
    have hy2 : wy.heap.get (s.next + 1) = some (.cells [.slice none 0 0] none) := by rw [yb _ (by omega)]; simp -implicitDefEqProofs (disch := omega) [j2]
    have hy3 : wy.heap.get (s.next + 1 + 1) = some (.cells [.int .i64 0] none) := by rw [yb _ (by omega)]; simp -implicitDefEqProofs (disch := omega) [j3]
    have hy5 : wy.heap.get w1.next = some (.deferred true) := by rw [yb _ (by omega)]; simp -implicitDefEqProofs (disch := omega) [j5]
    by_cases hz0 : mx = Mass.zero
    · have hz1 : decide (mx = Mass.zero) = true := decide_eq_true hz0
      rw [hz1] at hEq
      apply Run.by_eq
      · intro self
        conv => lhs; simp -implicitDefEqProofs (maxSteps := 300000) (disch := omega) [-getElem?_pos, -getElem?_neg, Mass.v, hEq]
      try (with_reducible refine Run.ret ?_)
      with_reducible repeat first|apply Z0|apply Z1|apply Z2|apply Z3|apply Z4|apply Z5|refine Z6 rfl ?_|apply Z7|apply Z8|apply Z9|apply Z10|apply Z11|apply Z12|apply Z13|apply Z14|apply Z15|apply Z16
      with_reducible repeat first|apply Z0|apply Z1|apply Z2|apply Z3|apply Z4|apply Z5|refine Z6 rfl ?_|apply Z7|apply Z8|apply Z9|apply Z10|apply Z11|apply Z12|apply Z13|apply Z14|apply Z15|apply Z16
      apply Cd.ite rfl
      · conv => lhs; simp -implicitDefEqProofs (maxSteps := 300000) (disch := omega) [-getElem?_pos, -getElem?_neg]
      all_goals intro d0
      all_goals try (cases d0; done)
      all_goals try simp only [Bool.not_eq_true', Bool.not_eq_false', decide_eq_true_eq, decide_eq_false_iff_not] at d0
      all_goals with_reducible repeat first|apply Z0|apply Z1|apply Z2|apply Z3|apply Z4|apply Z5|refine Z6 rfl ?_|apply Z7|apply Z8|apply Z9|apply Z10|apply Z11|apply Z12|apply Z13|apply Z14|apply Z15|apply Z16
      refine ⟨Lf, hlp, .inl ⟨rfl, ?_, ?_, ?_, ?_, ?_, ?_, fun i hi => ?_, fun i h1 h2 => ?_⟩, ?_, fun z hz hX => ?_⟩
      · rw [get_upded_same]; subst hLf; rfl
      · simp -implicitDefEqProofs (disch := omega) [yb, j1]
      · simp -implicitDefEqProofs (disch := omega) [hy2]
      · simp -implicitDefEqProofs (disch := omega) [hy3]
      · simp -implicitDefEqProofs (disch := omega) [hy5]
      · simp only [upded_next']; omega
      · simp -implicitDefEqProofs (disch := omega) [yb, jk]
      · by_cases e : i = j
        · subst e; unfold provAt; rw [if_pos hL, hmx, nzK_none.2 hz0]; rfl
        · exact j7 i h1 (by omega)
      · simp only [upded_next']; omega
      · have x4 : z ≠ w1.next + 1 := fun e => hX (.inr (.inr e))
        simp -implicitDefEqProofs (disch := omega) [yb]
    · have hz1 : decide (mx = Mass.zero) = false := decide_eq_false hz0
      rw [hz1] at hEq
      apply Run.by_eq
      · intro self
        conv => lhs; simp -implicitDefEqProofs (maxSteps := 300000) (disch := omega) [-getElem?_pos, -getElem?_neg, Mass.v, hEq]
      try (with_reducible refine Run.ret ?_)
      with_reducible repeat first|apply Z0|apply Z1|apply Z2|apply Z3|apply Z4|apply Z5|refine Z6 rfl ?_|apply Z7|apply Z8|apply Z9|apply Z10|apply Z11|apply Z12|apply Z13|apply Z14|apply Z15|apply Z16
      with_reducible repeat first|apply Z0|apply Z1|apply Z2|apply Z3|apply Z4|apply Z5|refine Z6 rfl ?_|apply Z7|apply Z8|apply Z9|apply Z10|apply Z11|apply Z12|apply Z13|apply Z14|apply Z15|apply Z16
      apply Cd.ite rfl
      · conv => lhs; simp -implicitDefEqProofs (maxSteps := 300000) (disch := omega) [-getElem?_pos, -getElem?_neg]
      all_goals intro d0
      all_goals try (cases d0; done)
      all_goals try simp only [Bool.not_eq_true', Bool.not_eq_false', decide_eq_true_eq, decide_eq_false_iff_not] at d0
      all_goals with_reducible repeat first|apply Z0|apply Z1|apply Z2|apply Z3|apply Z4|apply Z5|refine Z6 rfl ?_|apply Z7|apply Z8|apply Z9|apply Z10|apply Z11|apply Z12|apply Z13|apply Z14|apply Z15|apply Z16
      with_reducible repeat first|apply Z0|apply Z1|apply Z2|apply Z3|apply Z4|apply Z5|refine Z6 rfl ?_|apply Z7|apply Z8|apply Z9|apply Z10|apply Z11|apply Z12|apply Z13|apply Z14|apply Z15|apply Z16
      refine Cd.reg (by kernel_rfl) (by conv => lhs; simp only [List.map_cons, List.map_nil]) (by conv => lhs; simp only [List.map_cons, List.map_nil, strip]) ?_
      apply Run.by_eq
      · intro self
        conv => lhs; simp -implicitDefEqProofs (maxSteps := 300000) (disch := omega) [-getElem?_pos, -getElem?_neg, Fr.get_mk, hy2, hy3]
      try (with_reducible refine Run.ret ?_)
      with_reducible repeat first|apply Z0|apply Z1|apply Z2|apply Z3|apply Z4|apply Z5|refine Z6 rfl ?_|apply Z7|apply Z8|apply Z9|apply Z10|apply Z11|apply Z12|apply Z13|apply Z14|apply Z15|apply Z16
      refine ⟨Lf, ?_, .inr ⟨rfl, ?_, ?_, ?_, ?_, ?_, ?_, j7⟩, ?_, fun z hz hX => ?_⟩
      · simp -implicitDefEqProofs (disch := omega) [hlp]
      · rw [get_upded_same]; subst hLf; rfl
      · simp -implicitDefEqProofs (disch := omega) [hy5]
      · simp only [upded_next']; omega
      · simp -implicitDefEqProofs (disch := omega)
      · simp -implicitDefEqProofs (disch := omega)
      · unfold provAt
        rw [if_pos hL, hmx]
        cases hzz : nzK mx with
        | none => exact absurd (nzK_none.1 hzz) hz0
        | some p => exact ⟨_, rfl⟩
      · simp only [upded_next']; omega
      · have x1 : z ≠ s.next + 1 := fun e => hX (.inl e)
        have x2 : z ≠ s.next + 1 + 1 := fun e => hX (.inr (.inl e))
        have x4 : z ≠ w1.next + 1 := fun e => hX (.inr (.inr e))
        simp -implicitDefEqProofs (disch := omega) [yb]
  obtain ⟨hJB, r2, r3⟩ := hres
  simp only [pushed_next'] at r2 r3
  have hold : ∀ i, i < s.next → s2.heap.get i = s.heap.get i := fun i hi => by
    rw [r3 i (by omega) (by omega)]
    simp -implicitDefEqProofs (disch := omega) [hk.2]
  rcases hJB with ⟨j0, j1, j2, j3, j5, j6, jk, j7⟩ | ⟨k, hkn, hL, ⟨b0, b1, b2, b3, b4, ⟨p, hp⟩, hz⟩⟩
  · refine ⟨R0, j0, .inl ⟨by rw [← hR], by rw [← hR], ?_⟩⟩
    have hK0 : ((n : Int) + 1) * 20000000000 ≤ 180000000000 := by omega
    with_reducible repeat first|apply Z0|apply Z1|apply Z4|apply Z5
    have hfs2 : FlAt (s2.upded (w1.next + 1) .dead) v fs := hf.keep ⟨by (try simp only [pushed_next', upded_next']); omega, fun i hi => by simp -implicitDefEqProofs (disch := omega) [hold]⟩
    have hzero : ∀ k : Nat, k < n → isLead (rtF (-1) fs 0 id) n k = true → excM (clsN (rtF (-1) fs 0 id) k n) fs = Mass.zero := fun k hk hL => excM_zero_of (j7 k (by omega) hk) hL
    have hce' : closeErr n fs = 0 := by rw [hce, provF_none fun i h1 h2 => j7 i h1 (by omega)]
    have hck' : closeKs n fs = (List.range fs.length).map (closeF fs n) := by unfold closeKs; rw [if_pos hce']; rfl
    rw [hce', hck']
    have hne := checkErr_ne hck
    have h9 := checkErr_le9 hck
    have hpl : (s2.upded (w1.next + 1) .dead).heap.get s.next = some (.cells [.int .i64 n, v] none) := by simp -implicitDefEqProofs (disch := omega) [j1]
    with_reducible repeat first|apply Z0|apply Z1|apply Z2|apply Z3|apply Z4|apply Z5|refine Z6 rfl ?_|apply Z7|apply Z8|apply Z9|apply Z10|apply Z11|apply Z12|apply Z13|apply Z14|apply Z15|apply Z16
    refine Cd.reg (by kernel_rfl) (by conv => lhs; simp only [List.map_cons, List.map_nil]) (by conv => lhs; simp only [List.map_cons, List.map_nil, strip]) ?_
    apply Run.by_eq
    · intro self
      conv => lhs; simp -implicitDefEqProofs (maxSteps := 300000) (disch := omega) [-getElem?_pos, -getElem?_neg, Fr.get_mk, hpl]
    try (with_reducible refine Run.ret ?_)
    with_reducible repeat first|apply Z0|apply Z1|apply Z2|apply Z3|apply Z4|apply Z5|refine Z6 rfl ?_|apply Z7|apply Z8|apply Z9|apply Z10|apply Z11|apply Z12|apply Z13|apply Z14|apply Z15|apply Z16
    refine Run.call ((settle_ev n v fs _ 20000000000 180000000000 hn8 hfs2 (by omega) hends hne (checkErr_le hck) (fun f hf hm => (h9 f hf hm).mono (by omega)) (by omega) (fun e => exc_le (by omega) h9 hl20) hK0 (by omega) (by omega)).mono fun r s3 hv => ?_)
    obtain ⟨k3, β, B, rfl, hβ1, hβ2, hβ3, hSet⟩ := hv
    have k3a := k3.1
    have k3b := k3.2
    simp only [upded_next'] at k3a k3b hβ1
    have hnet : ∀ u : Nat, u < n → netB fs B u = Mass.zero := fun u hu => settled_zero hSet hends hne hzero hu
    have hold3 : ∀ i, i < s.next → s3.heap.get i = s.heap.get i := fun i hi => by rw [k3b i (by omega)]; simp -implicitDefEqProofs (disch := omega) [hold]
    have hf3 : FlAt s3 v fs := hf.keep ⟨by omega, hold3⟩
    have q1 : s3.heap.get s.next = some (.cells [.int .i64 n, v] none) := (k3b _ (by omega)).trans hpl
    have q2 : s3.heap.get (s.next + 1) = some (.cells [.slice none 0 0] none) := by rw [k3b _ (by omega)]; simp -implicitDefEqProofs (disch := omega) [j2]
    have q3 : s3.heap.get (s.next + 1 + 1) = some (.cells [.int .i64 0] none) := by rw [k3b _ (by omega)]; simp -implicitDefEqProofs (disch := omega) [j3]
    have q5 : s3.heap.get w1.next = some (.deferred true) := by rw [k3b _ (by omega)]; simp -implicitDefEqProofs (disch := omega) [j5]
    apply Run.by_eq
    · intro self
      conv => lhs; simp -implicitDefEqProofs (maxSteps := 300000) (disch := omega) [-getElem?_pos, -getElem?_neg]
    try (with_reducible refine Run.ret ?_)
    with_reducible repeat first|apply Z0|apply Z1|apply Z2|apply Z3|apply Z4|apply Z5|refine Z6 rfl ?_|apply Z7|apply Z8|apply Z9|apply Z10|apply Z11|apply Z12|apply Z13|apply Z14|apply Z15|apply Z16
    obtain ⟨a, c, rfl⟩ := hf3.shape
    rw [List.length_map] at hf3 q1 hf hfs2
    have nl := natOf_cast .i64 fs.length
    with_reducible repeat first|apply Z0|apply Z1|apply Z2|apply Z3|apply Z4|apply Z5|refine Z6 rfl ?_|apply Z7|apply Z8|apply Z9|apply Z10|apply Z11|apply Z12|apply Z13|apply Z14|apply Z15|apply Z16
    refine Cd.reg (by kernel_rfl) (by conv => lhs; simp only [List.map_cons, List.map_nil]) (by conv => lhs; simp only [List.map_cons, List.map_nil, strip]) ?_
    apply Run.by_eq
    · intro self
      conv => lhs; simp -implicitDefEqProofs (maxSteps := 300000) (disch := omega) [-getElem?_pos, -getElem?_neg, Fr.get_mk, q1, nl]
    try (with_reducible refine Run.ret ?_)
    with_reducible repeat first|apply Z0|apply Z1|apply Z2|apply Z3|apply Z4|apply Z5|refine Z6 rfl ?_|apply Z7|apply Z8|apply Z9|apply Z10|apply Z11|apply Z12|apply Z13|apply Z14|apply Z15|apply Z16
    with_reducible repeat first|apply Z0|apply Z1|apply Z2|apply Z3|apply Z4|apply Z5|refine Z6 rfl ?_|apply Z7|apply Z8|apply Z9|apply Z10|apply Z11|apply Z12|apply Z13|apply Z14|apply Z15|apply Z16
    refine Cd.reg (by kernel_rfl) (by conv => lhs; simp only [List.map_cons, List.map_nil]) (by conv => lhs; simp only [List.map_cons, List.map_nil, strip]) ?_
    apply Run.by_eq
    · intro self
      conv => lhs; simp -implicitDefEqProofs (maxSteps := 300000) (disch := omega) [-getElem?_pos, -getElem?_neg, Fr.get_mk, q1]
    try (with_reducible refine Run.ret ?_)
    with_reducible repeat first|apply Z0|apply Z1|apply Z2|apply Z3|apply Z4|apply Z5|refine Z6 rfl ?_|apply Z7|apply Z8|apply Z9|apply Z10|apply Z11|apply Z12|apply Z13|apply Z14|apply Z15|apply Z16
    refine Cd.inv (fun z f s' => ∃ k : Nat, k ≤ fs.length ∧ z = fs.length - k ∧ f.marks = [w1.next] ∧ f.get 34 = .int .i64 k ∧ f.get 33 = .int .i64 fs.length ∧ f.get 32 = .slice a fs.length c ∧ f.get 1 = .pointer (some ⟨s.next, 0, none⟩) ∧ f.get 2 = .pointer (some ⟨s.next + 1, 0, none⟩) ∧ f.get 3 = .pointer (some ⟨s.next + 1 + 1, 0, none⟩) ∧ f.get 7 = .slice (some ⟨β, 0, none⟩) fs.length fs.length ∧ f.get 8 = .slice (some ⟨s3.next, 0, none⟩) fs.length fs.length ∧ Keep s3 s' ∧ s3.next < s'.next ∧
      s'.heap.get s3.next = some (.cells (flatG (knG fs n k) fs.length) none)) fs.length ?_ ?_
    · refine ⟨0, by omega, rfl, by simp, by simp, by simp, by simp, by simp [Fr.get_mk], by simp [Fr.get_mk], by simp [Fr.get_mk], by simp [Fr.get_mk], by simp, ⟨by (try simp only [pushed_next', upded_next']); omega, fun i hi => by simp -implicitDefEqProofs (disch := omega) []⟩, by simp, ?_⟩
      rw [show knG fs n 0 = fun _ => [.int .i64 0, .int .i64 0, .int .i64 0, .int .i64 0, .int .i64 0] from by funext j; unfold knG; rw [if_neg (by omega)], flatG_same]
      simp -implicitDefEqProofs (disch := omega)
    rintro z f s' ⟨k, hk, rfl, hm, h34, h33, h32, h1, h2, h3, h7, h8, hkp, hnx, hg⟩
    have hkpa := hkp.1
    have hkpb := hkp.2
    by_cases hlt : k < fs.length
    · obtain ⟨g, hgk⟩ : ∃ g, fs[k]? = some g := ⟨fs[k], by simp [hlt]⟩
      obtain ⟨hV1, hV2⟩ := hends g (List.mem_of_getElem? hgk)
      have hcl : closeF fs n k = closeAt fs n k g := by unfold closeF; rw [hgk]
      have hfv := fun hm => found_value (n := n) (B := B) hends hne hnet hgk hm
      have hlr := lab_rt (i := k) hends hV1 hV2
      obtain ⟨b, off, o, cs, gg, rfl, hb, ho, hc, ht⟩ := FlAt.at (hf3.keep hkp) hgk
      have hputK : ∀ (st : Int) (mm : Mass), closeAt fs n k g = ⟨st, mm⟩ → putL (k * 5) [.int .i64 st, .int .i64 mm.a, .int .i64 mm.b, .int .i64 mm.c, .int .i64 mm.d] (flatG (knG fs n k) fs.length) = some (flatG (knG fs n (k + 1)) fs.length) := fun st mm h => by
        rw [← knG_succ, hcl, h]
        exact flatG_put (knG_length fs n k) rfl hlt
      obtain ⟨g0, g1, gm, m⟩ := g
      rw [FlowD.cs] at ht
      simp only [] at ht hV1 hV2 hlr hfv
      with_reducible repeat first|apply Z0|apply Z1|apply Z2|apply Z3|apply Z4|apply Z5|refine Z6 rfl ?_|apply Z7|apply Z8|apply Z9|apply Z10|apply Z11|apply Z12|apply Z13|apply Z14|apply Z15|apply Z16
      refine Cd.reg (by kernel_rfl) (by conv => lhs; simp only [List.map_cons, List.map_nil]) (by conv => lhs; simp only [List.map_cons, List.map_nil, strip]) ?_
      apply Run.by_eq
      · intro self
        conv => lhs; simp -implicitDefEqProofs (maxSteps := 300000) (disch := omega) [-getElem?_pos, -getElem?_neg, h34, h33]
      try (with_reducible refine Run.ret ?_)
      with_reducible repeat first|apply Z0|apply Z1|apply Z2|apply Z3|apply Z4|apply Z5|refine Z6 rfl ?_|apply Z7|apply Z8|apply Z9|apply Z10|apply Z11|apply Z12|apply Z13|apply Z14|apply Z15|apply Z16
      with_reducible repeat first|apply Z0|apply Z1|apply Z2|apply Z3|apply Z4|apply Z5|refine Z6 rfl ?_|apply Z7|apply Z8|apply Z9|apply Z10|apply Z11|apply Z12|apply Z13|apply Z14|apply Z15|apply Z16
      apply Cd.ite rfl
      · conv => lhs; simp -implicitDefEqProofs (maxSteps := 300000) (disch := omega) [-getElem?_pos, -getElem?_neg]
      all_goals intro c1
      all_goals try (cases c1; done)
      all_goals try simp only [Bool.not_eq_true', Bool.not_eq_false', decide_eq_true_eq, decide_eq_false_iff_not] at c1
      all_goals with_reducible repeat first|apply Z0|apply Z1|apply Z2|apply Z3|apply Z4|apply Z5|refine Z6 rfl ?_|apply Z7|apply Z8|apply Z9|apply Z10|apply Z11|apply Z12|apply Z13|apply Z14|apply Z15|apply Z16
      · with_reducible repeat first|apply Z0|apply Z1|apply Z2|apply Z3|apply Z4|apply Z5|refine Z6 rfl ?_|apply Z7|apply Z8|apply Z9|apply Z10|apply Z11|apply Z12|apply Z13|apply Z14|apply Z15|apply Z16
        refine Cd.reg (by kernel_rfl) (by conv => lhs; simp only [List.map_cons, List.map_nil]) (by conv => lhs; simp only [List.map_cons, List.map_nil, strip]) ?_
        apply Run.by_eq
        · intro self
          conv => lhs; simp -implicitDefEqProofs (maxSteps := 300000) (disch := omega) [-getElem?_pos, -getElem?_neg, h34, h32, ho, hc, ht, hlt]
        try (with_reducible refine Run.ret ?_)
        with_reducible repeat first|apply Z0|apply Z1|apply Z2|apply Z3|apply Z4|apply Z5|refine Z6 rfl ?_|apply Z7|apply Z8|apply Z9|apply Z10|apply Z11|apply Z12|apply Z13|apply Z14|apply Z15|apply Z16
        with_reducible repeat first|apply Z0|apply Z1|apply Z2|apply Z3|apply Z4|apply Z5|refine Z6 rfl ?_|apply Z7|apply Z8|apply Z9|apply Z10|apply Z11|apply Z12|apply Z13|apply Z14|apply Z15|apply Z16
        refine Cd.reg (by kernel_rfl) (by conv => lhs; simp only [List.map_cons, List.map_nil]) (by conv => lhs; simp only [List.map_cons, List.map_nil, strip]) ?_
        apply Run.by_eq
        · intro self
          conv => lhs; simp -implicitDefEqProofs (maxSteps := 300000) (disch := omega) [-getElem?_pos, -getElem?_neg]
        try (with_reducible refine Run.ret ?_)
        with_reducible repeat first|apply Z0|apply Z1|apply Z2|apply Z3|apply Z4|apply Z5|refine Z6 rfl ?_|apply Z7|apply Z8|apply Z9|apply Z10|apply Z11|apply Z12|apply Z13|apply Z14|apply Z15|apply Z16
        cases gm with
        | true =>
          have hput := hputK 1 m (by unfold closeAt; rfl)
          with_reducible repeat first|apply Z0|apply Z1|apply Z2|apply Z3|apply Z4|apply Z5|refine Z6 rfl ?_|apply Z7|apply Z8|apply Z9|apply Z10|apply Z11|apply Z12|apply Z13|apply Z14|apply Z15|apply Z16
          apply Cd.ite rfl
          · conv => lhs; simp -implicitDefEqProofs (maxSteps := 300000) (disch := omega) [-getElem?_pos, -getElem?_neg]
          all_goals intro c2
          all_goals try (cases c2; done)
          all_goals try simp only [Bool.not_eq_true', Bool.not_eq_false', decide_eq_true_eq, decide_eq_false_iff_not] at c2
          all_goals with_reducible repeat first|apply Z0|apply Z1|apply Z2|apply Z3|apply Z4|apply Z5|refine Z6 rfl ?_|apply Z7|apply Z8|apply Z9|apply Z10|apply Z11|apply Z12|apply Z13|apply Z14|apply Z15|apply Z16
          with_reducible repeat first|apply Z0|apply Z1|apply Z2|apply Z3|apply Z4|apply Z5|refine Z6 rfl ?_|apply Z7|apply Z8|apply Z9|apply Z10|apply Z11|apply Z12|apply Z13|apply Z14|apply Z15|apply Z16
          refine Cd.reg (by kernel_rfl) (by conv => lhs; simp only [List.map_cons, List.map_nil]) (by conv => lhs; simp only [List.map_cons, List.map_nil, strip]) ?_
          apply Run.by_eq
          · intro self
            conv => lhs; simp -implicitDefEqProofs (maxSteps := 300000) (disch := omega) [-getElem?_pos, -getElem?_neg, h8, hg, hlt, hput]
          try (with_reducible refine Run.ret ?_)
          with_reducible repeat first|apply Z0|apply Z1|apply Z2|apply Z3|apply Z4|apply Z5|refine Z6 rfl ?_|apply Z7|apply Z8|apply Z9|apply Z10|apply Z11|apply Z12|apply Z13|apply Z14|apply Z15|apply Z16
          with_reducible repeat first|apply Z0|apply Z1|apply Z2|apply Z3|apply Z4|apply Z5|refine Z6 rfl ?_|apply Z7|apply Z8|apply Z9|apply Z10|apply Z11|apply Z12|apply Z13|apply Z14|apply Z15|apply Z16
          refine Cd.reg (by kernel_rfl) (by conv => lhs; simp only [List.map_cons, List.map_nil]) (by conv => lhs; simp only [List.map_cons, List.map_nil, strip]) ?_
          apply Run.by_eq
          · intro self
            conv => lhs; simp -implicitDefEqProofs (maxSteps := 300000) (disch := omega) [-getElem?_pos, -getElem?_neg, h34]
          try (with_reducible refine Run.ret ?_)
          with_reducible repeat first|apply Z0|apply Z1|apply Z2|apply Z3|apply Z4|apply Z5|refine Z6 rfl ?_|apply Z7|apply Z8|apply Z9|apply Z10|apply Z11|apply Z12|apply Z13|apply Z14|apply Z15|apply Z16
          refine LoopK.nm (fs.length - (k + 1)) (by omega) ⟨k + 1, by omega, rfl, by simp [hm], by simp, by simp [h33], by simp [h32], by simp [h1], by simp [h2], by simp [h3], by simp [h7], by simp [h8], ⟨by (try simp only [pushed_next', upded_next']); omega, fun i hi => by simp -implicitDefEqProofs (disch := omega) [hkpb]⟩, by (try simp only [pushed_next', upded_next']); omega, by simp -implicitDefEqProofs (disch := omega)⟩
        | false =>
          with_reducible repeat first|apply Z0|apply Z1|apply Z2|apply Z3|apply Z4|apply Z5|refine Z6 rfl ?_|apply Z7|apply Z8|apply Z9|apply Z10|apply Z11|apply Z12|apply Z13|apply Z14|apply Z15|apply Z16
          apply Cd.ite rfl
          · conv => lhs; simp -implicitDefEqProofs (maxSteps := 300000) (disch := omega) [-getElem?_pos, -getElem?_neg]
          all_goals intro c2
          all_goals try (cases c2; done)
          all_goals try simp only [Bool.not_eq_true', Bool.not_eq_false', decide_eq_true_eq, decide_eq_false_iff_not] at c2
          all_goals with_reducible repeat first|apply Z0|apply Z1|apply Z2|apply Z3|apply Z4|apply Z5|refine Z6 rfl ?_|apply Z7|apply Z8|apply Z9|apply Z10|apply Z11|apply Z12|apply Z13|apply Z14|apply Z15|apply Z16
          have q1' := (hkpb s.next (by omega)).trans q1
          have ve : veq 4 (Value.slice (some ⟨b, off, none⟩) fs.length c) (Value.slice (some ⟨b, off, none⟩) fs.length c) = true := veq_slice _ _ _ _ _
          with_reducible repeat first|apply Z0|apply Z1|apply Z2|apply Z3|apply Z4|apply Z5|refine Z6 rfl ?_|apply Z7|apply Z8|apply Z9|apply Z10|apply Z11|apply Z12|apply Z13|apply Z14|apply Z15|apply Z16
          refine Cd.drawnH (pl := [(0, 0, false, false), (1, 0, false, false), (3, 0, false, false), (4, 8, false, false), (5, 0, false, false), (6, 32, false, false), (2, 3, true, false), (7, 127, true, false), (8, 255, false, false)]) [false, false, true, true, true, true, false, false, false] (by kernel_rfl) (by decide) (by decide) (by conv => lhs; simp only [List.map_cons, List.map_nil]) (by conv => lhs; simp [strip, orderedG, flagH]) ?_
          apply Run.by_eq
          · intro self
            conv => lhs; simp -implicitDefEqProofs (maxSteps := 300000) (disch := omega) [-getElem?_pos, -getElem?_neg, h1, q1', ve]
          try (with_reducible refine Run.ret ?_)
          with_reducible repeat first|apply Z0|apply Z1|apply Z2|apply Z3|apply Z4|apply Z5|refine Z6 rfl ?_|apply Z7|apply Z8|apply Z9|apply Z10|apply Z11|apply Z12|apply Z13|apply Z14|apply Z15|apply Z16
          refine Run.call ((joins_ev n k _ fs _ (hf3.keep ⟨by (try simp only [pushed_next', upded_next']); omega, fun i hi => by simp -implicitDefEqProofs (disch := omega) [hkpb]⟩) (by omega)).mono fun r w4 hv => ?_)
          obtain ⟨k4, hb4, es, rfl, hbs, hH, hF⟩ := hv
          have k4a := k4.1
          have k4b := k4.2
          try simp only [pushed_next', upded_next'] at k4a k4b hbs
          apply Run.by_eq
          · intro self
            conv => lhs; simp -implicitDefEqProofs (maxSteps := 300000) (disch := omega) [-getElem?_pos, -getElem?_neg, k4b, q1', ve]
          try (with_reducible refine Run.ret ?_)
          with_reducible repeat first|apply Z0|apply Z1|apply Z2|apply Z3|apply Z4|apply Z5|refine Z6 rfl ?_|apply Z7|apply Z8|apply Z9|apply Z10|apply Z11|apply Z12|apply Z13|apply Z14|apply Z15|apply Z16
          refine Run.call ((joined_ev hb4 es _ g0 g1 _ hH hF).mono fun v wy hv => ?_)
          obtain ⟨rfl, y⟩ := hv
          have ya := y.1
          have yb := y.2
          try simp only [pushed_next', upded_next'] at ya yb
          apply Run.by_eq
          · intro self
            conv => lhs; simp -implicitDefEqProofs (maxSteps := 300000) (disch := omega) [-getElem?_pos, -getElem?_neg, yb, k4b, q1', ve]
          try (with_reducible refine Run.ret ?_)
          with_reducible repeat first|apply Z0|apply Z1|apply Z2|apply Z3|apply Z4|apply Z5|refine Z6 rfl ?_|apply Z7|apply Z8|apply Z9|apply Z10|apply Z11|apply Z12|apply Z13|apply Z14|apply Z15|apply Z16
          by_cases hr : rtF k fs 0 id g0 = rtF k fs 0 id g1
          · have hput := hputK 3 Mass.zero (by unfold closeAt; rw [if_neg (by simp), if_pos (hlr.2 hr)])
            simp only [Mass.zero] at hput
            with_reducible repeat first|apply Z0|apply Z1|apply Z2|apply Z3|apply Z4|apply Z5|refine Z6 rfl ?_|apply Z7|apply Z8|apply Z9|apply Z10|apply Z11|apply Z12|apply Z13|apply Z14|apply Z15|apply Z16
            apply Cd.ite rfl
            · conv => lhs; simp -implicitDefEqProofs (maxSteps := 300000) (disch := omega) [-getElem?_pos, -getElem?_neg, hr]
            all_goals intro c3
            all_goals try (cases c3; done)
            all_goals try simp only [Bool.not_eq_true', Bool.not_eq_false', decide_eq_true_eq, decide_eq_false_iff_not] at c3
            all_goals with_reducible repeat first|apply Z0|apply Z1|apply Z2|apply Z3|apply Z4|apply Z5|refine Z6 rfl ?_|apply Z7|apply Z8|apply Z9|apply Z10|apply Z11|apply Z12|apply Z13|apply Z14|apply Z15|apply Z16
            with_reducible repeat first|apply Z0|apply Z1|apply Z2|apply Z3|apply Z4|apply Z5|refine Z6 rfl ?_|apply Z7|apply Z8|apply Z9|apply Z10|apply Z11|apply Z12|apply Z13|apply Z14|apply Z15|apply Z16
            refine Cd.reg (by kernel_rfl) (by conv => lhs; simp only [List.map_cons, List.map_nil]) (by conv => lhs; simp only [List.map_cons, List.map_nil, strip]) ?_
            apply Run.by_eq
            · intro self
              conv => lhs; simp -implicitDefEqProofs (maxSteps := 300000) (disch := omega) [-getElem?_pos, -getElem?_neg, h8, hg, hlt, hput, yb, k4b]
            try (with_reducible refine Run.ret ?_)
            with_reducible repeat first|apply Z0|apply Z1|apply Z2|apply Z3|apply Z4|apply Z5|refine Z6 rfl ?_|apply Z7|apply Z8|apply Z9|apply Z10|apply Z11|apply Z12|apply Z13|apply Z14|apply Z15|apply Z16
            with_reducible repeat first|apply Z0|apply Z1|apply Z2|apply Z3|apply Z4|apply Z5|refine Z6 rfl ?_|apply Z7|apply Z8|apply Z9|apply Z10|apply Z11|apply Z12|apply Z13|apply Z14|apply Z15|apply Z16
            refine Cd.reg (by kernel_rfl) (by conv => lhs; simp only [List.map_cons, List.map_nil]) (by conv => lhs; simp only [List.map_cons, List.map_nil, strip]) ?_
            apply Run.by_eq
            · intro self
              conv => lhs; simp -implicitDefEqProofs (maxSteps := 300000) (disch := omega) [-getElem?_pos, -getElem?_neg, h34]
            try (with_reducible refine Run.ret ?_)
            with_reducible repeat first|apply Z0|apply Z1|apply Z2|apply Z3|apply Z4|apply Z5|refine Z6 rfl ?_|apply Z7|apply Z8|apply Z9|apply Z10|apply Z11|apply Z12|apply Z13|apply Z14|apply Z15|apply Z16
            refine LoopK.nm (fs.length - (k + 1)) (by omega) ⟨k + 1, by omega, rfl, by simp [hm], by simp, by simp [h33], by simp [h32], by simp [h1], by simp [h2], by simp [h3], by simp [h7], by simp [h8], ⟨by (try simp only [pushed_next', upded_next']); omega, fun i hi => by simp -implicitDefEqProofs (disch := omega) [hkpb, yb, k4b]⟩, by (try simp only [pushed_next', upded_next']); omega, by simp -implicitDefEqProofs (disch := omega)⟩
          · have hput := hputK 2 (B k) (hfv rfl hr)
            have hβ4 := (hkpb β hβ2).trans hβ3
            have hget := balL_get B hlt
            unfold Mass.cs at hget
            with_reducible repeat first|apply Z0|apply Z1|apply Z2|apply Z3|apply Z4|apply Z5|refine Z6 rfl ?_|apply Z7|apply Z8|apply Z9|apply Z10|apply Z11|apply Z12|apply Z13|apply Z14|apply Z15|apply Z16
            apply Cd.ite rfl
            · conv => lhs; simp -implicitDefEqProofs (maxSteps := 300000) (disch := omega) [-getElem?_pos, -getElem?_neg, hr]
            all_goals intro c3
            all_goals try (cases c3; done)
            all_goals try simp only [Bool.not_eq_true', Bool.not_eq_false', decide_eq_true_eq, decide_eq_false_iff_not] at c3
            all_goals with_reducible repeat first|apply Z0|apply Z1|apply Z2|apply Z3|apply Z4|apply Z5|refine Z6 rfl ?_|apply Z7|apply Z8|apply Z9|apply Z10|apply Z11|apply Z12|apply Z13|apply Z14|apply Z15|apply Z16
            with_reducible repeat first|apply Z0|apply Z1|apply Z2|apply Z3|apply Z4|apply Z5|refine Z6 rfl ?_|apply Z7|apply Z8|apply Z9|apply Z10|apply Z11|apply Z12|apply Z13|apply Z14|apply Z15|apply Z16
            refine Cd.reg (by kernel_rfl) (by conv => lhs; simp only [List.map_cons, List.map_nil]) (by conv => lhs; simp only [List.map_cons, List.map_nil, strip]) ?_
            apply Run.by_eq
            · intro self
              conv => lhs; simp -implicitDefEqProofs (maxSteps := 300000) (disch := omega) [-getElem?_pos, -getElem?_neg, h7, h8, hg, hβ4, hget, hlt, hput, yb, k4b]
            try (with_reducible refine Run.ret ?_)
            with_reducible repeat first|apply Z0|apply Z1|apply Z2|apply Z3|apply Z4|apply Z5|refine Z6 rfl ?_|apply Z7|apply Z8|apply Z9|apply Z10|apply Z11|apply Z12|apply Z13|apply Z14|apply Z15|apply Z16
            with_reducible repeat first|apply Z0|apply Z1|apply Z2|apply Z3|apply Z4|apply Z5|refine Z6 rfl ?_|apply Z7|apply Z8|apply Z9|apply Z10|apply Z11|apply Z12|apply Z13|apply Z14|apply Z15|apply Z16
            refine Cd.reg (by kernel_rfl) (by conv => lhs; simp only [List.map_cons, List.map_nil]) (by conv => lhs; simp only [List.map_cons, List.map_nil, strip]) ?_
            apply Run.by_eq
            · intro self
              conv => lhs; simp -implicitDefEqProofs (maxSteps := 300000) (disch := omega) [-getElem?_pos, -getElem?_neg, h34]
            try (with_reducible refine Run.ret ?_)
            with_reducible repeat first|apply Z0|apply Z1|apply Z2|apply Z3|apply Z4|apply Z5|refine Z6 rfl ?_|apply Z7|apply Z8|apply Z9|apply Z10|apply Z11|apply Z12|apply Z13|apply Z14|apply Z15|apply Z16
            refine LoopK.nm (fs.length - (k + 1)) (by omega) ⟨k + 1, by omega, rfl, by simp [hm], by simp, by simp [h33], by simp [h32], by simp [h1], by simp [h2], by simp [h3], by simp [h7], by simp [h8], ⟨by (try simp only [pushed_next', upded_next']); omega, fun i hi => by simp -implicitDefEqProofs (disch := omega) [hkpb, yb, k4b]⟩, by (try simp only [pushed_next', upded_next']); omega, by simp -implicitDefEqProofs (disch := omega)⟩
      · simp at c1; omega
    · obtain rfl : k = fs.length := by omega
      with_reducible repeat first|apply Z0|apply Z1|apply Z2|apply Z3|apply Z4|apply Z5|refine Z6 rfl ?_|apply Z7|apply Z8|apply Z9|apply Z10|apply Z11|apply Z12|apply Z13|apply Z14|apply Z15|apply Z16
      refine Cd.reg (by kernel_rfl) (by conv => lhs; simp only [List.map_cons, List.map_nil]) (by conv => lhs; simp only [List.map_cons, List.map_nil, strip]) ?_
      apply Run.by_eq
      · intro self
        conv => lhs; simp -implicitDefEqProofs (maxSteps := 300000) (disch := omega) [-getElem?_pos, -getElem?_neg, h34, h33]
      try (with_reducible refine Run.ret ?_)
      with_reducible repeat first|apply Z0|apply Z1|apply Z2|apply Z3|apply Z4|apply Z5|refine Z6 rfl ?_|apply Z7|apply Z8|apply Z9|apply Z10|apply Z11|apply Z12|apply Z13|apply Z14|apply Z15|apply Z16
      with_reducible repeat first|apply Z0|apply Z1|apply Z2|apply Z3|apply Z4|apply Z5|refine Z6 rfl ?_|apply Z7|apply Z8|apply Z9|apply Z10|apply Z11|apply Z12|apply Z13|apply Z14|apply Z15|apply Z16
      apply Cd.ite rfl
      · conv => lhs; simp -implicitDefEqProofs (maxSteps := 300000) (disch := omega) [-getElem?_pos, -getElem?_neg]
      all_goals intro c1
      all_goals try (cases c1; done)
      all_goals try simp only [Bool.not_eq_true', Bool.not_eq_false', decide_eq_true_eq, decide_eq_false_iff_not] at c1
      all_goals with_reducible repeat first|apply Z0|apply Z1|apply Z2|apply Z3|apply Z4|apply Z5|refine Z6 rfl ?_|apply Z7|apply Z8|apply Z9|apply Z10|apply Z11|apply Z12|apply Z13|apply Z14|apply Z15|apply Z16
      have q2' := (hkpb (s.next + 1) (by omega)).trans q2
      have q3' := (hkpb (s.next + 1 + 1) (by omega)).trans q3
      have q5' := (hkpb w1.next (by omega)).trans q5
      with_reducible repeat first|apply Z0|apply Z1|apply Z2|apply Z3|apply Z4|apply Z5|refine Z6 rfl ?_|apply Z7|apply Z8|apply Z9|apply Z10|apply Z11|apply Z12|apply Z13|apply Z14|apply Z15|apply Z16
      refine Cd.reg (by kernel_rfl) (by conv => lhs; simp only [List.map_cons, List.map_nil]) (by conv => lhs; simp only [List.map_cons, List.map_nil, strip]) ?_
      apply Run.by_eq
      · intro self
        conv => lhs; simp -implicitDefEqProofs (maxSteps := 300000) (disch := omega) [-getElem?_pos, -getElem?_neg, h2, h3, h8, q2', q3']
      try (with_reducible refine Run.ret ?_)
      with_reducible repeat first|apply Z0|apply Z1|apply Z2|apply Z3|apply Z4|apply Z5|refine Z6 rfl ?_|apply Z7|apply Z8|apply Z9|apply Z10|apply Z11|apply Z12|apply Z13|apply Z14|apply Z15|apply Z16
      apply Leave.one (m := w1.next) (by first | exact .inl rfl | exact .inr rfl) (by simp only [Fr.marks_put, hm])
      · simp -implicitDefEqProofs (disch := omega) [q5']
      · conv => lhs; simp -implicitDefEqProofs (disch := omega) [Try.results24, h2, h3]
      refine ⟨⟨by (try simp only [upded_next']); omega, fun i hi => ?_⟩, _, rfl, ?_⟩
      · simp -implicitDefEqProofs (disch := omega)
        exact (hkpb i (by omega)).trans (hold3 i hi)
      have hfl : flatG (knG fs n fs.length) fs.length = flatG (fun j => (closeF fs n j).cs) fs.length := flatG_congr fun j hj => by unfold knG; rw [if_pos hj]
      rw [hfl] at hg
      rw [List.map_map]
      exact sl_of_flat (o := none) (g := fun j => (closeF fs n j).cs) (by (try simp only [upded_next']); omega) (fun j => rfl) (by simp -implicitDefEqProofs (disch := omega) [hg])
  · refine ⟨_, b0, .inr (.inl ⟨rfl, ?_⟩)⟩
    with_reducible repeat first|apply Z0|apply Z1|apply Z2|apply Z3|apply Z4|apply Z5|refine Z6 rfl ?_|apply Z7|apply Z8
    apply Leave.one (m := w1.next) (by first | exact .inl rfl | exact .inr rfl) (by simp only [Fr.marks_put, fr0_marks])
    · simp -implicitDefEqProofs (disch := omega) [b1]
    · conv => lhs; simp -implicitDefEqProofs (disch := omega) [Try.results24, Fr.get_mk, b3, b4]
    have hce' : closeErr n fs = 12 := by rw [hce, provF_at hz (by omega) (by omega) hp]
    have hck' : closeKs n fs = [] := by unfold closeKs; rw [hce', if_neg (by decide)]
    rw [hce', hck']
    exact ⟨⟨by (try simp only [upded_next']); omega, fun i hi => by simp -implicitDefEqProofs (disch := omega) [hold]⟩, _, rfl, .nil 0⟩
end Go.Proofs.Ytifkpaomhnlahaa
namespace Go.Proofs.Ytifkpaomhnlahaa
open Go Kern
section
variable {T : Tab} {self : Self} {ds : List (Option Tmp)} {f : Fr} {s : St} {pend : List DRec}
@[simp] theorem stepD_nil : stepD T self ds [] pend f s = gd (pend.all (recD T self ds s)) (some (f, s)) := rfl
@[simp] theorem stepD_heavy (i m : Nat) (nw : Bool) (o : SOp) (r : List (Nat × Nat × Bool × Bool × SOp)) : stepD T self ds ((i, m, true, nw, o) :: r) pend f s = gd (pend.all (recD T self ds s)) (ob (itemD T self ds o f s) fun p => stepD T self ds r (pend.filter fun q => !m.testBit q.idx) (f.put o.d p.1) p.2) := rfl
@[simp] theorem stepD_light (i m : Nat) (nw : Bool) (o : SOp) (r : List (Nat × Nat × Bool × Bool × SOp)) : stepD T self ds ((i, m, false, nw, o) :: r) pend f s = ob (itemD T self ds o f s) fun p => stepD T self ds r (⟨i, nw, o, f, p.1, s.next⟩ :: pend) (f.put o.d p.1) p.2 := rfl
theorem filter_bt {α : Type} (p : α → Bool) (x : α) (l : List α) : (x :: l).filter p = bt (p x) (x :: l.filter p) (l.filter p) := by
  rw [List.filter_cons]; cases p x <;> rfl
@[simp] theorem recD_plain (i : Nat) (nw : Bool) (d : Option Tmp) (op : Op) (v : Value) (a : Nat) : recD T self ds s ⟨i, nw, ⟨d, op, none⟩, f, v, a⟩ = bt nw (objEq (s.heap.get a) (Kern.newObj T op f)) (valEq (actO T self op f s) v) := rfl
@[simp] theorem recD_guard (i : Nat) (nw : Bool) (d : Option Tmp) (op : Op) (j : Nat) (b : Bool) (v : Value) (a : Nat) : recD T self ds s ⟨i, nw, ⟨d, op, some (j, b)⟩, f, v, a⟩ = bt (guardO b f ds[j]?) (bt nw (objEq (s.heap.get a) (Kern.newObj T op f)) (valEq (actO T self op f s) v)) true := rfl
@[simp] theorem objEq_some (a b : AObj) : objEq (some a) (some b) = oeq a b := rfl
@[simp] theorem oeq_cells (c c' : List Value) : oeq (.cells c none) (.cells c' none) = (listEq (veq 5) c c' && true) := rfl
theorem newObj_buildSlice (t : TypeId) (len : Nat) (pl0 : Array (Nat × Operand)) {z : Value} {e : TypeId} {n : Nat} (h1 : T.und t = some (.slice e)) (h2 : T.size e = some n) (h3 : T.zero e = some z) (h4 : (Nat.beq (lenL z.cells.toList) n && Nat.ble (len * n) 16777216) = true) :
    Kern.newObj T (.buildSlice t len pl0) f = ob (fillL f.eval (placesA n pl0.toList) (repeatL z.cells.toList len)) fun c => some (.cells c none) := by
  have h : compOp T (.buildSlice t len pl0) = some (.new fun ρ => ob (fillL ρ (placesA n pl0.toList) (repeatL z.cells.toList len)) fun c => some (.cells c none, fun i => .slice (some ⟨i, 0, none⟩) len len)) := by
    show ob (T.und t) _ = _
    rw [h1]
    show ob (T.size e) (fun n => ob (T.zero e) _) = _
    rw [h2]
    show ob (T.zero e) _ = _
    rw [h3]
    show gd _ _ = _
    rw [h4]; rfl
  unfold Kern.newObj
  rw [h]
  show Option.map (·.1) (ob (fillL f.eval (placesA n pl0.toList) (repeatL z.cells.toList len)) fun c => some (AObj.cells c none, fun i => Value.slice (some ⟨i, 0, none⟩) len len)) = _
  cases fillL f.eval (placesA n pl0.toList) (repeatL z.cells.toList len) <;> rfl
end
@[simp] theorem newObj_50 {f : Fr} {pl0 : Array (Nat × Operand)} : Kern.newObj TT (.buildSlice 50 1 pl0) f = ob (fillL f.eval (placesA 5 pl0.toList) (repeatL [.int .i64 0, .int .i64 0, .int .i64 0, .int .i64 0, .int .i64 0] 1)) fun c => some (.cells c none) :=
  newObj_buildSlice 50 1 pl0 und_50 size_56 zero_56 rfl
end Go.Proofs.Ytifkpaomhnlahaa
namespace Go.Proofs.Ytifkpaomhnlahaa
open Go Kern
/-- Rows of cells that are gathered, in a block of their own. -/
def OwnG (n N : Nat) (s : St) (w : Value) (l : List (List Value)) : Prop :=
  (l = [] ∧ w = .slice none 0 0) ∨ ∃ b, w = .slice (some ⟨b, 0, none⟩) l.length l.length ∧ l ≠ [] ∧ N ≤ b ∧ b < s.next ∧ s.heap.get b = some (.cells l.flatten (some n))
theorem OwnG.sl {n N : Nat} {s : St} {w : Value} {l : List (List Value)} (h : OwnG n N s w l) (hn : ∀ x ∈ l, x.length = n) : SlAt n s w l := by
  rcases h with ⟨rfl, rfl⟩ | ⟨b, rfl, hne, h1, h2, h3⟩
  · exact .nil 0
  · exact sl_of_cells h2 hn h3
def knL (fs : List FlowD) (n k : Nat) : List (List Value) := (List.range k).map fun j => (closeF fs n j).cs
theorem knL_succ (fs : List FlowD) (n k : Nat) : knL fs n (k + 1) = knL fs n k ++ [(closeF fs n k).cs] := by
  unfold knL; rw [List.range_succ, List.map_append]; rfl
theorem knL_length (fs : List FlowD) (n k : Nat) : (knL fs n k).length = k := by simp [knL]
theorem knL_flat (fs : List FlowD) (n : Nat) : ∀ k, (knL fs n k).flatten.length = k * 5
  | 0 => rfl
  | k + 1 => by
    rw [knL_succ, List.flatten_append, List.length_append, knL_flat fs n k]
    simp [KnownD.cs]; omega
theorem OwnG.step {N k : Nat} {s s' : St} {fs : List FlowD} {n b : Nat} {kd : KnownD} (hcl : closeF fs n k = kd) (h2 : s.next ≤ b) (hN : N ≤ s.next) (h3 : b < s'.next) (h : s'.heap.get b = some (.cells ((knL fs n k).flatten ++ kd.cs) (some 5))) :
    OwnG 5 N s' (.slice (some ⟨b, 0, none⟩) (k + 1) (k + 1)) (knL fs n (k + 1)) := by
  refine .inr ⟨b, by rw [knL_length], by rw [knL_succ]; simp, by omega, h3, ?_⟩
  rw [h, knL_succ, hcl]; simp
theorem clash_none {n : Nat} {fs : List FlowD} : (clashR n fs).1 = [] ↔ provF (rtF (-1) fs 0 id) fs n n 0 = none := by
  unfold clashR
  cases hp : provF (rtF (-1) fs 0 id) fs n n 0 with
  | none => simp
  | some p =>
    have hne : p.1 ≠ [] := by
      obtain ⟨k, hk, hat⟩ := provF_some hp
      unfold provAt at hat
      split at hat
      · cases hz : nzK (excM (clsN (rtF (-1) fs 0 id) k n) fs) with
        | none => rw [hz] at hat; cases hat
        | some j => rw [hz] at hat; cases hat; exact cls_self _ (by omega)
      · cases hat
    simp [hne]
set_option maxRecDepth 100000 in
set_option maxHeartbeats 4000000 in
theorem refClose_ev (u : Int) (v : Value) (fs : List FlowD) (s : St) (hf : FlAt s v fs) (hl : fs.length ≤ 1000000) :
    Ev TT 25 [plantV u v] s fun r s' => Keep s s' ∧ ∃ w, r = .tuple #[w, .int .i64 (closeErr u fs)] ∧ SlAt 5 s' w ((closeKs u fs).map KnownD.cs) := by
  obtain ⟨a, c, rfl⟩ := hf.shape
  rw [List.length_map] at hf ⊢
  unfold plantV
  refine Ev.intro (fn := Try.f25) rfl (by kernel_rfl) rfl rfl ?_
  with_reducible repeat first|apply Z0|apply Z1|apply Z2|apply Z3|apply Z4|apply Z5|refine Z6 rfl ?_|apply Z7|apply Z8|apply Z9|apply Z10|apply Z11|apply Z12|apply Z13|apply Z14|apply Z15|apply Z16
  with_reducible repeat first|apply Z0|apply Z1|apply Z2|apply Z3|apply Z4|apply Z5|refine Z6 rfl ?_|apply Z7|apply Z8|apply Z9|apply Z10|apply Z11|apply Z12|apply Z13|apply Z14|apply Z15|apply Z16
  refine Cd.reg (by kernel_rfl) (by conv => lhs; simp only [List.map_cons, List.map_nil]) (by conv => lhs; simp only [List.map_cons, List.map_nil, strip]) ?_
  apply Run.by_eq
  · intro self
    conv => lhs; simp -implicitDefEqProofs (maxSteps := 300000) (disch := omega) [-getElem?_pos, -getElem?_neg]
  try (with_reducible refine Run.ret ?_)
  with_reducible repeat first|apply Z0|apply Z1|apply Z2|apply Z3|apply Z4|apply Z5|refine Z6 rfl ?_|apply Z7|apply Z8|apply Z9|apply Z10|apply Z11|apply Z12|apply Z13|apply Z14|apply Z15|apply Z16
  with_reducible repeat first|apply Z0|apply Z1|apply Z2|apply Z3|apply Z4|apply Z5|refine Z6 rfl ?_|apply Z7|apply Z8|apply Z9|apply Z10|apply Z11|apply Z12|apply Z13|apply Z14|apply Z15|apply Z16
  refine Cd.reg (by kernel_rfl) (by conv => lhs; simp only [List.map_cons, List.map_nil]) (by conv => lhs; simp only [List.map_cons, List.map_nil, strip]) ?_
  apply Run.by_eq
  · intro self
    conv => lhs; simp -implicitDefEqProofs (maxSteps := 300000) (disch := omega) [-getElem?_pos, -getElem?_neg]
  try (with_reducible refine Run.ret ?_)
  with_reducible repeat first|apply Z0|apply Z1|apply Z2|apply Z3|apply Z4|apply Z5|refine Z6 rfl ?_|apply Z7|apply Z8|apply Z9|apply Z10|apply Z11|apply Z12|apply Z13|apply Z14|apply Z15|apply Z16
  refine Run.call ((refCheck_ev u _ fs _ (hf.keep ⟨by (try simp only [pushed_next', upded_next']); omega, fun i hi => by simp -implicitDefEqProofs (disch := omega) []⟩) hl).mono fun v wq hv => ?_)
  obtain ⟨rfl, q⟩ := hv
  have qa := q.1
  have qb := q.2
  try simp only [pushed_next', upded_next'] at qa qb
  apply Run.by_eq
  · intro self
    conv => lhs; simp -implicitDefEqProofs (maxSteps := 300000) (disch := omega) [-getElem?_pos, -getElem?_neg]
  try (with_reducible refine Run.ret ?_)
  with_reducible repeat first|apply Z0|apply Z1|apply Z2|apply Z3|apply Z4|apply Z5|refine Z6 rfl ?_|apply Z7|apply Z8|apply Z9|apply Z10|apply Z11|apply Z12|apply Z13|apply Z14|apply Z15|apply Z16
  with_reducible repeat first|apply Z0|apply Z1|apply Z2|apply Z3|apply Z4|apply Z5|refine Z6 rfl ?_|apply Z7|apply Z8|apply Z9|apply Z10|apply Z11|apply Z12|apply Z13|apply Z14|apply Z15|apply Z16
  refine Cd.reg (by kernel_rfl) (by conv => lhs; simp only [List.map_cons, List.map_nil]) (by conv => lhs; simp only [List.map_cons, List.map_nil, strip]) ?_
  apply Run.by_eq
  · intro self
    conv => lhs; simp -implicitDefEqProofs (maxSteps := 300000) (disch := omega) [-getElem?_pos, -getElem?_neg]
  try (with_reducible refine Run.ret ?_)
  with_reducible repeat first|apply Z0|apply Z1|apply Z2|apply Z3|apply Z4|apply Z5|refine Z6 rfl ?_|apply Z7|apply Z8|apply Z9|apply Z10|apply Z11|apply Z12|apply Z13|apply Z14|apply Z15|apply Z16
  with_reducible repeat first|apply Z0|apply Z1|apply Z2|apply Z3|apply Z4|apply Z5|refine Z6 rfl ?_|apply Z7|apply Z8|apply Z9|apply Z10|apply Z11|apply Z12|apply Z13|apply Z14|apply Z15|apply Z16
  apply Cd.ite rfl
  · conv => lhs; simp -implicitDefEqProofs (maxSteps := 300000) (disch := omega) [-getElem?_pos, -getElem?_neg]
  all_goals intro c0
  all_goals try (cases c0; done)
  all_goals try simp only [Bool.not_eq_true', Bool.not_eq_false', decide_eq_true_eq, decide_eq_false_iff_not] at c0
  all_goals with_reducible repeat first|apply Z0|apply Z1|apply Z2|apply Z3|apply Z4|apply Z5|refine Z6 rfl ?_|apply Z7|apply Z8|apply Z9|apply Z10|apply Z11|apply Z12|apply Z13|apply Z14|apply Z15|apply Z16
  · with_reducible repeat first|apply Z0|apply Z1|apply Z2|apply Z3|apply Z4|apply Z5|refine Z6 rfl ?_|apply Z7|apply Z8|apply Z9|apply Z10|apply Z11|apply Z12|apply Z13|apply Z14|apply Z15|apply Z16
    refine Cd.reg (by kernel_rfl) (by conv => lhs; simp only [List.map_cons, List.map_nil]) (by conv => lhs; simp only [List.map_cons, List.map_nil, strip]) ?_
    apply Run.by_eq
    · intro self
      conv => lhs; simp -implicitDefEqProofs (maxSteps := 300000) (disch := omega) [-getElem?_pos, -getElem?_neg]
    try (with_reducible refine Run.ret ?_)
    with_reducible repeat first|apply Z0|apply Z1|apply Z2|apply Z3|apply Z4|apply Z5|refine Z6 rfl ?_|apply Z7|apply Z8|apply Z9|apply Z10|apply Z11|apply Z12|apply Z13|apply Z14|apply Z15|apply Z16
    apply Leave.mk (by first | exact .inl rfl | exact .inr rfl) (by simp only [Fr.marks_put, fr0_marks])
    · conv => lhs; simp -implicitDefEqProofs (disch := omega) [Try.results25]
    have hce : closeErr u fs = checkErr u fs := by unfold closeErr; rw [if_pos c0]
    have hck : closeKs u fs = [] := by unfold closeKs; rw [if_neg (by rw [hce]; exact c0)]
    rw [hce, hck]
    exact ⟨⟨by (try simp only [pushed_next', upded_next']); omega, fun i hi => by simp -implicitDefEqProofs (disch := omega) [qb]⟩, _, rfl, .nil 0⟩
  have hck : checkErr u fs = 0 := c0
  obtain ⟨hu1, hu2, hl20, _⟩ := checkErr_ok hck
  have hends := ends_in hck
  obtain ⟨n, hn⟩ : ∃ n : Nat, u = n := ⟨u.toNat, by omega⟩
  subst hn
  have hn8 : n ≤ 8 := by omega
  have hce : closeErr n fs = match provF (rtF (-1) fs 0 id) fs n n 0 with | some _ => 12 | none => 0 := by unfold closeErr; rw [if_neg (by simp [hck])]; rfl
  with_reducible repeat first|apply Z0|apply Z1|apply Z2|apply Z3|apply Z4|apply Z5|refine Z6 rfl ?_|apply Z7|apply Z8|apply Z9|apply Z10|apply Z11|apply Z12|apply Z13|apply Z14|apply Z15|apply Z16
  refine Cd.reg (by kernel_rfl) (by conv => lhs; simp only [List.map_cons, List.map_nil]) (by conv => lhs; simp only [List.map_cons, List.map_nil, strip]) ?_
  apply Run.by_eq
  · intro self
    conv => lhs; simp -implicitDefEqProofs (maxSteps := 300000) (disch := omega) [-getElem?_pos, -getElem?_neg, qb]
  try (with_reducible refine Run.ret ?_)
  with_reducible repeat first|apply Z0|apply Z1|apply Z2|apply Z3|apply Z4|apply Z5|refine Z6 rfl ?_|apply Z7|apply Z8|apply Z9|apply Z10|apply Z11|apply Z12|apply Z13|apply Z14|apply Z15|apply Z16
  refine Run.call ((clash_ev n _ fs _ (hf.keep ⟨by (try simp only [pushed_next', upded_next']); omega, fun i hi => by simp -implicitDefEqProofs (disch := omega) [qb]⟩) hck).mono fun r w2 hv => ?_)
  obtain ⟨k2, wv, rfl, hw⟩ := hv
  have k2a := k2.1
  have k2b := k2.2
  have hcn := clash_none (n := n) (fs := fs)
  generalize clashR n fs = cr at hw hcn ⊢
  obtain ⟨cl, ck⟩ := cr
  simp only [] at hw hcn
  obtain ⟨a2, c2, rfl⟩ := hw.shape
  rw [List.length_map] at hw ⊢
  apply Run.by_eq
  · intro self
    conv => lhs; simp -implicitDefEqProofs (maxSteps := 300000) (disch := omega) [-getElem?_pos, -getElem?_neg]
  try (with_reducible refine Run.ret ?_)
  with_reducible repeat first|apply Z0|apply Z1|apply Z2|apply Z3|apply Z4|apply Z5|refine Z6 rfl ?_|apply Z7|apply Z8|apply Z9|apply Z10|apply Z11|apply Z12|apply Z13|apply Z14|apply Z15|apply Z16
  cases hp : provF (rtF (-1) fs 0 id) fs n n 0 with
  | some p =>
    rw [hp] at hce hcn
    have hcl : cl ≠ [] := fun h => by simp [h] at hcn
    have hlen : 0 < cl.length := List.length_pos_iff.2 hcl
    with_reducible repeat first|apply Z0|apply Z1|apply Z2|apply Z3|apply Z4|apply Z5|refine Z6 rfl ?_|apply Z7|apply Z8|apply Z9|apply Z10|apply Z11|apply Z12|apply Z13|apply Z14|apply Z15|apply Z16
    refine Cd.reg (by kernel_rfl) (by conv => lhs; simp only [List.map_cons, List.map_nil]) (by conv => lhs; simp only [List.map_cons, List.map_nil, strip]) ?_
    apply Run.by_eq
    · intro self
      conv => lhs; simp -implicitDefEqProofs (maxSteps := 300000) (disch := omega) [-getElem?_pos, -getElem?_neg, hlen]
    try (with_reducible refine Run.ret ?_)
    with_reducible repeat first|apply Z0|apply Z1|apply Z2|apply Z3|apply Z4|apply Z5|refine Z6 rfl ?_|apply Z7|apply Z8|apply Z9|apply Z10|apply Z11|apply Z12|apply Z13|apply Z14|apply Z15|apply Z16
    with_reducible repeat first|apply Z0|apply Z1|apply Z2|apply Z3|apply Z4|apply Z5|refine Z6 rfl ?_|apply Z7|apply Z8|apply Z9|apply Z10|apply Z11|apply Z12|apply Z13|apply Z14|apply Z15|apply Z16
    apply Cd.ite rfl
    · conv => lhs; simp -implicitDefEqProofs (maxSteps := 300000) (disch := omega) [-getElem?_pos, -getElem?_neg]
    all_goals intro c1
    all_goals try (cases c1; done)
    all_goals try simp only [Bool.not_eq_true', Bool.not_eq_false', decide_eq_true_eq, decide_eq_false_iff_not] at c1
    all_goals with_reducible repeat first|apply Z0|apply Z1|apply Z2|apply Z3|apply Z4|apply Z5|refine Z6 rfl ?_|apply Z7|apply Z8|apply Z9|apply Z10|apply Z11|apply Z12|apply Z13|apply Z14|apply Z15|apply Z16
    with_reducible repeat first|apply Z0|apply Z1|apply Z2|apply Z3|apply Z4|apply Z5|refine Z6 rfl ?_|apply Z7|apply Z8|apply Z9|apply Z10|apply Z11|apply Z12|apply Z13|apply Z14|apply Z15|apply Z16
    refine Cd.reg (by kernel_rfl) (by conv => lhs; simp only [List.map_cons, List.map_nil]) (by conv => lhs; simp only [List.map_cons, List.map_nil, strip]) ?_
    apply Run.by_eq
    · intro self
      conv => lhs; simp -implicitDefEqProofs (maxSteps := 300000) (disch := omega) [-getElem?_pos, -getElem?_neg]
    try (with_reducible refine Run.ret ?_)
    with_reducible repeat first|apply Z0|apply Z1|apply Z2|apply Z3|apply Z4|apply Z5|refine Z6 rfl ?_|apply Z7|apply Z8|apply Z9|apply Z10|apply Z11|apply Z12|apply Z13|apply Z14|apply Z15|apply Z16
    apply Leave.mk (by first | exact .inl rfl | exact .inr rfl) (by simp only [Fr.marks_put, fr0_marks])
    · conv => lhs; simp -implicitDefEqProofs (disch := omega) [Try.results25]
    have hce12 : closeErr n fs = 12 := hce
    have hck' : closeKs n fs = [] := by unfold closeKs; rw [if_neg (by rw [hce12]; decide)]
    rw [hce12, hck']
    exact ⟨⟨by omega, fun i hi => by rw [k2b i (by omega)]; simp -implicitDefEqProofs (disch := omega) [qb]⟩, _, rfl, .nil 0⟩
  | none =>
  rw [hp] at hce hcn
  have hcl : cl = [] := hcn.2 rfl
  have hck' : closeKs n fs = (List.range fs.length).map (closeF fs n) := by unfold closeKs; rw [if_pos hce]; rfl
  rw [hce, hck']
  subst hcl
  have h9 := checkErr_le9 hck
  have hold2 : ∀ i, i < s.next → w2.heap.get i = s.heap.get i := fun i hi => by rw [k2b i (by omega)]; simp -implicitDefEqProofs (disch := omega) [qb]
  have hp2 : w2.heap.get s.next = some (.cells [.int .i64 n, .slice a fs.length c] none) := by rw [k2b _ (by omega)]; simp -implicitDefEqProofs (disch := omega) [qb]
  have hf2 := hf.keep (s' := w2) ⟨by omega, hold2⟩
  with_reducible repeat first|apply Z0|apply Z1|apply Z2|apply Z3|apply Z4|apply Z5|refine Z6 rfl ?_|apply Z7|apply Z8|apply Z9|apply Z10|apply Z11|apply Z12|apply Z13|apply Z14|apply Z15|apply Z16
  refine Cd.reg (by kernel_rfl) (by conv => lhs; simp only [List.map_cons, List.map_nil]) (by conv => lhs; simp only [List.map_cons, List.map_nil, strip]) ?_
  apply Run.by_eq
  · intro self
    conv => lhs; simp -implicitDefEqProofs (maxSteps := 300000) (disch := omega) [-getElem?_pos, -getElem?_neg]
  try (with_reducible refine Run.ret ?_)
  with_reducible repeat first|apply Z0|apply Z1|apply Z2|apply Z3|apply Z4|apply Z5|refine Z6 rfl ?_|apply Z7|apply Z8|apply Z9|apply Z10|apply Z11|apply Z12|apply Z13|apply Z14|apply Z15|apply Z16
  with_reducible repeat first|apply Z0|apply Z1|apply Z2|apply Z3|apply Z4|apply Z5|refine Z6 rfl ?_|apply Z7|apply Z8|apply Z9|apply Z10|apply Z11|apply Z12|apply Z13|apply Z14|apply Z15|apply Z16
  apply Cd.ite rfl
  · conv => lhs; simp -implicitDefEqProofs (maxSteps := 300000) (disch := omega) [-getElem?_pos, -getElem?_neg]
  all_goals intro c1
  all_goals try (cases c1; done)
  all_goals try simp only [Bool.not_eq_true', Bool.not_eq_false', decide_eq_true_eq, decide_eq_false_iff_not] at c1
  all_goals with_reducible repeat first|apply Z0|apply Z1|apply Z2|apply Z3|apply Z4|apply Z5|refine Z6 rfl ?_|apply Z7|apply Z8|apply Z9|apply Z10|apply Z11|apply Z12|apply Z13|apply Z14|apply Z15|apply Z16
  with_reducible repeat first|apply Z0|apply Z1|apply Z2|apply Z3|apply Z4|apply Z5|refine Z6 rfl ?_|apply Z7|apply Z8|apply Z9|apply Z10|apply Z11|apply Z12|apply Z13|apply Z14|apply Z15|apply Z16
  refine Cd.reg (by kernel_rfl) (by conv => lhs; simp only [List.map_cons, List.map_nil]) (by conv => lhs; simp only [List.map_cons, List.map_nil, strip]) ?_
  apply Run.by_eq
  · intro self
    conv => lhs; simp -implicitDefEqProofs (maxSteps := 300000) (disch := omega) [-getElem?_pos, -getElem?_neg]
  try (with_reducible refine Run.ret ?_)
  with_reducible repeat first|apply Z0|apply Z1|apply Z2|apply Z3|apply Z4|apply Z5|refine Z6 rfl ?_|apply Z7|apply Z8|apply Z9|apply Z10|apply Z11|apply Z12|apply Z13|apply Z14|apply Z15|apply Z16
  with_reducible repeat first|apply Z0|apply Z1|apply Z2|apply Z3|apply Z4|apply Z5|refine Z6 rfl ?_|apply Z7|apply Z8|apply Z9|apply Z10|apply Z11|apply Z12|apply Z13|apply Z14|apply Z15|apply Z16
  refine Cd.reg (by kernel_rfl) (by conv => lhs; simp only [List.map_cons, List.map_nil]) (by conv => lhs; simp only [List.map_cons, List.map_nil, strip]) ?_
  apply Run.by_eq
  · intro self
    conv => lhs; simp -implicitDefEqProofs (maxSteps := 300000) (disch := omega) [-getElem?_pos, -getElem?_neg]
  try (with_reducible refine Run.ret ?_)
  with_reducible repeat first|apply Z0|apply Z1|apply Z2|apply Z3|apply Z4|apply Z5|refine Z6 rfl ?_|apply Z7|apply Z8|apply Z9|apply Z10|apply Z11|apply Z12|apply Z13|apply Z14|apply Z15|apply Z16
  refine Cd.inv (fun z f s' => ∃ k : Nat, k ≤ fs.length ∧ z = fs.length - k ∧ f.marks = [] ∧ f.get 8 = .int .i64 k ∧ f.get 1 = .pointer (some ⟨s.next, 0, none⟩) ∧ Keep w2 s' ∧ OwnG 5 w2.next s' (f.get 7) (knL fs n k)) fs.length ?_ ?_
  · exact ⟨0, by omega, rfl, by simp, by simp, by simp, Keep.refl _, .inl ⟨rfl, by simp⟩⟩
  rintro z f s' ⟨k, hk, rfl, hm, h8, h1, hkp, hU⟩
  have hkpa := hkp.1
  have hkpb := hkp.2
  have hg0 := (hkpb s.next (by omega)).trans hp2
  by_cases hlt : k < fs.length
  · obtain ⟨g, hg⟩ : ∃ g, fs[k]? = some g := ⟨fs[k], by simp [hlt]⟩
    obtain ⟨hV1, hV2⟩ := hends g (List.mem_of_getElem? hg)
    have hcf : closeF fs n k = closeAt fs n k g := by unfold closeF; rw [hg]
    obtain ⟨b, off, o, cs, gg, rfl, hb, ho, hc, ht⟩ := FlAt.at (hf2.keep hkp) hg
    have hfl5 := knL_flat fs n k
    have hkl := knL_length fs n k
    obtain ⟨g0, g1, gm, m⟩ := g
    rw [FlowD.cs] at ht
    simp only [] at ht hV1 hV2
    with_reducible repeat first|apply Z0|apply Z1|apply Z2|apply Z3|apply Z4|apply Z5|refine Z6 rfl ?_|apply Z7|apply Z8|apply Z9|apply Z10|apply Z11|apply Z12|apply Z13|apply Z14|apply Z15|apply Z16
    refine Cd.reg (by kernel_rfl) (by conv => lhs; simp only [List.map_cons, List.map_nil]) (by conv => lhs; simp only [List.map_cons, List.map_nil, strip]) ?_
    apply Run.by_eq
    · intro self
      conv => lhs; simp -implicitDefEqProofs (maxSteps := 300000) (disch := omega) [-getElem?_pos, -getElem?_neg, h8, h1, hg0]
    try (with_reducible refine Run.ret ?_)
    with_reducible repeat first|apply Z0|apply Z1|apply Z2|apply Z3|apply Z4|apply Z5|refine Z6 rfl ?_|apply Z7|apply Z8|apply Z9|apply Z10|apply Z11|apply Z12|apply Z13|apply Z14|apply Z15|apply Z16
    with_reducible repeat first|apply Z0|apply Z1|apply Z2|apply Z3|apply Z4|apply Z5|refine Z6 rfl ?_|apply Z7|apply Z8|apply Z9|apply Z10|apply Z11|apply Z12|apply Z13|apply Z14|apply Z15|apply Z16
    apply Cd.ite rfl
    · conv => lhs; simp -implicitDefEqProofs (maxSteps := 300000) (disch := omega) [-getElem?_pos, -getElem?_neg]
    all_goals intro c2
    all_goals try (cases c2; done)
    all_goals try simp only [Bool.not_eq_true', Bool.not_eq_false', decide_eq_true_eq, decide_eq_false_iff_not] at c2
    all_goals with_reducible repeat first|apply Z0|apply Z1|apply Z2|apply Z3|apply Z4|apply Z5|refine Z6 rfl ?_|apply Z7|apply Z8|apply Z9|apply Z10|apply Z11|apply Z12|apply Z13|apply Z14|apply Z15|apply Z16
    · with_reducible repeat first|apply Z0|apply Z1|apply Z2|apply Z3|apply Z4|apply Z5|refine Z6 rfl ?_|apply Z7|apply Z8|apply Z9|apply Z10|apply Z11|apply Z12|apply Z13|apply Z14|apply Z15|apply Z16
      refine Cd.reg (by kernel_rfl) (by conv => lhs; simp only [List.map_cons, List.map_nil]) (by conv => lhs; simp only [List.map_cons, List.map_nil, strip]) ?_
      apply Run.by_eq
      · intro self
        conv => lhs; simp -implicitDefEqProofs (maxSteps := 300000) (disch := omega) [-getElem?_pos, -getElem?_neg, h8, h1, hg0, ho, hc, ht, hlt]
      try (with_reducible refine Run.ret ?_)
      with_reducible repeat first|apply Z0|apply Z1|apply Z2|apply Z3|apply Z4|apply Z5|refine Z6 rfl ?_|apply Z7|apply Z8|apply Z9|apply Z10|apply Z11|apply Z12|apply Z13|apply Z14|apply Z15|apply Z16
      with_reducible repeat first|apply Z0|apply Z1|apply Z2|apply Z3|apply Z4|apply Z5|refine Z6 rfl ?_|apply Z7|apply Z8|apply Z9|apply Z10|apply Z11|apply Z12|apply Z13|apply Z14|apply Z15|apply Z16
      refine Cd.reg (by kernel_rfl) (by conv => lhs; simp only [List.map_cons, List.map_nil]) (by conv => lhs; simp only [List.map_cons, List.map_nil, strip]) ?_
      apply Run.by_eq
      · intro self
        conv => lhs; simp -implicitDefEqProofs (maxSteps := 300000) (disch := omega) [-getElem?_pos, -getElem?_neg]
      try (with_reducible refine Run.ret ?_)
      with_reducible repeat first|apply Z0|apply Z1|apply Z2|apply Z3|apply Z4|apply Z5|refine Z6 rfl ?_|apply Z7|apply Z8|apply Z9|apply Z10|apply Z11|apply Z12|apply Z13|apply Z14|apply Z15|apply Z16
      cases gm with
      | true =>
        have hk1 : closeF fs n k = ⟨1, m⟩ := by rw [hcf]; unfold closeAt; rfl
        with_reducible repeat first|apply Z0|apply Z1|apply Z2|apply Z3|apply Z4|apply Z5|refine Z6 rfl ?_|apply Z7|apply Z8|apply Z9|apply Z10|apply Z11|apply Z12|apply Z13|apply Z14|apply Z15|apply Z16
        apply Cd.ite rfl
        · conv => lhs; simp -implicitDefEqProofs (maxSteps := 300000) (disch := omega) [-getElem?_pos, -getElem?_neg]
        all_goals intro c3
        all_goals try (cases c3; done)
        all_goals try simp only [Bool.not_eq_true', Bool.not_eq_false', decide_eq_true_eq, decide_eq_false_iff_not] at c3
        all_goals with_reducible repeat first|apply Z0|apply Z1|apply Z2|apply Z3|apply Z4|apply Z5|refine Z6 rfl ?_|apply Z7|apply Z8|apply Z9|apply Z10|apply Z11|apply Z12|apply Z13|apply Z14|apply Z15|apply Z16
        rcases hU with ⟨hce0, hw0⟩ | ⟨bu, hw0, hne0, hb1, hb2, hb3⟩
        · have k0 : k = 0 := by rw [hce0] at hkl; exact hkl.symm
          subst k0
          with_reducible repeat first|apply Z0|apply Z1|apply Z2|apply Z3|apply Z4|apply Z5|refine Z6 rfl ?_|apply Z7|apply Z8|apply Z9|apply Z10|apply Z11|apply Z12|apply Z13|apply Z14|apply Z15|apply Z16
          refine Cd.reg (by kernel_rfl) (by conv => lhs; simp only [List.map_cons, List.map_nil]) (by conv => lhs; simp only [List.map_cons, List.map_nil, strip]) ?_
          apply Run.by_eq
          · intro self
            conv => lhs; simp -implicitDefEqProofs (maxSteps := 300000) (disch := omega) [-getElem?_pos, -getElem?_neg, hw0]
          try (with_reducible refine Run.ret ?_)
          with_reducible repeat first|apply Z0|apply Z1|apply Z2|apply Z3|apply Z4|apply Z5|refine Z6 rfl ?_|apply Z7|apply Z8|apply Z9|apply Z10|apply Z11|apply Z12|apply Z13|apply Z14|apply Z15|apply Z16
          with_reducible repeat first|apply Z0|apply Z1|apply Z2|apply Z3|apply Z4|apply Z5|refine Z6 rfl ?_|apply Z7|apply Z8|apply Z9|apply Z10|apply Z11|apply Z12|apply Z13|apply Z14|apply Z15|apply Z16
          refine Cd.reg (by kernel_rfl) (by conv => lhs; simp only [List.map_cons, List.map_nil]) (by conv => lhs; simp only [List.map_cons, List.map_nil, strip]) ?_
          apply Run.by_eq
          · intro self
            conv => lhs; simp -implicitDefEqProofs (maxSteps := 300000) (disch := omega) [-getElem?_pos, -getElem?_neg, h8]
          try (with_reducible refine Run.ret ?_)
          with_reducible repeat first|apply Z0|apply Z1|apply Z2|apply Z3|apply Z4|apply Z5|refine Z6 rfl ?_|apply Z7|apply Z8|apply Z9|apply Z10|apply Z11|apply Z12|apply Z13|apply Z14|apply Z15|apply Z16
          refine LoopK.nm (fs.length - (0 + 1)) (by omega) ⟨0 + 1, by omega, rfl, by simp [hm], by simp, by simp [h1], ⟨by (try simp only [pushed_next', upded_next']); omega, fun i hi => by simp -implicitDefEqProofs (disch := omega) [hkpb]⟩, ?_⟩
          rw [knL_succ, hk1, hce0]
          exact .inr ⟨s'.next + 1 + 1, by simp, by simp, by omega, by simp, by simp -implicitDefEqProofs (disch := omega) [KnownD.cs]⟩
        · rw [hkl] at hw0
          with_reducible repeat first|apply Z0|apply Z1|apply Z2|apply Z3|apply Z4|apply Z5|refine Z6 rfl ?_|apply Z7|apply Z8|apply Z9|apply Z10|apply Z11|apply Z12|apply Z13|apply Z14|apply Z15|apply Z16
          refine Cd.reg (by kernel_rfl) (by conv => lhs; simp only [List.map_cons, List.map_nil]) (by conv => lhs; simp only [List.map_cons, List.map_nil, strip]) ?_
          apply Run.by_eq
          · intro self
            conv => lhs; simp -implicitDefEqProofs (maxSteps := 300000) (disch := omega) [-getElem?_pos, -getElem?_neg, hw0]
          try (with_reducible refine Run.ret ?_)
          with_reducible repeat first|apply Z0|apply Z1|apply Z2|apply Z3|apply Z4|apply Z5|refine Z6 rfl ?_|apply Z7|apply Z8|apply Z9|apply Z10|apply Z11|apply Z12|apply Z13|apply Z14|apply Z15|apply Z16
          apply Run.by_eq
          · intro self
            rw [appV_moreE (size := 5) (n := k) (old := (knL fs n k).flatten) ?happ1 hfl5 (by omega)]
            simp -implicitDefEqProofs (disch := omega) [hb3]
          apply Run.by_eq
          · intro self
            conv => lhs; simp -implicitDefEqProofs (maxSteps := 300000) (disch := omega) [-getElem?_pos, -getElem?_neg, hb3]
          try (with_reducible refine Run.ret ?_)
          with_reducible repeat first|apply Z0|apply Z1|apply Z2|apply Z3|apply Z4|apply Z5|refine Z6 rfl ?_|apply Z7|apply Z8|apply Z9|apply Z10|apply Z11|apply Z12|apply Z13|apply Z14|apply Z15|apply Z16
          with_reducible repeat first|apply Z0|apply Z1|apply Z2|apply Z3|apply Z4|apply Z5|refine Z6 rfl ?_|apply Z7|apply Z8|apply Z9|apply Z10|apply Z11|apply Z12|apply Z13|apply Z14|apply Z15|apply Z16
          refine Cd.reg (by kernel_rfl) (by conv => lhs; simp only [List.map_cons, List.map_nil]) (by conv => lhs; simp only [List.map_cons, List.map_nil, strip]) ?_
          apply Run.by_eq
          · intro self
            conv => lhs; simp -implicitDefEqProofs (maxSteps := 300000) (disch := omega) [-getElem?_pos, -getElem?_neg, h8]
          try (with_reducible refine Run.ret ?_)
          with_reducible repeat first|apply Z0|apply Z1|apply Z2|apply Z3|apply Z4|apply Z5|refine Z6 rfl ?_|apply Z7|apply Z8|apply Z9|apply Z10|apply Z11|apply Z12|apply Z13|apply Z14|apply Z15|apply Z16
          refine LoopK.nm (fs.length - (k + 1)) (by omega) ⟨k + 1, by omega, rfl, by simp [hm], by simp, by simp [h1], ⟨by (try simp only [pushed_next', upded_next']); omega, fun i hi => by simp -implicitDefEqProofs (disch := omega) [hkpb]⟩, ?_⟩
          rw [knL_succ, hk1]
          exact .inr ⟨s'.next + 1 + 1, by simp [hkl], by simp, by omega, by simp, by simp -implicitDefEqProofs (disch := omega) [KnownD.cs]⟩
      | false =>
        with_reducible repeat first|apply Z0|apply Z1|apply Z2|apply Z3|apply Z4|apply Z5|refine Z6 rfl ?_|apply Z7|apply Z8|apply Z9|apply Z10|apply Z11|apply Z12|apply Z13|apply Z14|apply Z15|apply Z16
        apply Cd.ite rfl
        · conv => lhs; simp -implicitDefEqProofs (maxSteps := 300000) (disch := omega) [-getElem?_pos, -getElem?_neg]
        all_goals intro c3
        all_goals try (cases c3; done)
        all_goals try simp only [Bool.not_eq_true', Bool.not_eq_false', decide_eq_true_eq, decide_eq_false_iff_not] at c3
        all_goals with_reducible repeat first|apply Z0|apply Z1|apply Z2|apply Z3|apply Z4|apply Z5|refine Z6 rfl ?_|apply Z7|apply Z8|apply Z9|apply Z10|apply Z11|apply Z12|apply Z13|apply Z14|apply Z15|apply Z16
        with_reducible repeat first|apply Z0|apply Z1|apply Z2|apply Z3|apply Z4|apply Z5|refine Z6 rfl ?_|apply Z7|apply Z8|apply Z9|apply Z10|apply Z11|apply Z12|apply Z13|apply Z14|apply Z15|apply Z16
        refine Cd.reg (by kernel_rfl) (by conv => lhs; simp only [List.map_cons, List.map_nil]) (by conv => lhs; simp only [List.map_cons, List.map_nil, strip]) ?_
        apply Run.by_eq
        · intro self
          conv => lhs; simp -implicitDefEqProofs (maxSteps := 300000) (disch := omega) [-getElem?_pos, -getElem?_neg, h1, hg0, h8]
        try (with_reducible refine Run.ret ?_)
        with_reducible repeat first|apply Z0|apply Z1|apply Z2|apply Z3|apply Z4|apply Z5|refine Z6 rfl ?_|apply Z7|apply Z8|apply Z9|apply Z10|apply Z11|apply Z12|apply Z13|apply Z14|apply Z15|apply Z16
        refine Run.call ((refJoined_ev n k _ fs _ hn8 (hf2.keep ⟨by (try simp only [pushed_next', upded_next']); omega, fun i hi => by simp -implicitDefEqProofs (disch := omega) [hkpb]⟩) (by omega) hends).mono fun hs w4 hv => ?_)
        obtain ⟨k4, hI⟩ := hv
        have k4a := k4.1
        have k4b := k4.2
        try simp only [pushed_next', upded_next'] at k4a k4b
        obtain ⟨a4, c4, rfl⟩ := hI.shape
        rw [List.length_map, List.length_map, List.length_range] at hI ⊢
        have hat : ∀ x : Int, -1 ≤ x → x < n → ((List.range (n + 1)).map (labF k fs 0 fun x => (x : Int)))[(x + 1).toNat]? = some (labE fs k x) := fun x h1 h2 => by
          rw [List.getElem?_map, List.getElem?_range (by omega)]; rfl
        obtain ⟨b4, o4, ob4, cs4, gg4, rfl, hb4, ho4, hc4, ht0⟩ := IntsAt.at hI (hat g0 hV1.1 hV1.2)
        obtain ⟨b5, o5, ob5, cs5, gg5, e5, hb5, ho5, hc5, ht1⟩ := IntsAt.at hI (hat g1 hV2.1 hV2.2)
        cases e5
        rw [ho4] at ho5; cases ho5
        rw [hc4] at hc5; cases hc5
        have n0 := natOf_pos .i64 (show 0 ≤ g0 + 1 by omega)
        have n1 := natOf_pos .i64 (show 0 ≤ g1 + 1 by omega)
        have hl0 : (g0 + 1).toNat < n + 1 := by omega
        have hl1 : (g1 + 1).toNat < n + 1 := by omega
        have ve4 : veq 5 (Value.slice (some ⟨b4, o4, none⟩) (n + 1) c4) (Value.slice (some ⟨b4, o4, none⟩) (n + 1) c4) = true := veq_slice _ _ _ _ _
        have hCA : closeAt fs n k ⟨g0, g1, false, m⟩ = if labE fs k g0 = labE fs k g1 then ⟨3, Mass.zero⟩ else if labE fs k g0 ≠ 0 then ⟨2, excM (sideL (labF k fs 0 (fun x => (x : Int))) n (labE fs k g0)) fs⟩ else ⟨2, Mass.zero.sub (excM (sideL (labF k fs 0 (fun x => (x : Int))) n (labE fs k g1)) fs)⟩ := by
          unfold closeAt; rfl
        generalize labE fs k g0 = hA at ht0 hCA
        generalize labE fs k g1 = hB at ht1 hCA
        generalize labF k fs 0 (fun x => (x : Int)) = L at hI hCA hat
        apply Run.by_eq
        · intro self
          conv => lhs; simp -implicitDefEqProofs (maxSteps := 300000) (disch := omega) [-getElem?_pos, -getElem?_neg]
        try (with_reducible refine Run.ret ?_)
        with_reducible repeat first|apply Z0|apply Z1|apply Z2|apply Z3|apply Z4|apply Z5|refine Z6 rfl ?_|apply Z7|apply Z8|apply Z9|apply Z10|apply Z11|apply Z12|apply Z13|apply Z14|apply Z15|apply Z16
        with_reducible repeat first|apply Z0|apply Z1|apply Z2|apply Z3|apply Z4|apply Z5|refine Z6 rfl ?_|apply Z7|apply Z8|apply Z9|apply Z10|apply Z11|apply Z12|apply Z13|apply Z14|apply Z15|apply Z16
        refine Cd.drawnH (pl := [(0, 0, false, false), (1, 0, false, false), (2, 2, false, false), (3, 6, false, false), (4, 15, false, false), (5, 31, false, false), (6, 0, false, false), (7, 0, false, false), (8, 128, false, false), (9, 384, false, false), (10, 960, false, false), (11, 1984, false, false), (12, 63, false, false), (13, 8191, false, false)]) [false, false, false, false, false, false, false, false, false, false, false, false, false, false] (by kernel_rfl) (by decide) (by decide) (by conv => lhs; simp only [List.map_cons, List.map_nil]) (by conv => lhs; simp [strip, orderedG, flagH]) ?_
        apply Run.by_eq
        · intro self
          conv => lhs; simp -implicitDefEqProofs (maxSteps := 300000) (disch := omega) [-getElem?_pos, -getElem?_neg, k4b, ho4, hc4, ht0, ht1, n0, n1, hl0, hl1, ve4]
        try (with_reducible refine Run.ret ?_)
        with_reducible repeat first|apply Z0|apply Z1|apply Z2|apply Z3|apply Z4|apply Z5|refine Z6 rfl ?_|apply Z7|apply Z8|apply Z9|apply Z10|apply Z11|apply Z12|apply Z13|apply Z14|apply Z15|apply Z16
        with_reducible repeat first|apply Z0|apply Z1|apply Z2|apply Z3|apply Z4|apply Z5|refine Z6 rfl ?_|apply Z7|apply Z8|apply Z9|apply Z10|apply Z11|apply Z12|apply Z13|apply Z14|apply Z15|apply Z16
        refine Cd.reg (by kernel_rfl) (by conv => lhs; simp only [List.map_cons, List.map_nil]) (by conv => lhs; simp only [List.map_cons, List.map_nil, strip]) ?_
        apply Run.by_eq
        · intro self
          conv => lhs; simp -implicitDefEqProofs (maxSteps := 300000) (disch := omega) [-getElem?_pos, -getElem?_neg]
        try (with_reducible refine Run.ret ?_)
        with_reducible repeat first|apply Z0|apply Z1|apply Z2|apply Z3|apply Z4|apply Z5|refine Z6 rfl ?_|apply Z7|apply Z8|apply Z9|apply Z10|apply Z11|apply Z12|apply Z13|apply Z14|apply Z15|apply Z16
        by_cases hAB : hA = hB
        · have hk1 : closeF fs n k = ⟨3, Mass.zero⟩ := by rw [hcf, hCA, if_pos hAB]
          with_reducible repeat first|apply Z0|apply Z1|apply Z2|apply Z3|apply Z4|apply Z5|refine Z6 rfl ?_|apply Z7|apply Z8|apply Z9|apply Z10|apply Z11|apply Z12|apply Z13|apply Z14|apply Z15|apply Z16
          apply Cd.ite rfl
          · conv => lhs; simp -implicitDefEqProofs (maxSteps := 300000) (disch := omega) [-getElem?_pos, -getElem?_neg, hAB]
          all_goals intro c4
          all_goals try (cases c4; done)
          all_goals try simp only [Bool.not_eq_true', Bool.not_eq_false', decide_eq_true_eq, decide_eq_false_iff_not] at c4
          all_goals with_reducible repeat first|apply Z0|apply Z1|apply Z2|apply Z3|apply Z4|apply Z5|refine Z6 rfl ?_|apply Z7|apply Z8|apply Z9|apply Z10|apply Z11|apply Z12|apply Z13|apply Z14|apply Z15|apply Z16
          rcases hU with ⟨hce0, hw0⟩ | ⟨bu, hw0, hne0, hb1, hb2, hb3⟩
          · have k0 : k = 0 := by rw [hce0] at hkl; exact hkl.symm
            subst k0
            with_reducible repeat first|apply Z0|apply Z1|apply Z2|apply Z3|apply Z4|apply Z5|refine Z6 rfl ?_|apply Z7|apply Z8|apply Z9|apply Z10|apply Z11|apply Z12|apply Z13|apply Z14|apply Z15|apply Z16
            refine Cd.reg (by kernel_rfl) (by conv => lhs; simp only [List.map_cons, List.map_nil]) (by conv => lhs; simp only [List.map_cons, List.map_nil, strip]) ?_
            apply Run.by_eq
            · intro self
              conv => lhs; simp -implicitDefEqProofs (maxSteps := 300000) (disch := omega) [-getElem?_pos, -getElem?_neg, hw0]
            try (with_reducible refine Run.ret ?_)
            with_reducible repeat first|apply Z0|apply Z1|apply Z2|apply Z3|apply Z4|apply Z5|refine Z6 rfl ?_|apply Z7|apply Z8|apply Z9|apply Z10|apply Z11|apply Z12|apply Z13|apply Z14|apply Z15|apply Z16
            with_reducible repeat first|apply Z0|apply Z1|apply Z2|apply Z3|apply Z4|apply Z5|refine Z6 rfl ?_|apply Z7|apply Z8|apply Z9|apply Z10|apply Z11|apply Z12|apply Z13|apply Z14|apply Z15|apply Z16
            refine Cd.reg (by kernel_rfl) (by conv => lhs; simp only [List.map_cons, List.map_nil]) (by conv => lhs; simp only [List.map_cons, List.map_nil, strip]) ?_
            apply Run.by_eq
            · intro self
              conv => lhs; simp -implicitDefEqProofs (maxSteps := 300000) (disch := omega) [-getElem?_pos, -getElem?_neg, h8]
            try (with_reducible refine Run.ret ?_)
            with_reducible repeat first|apply Z0|apply Z1|apply Z2|apply Z3|apply Z4|apply Z5|refine Z6 rfl ?_|apply Z7|apply Z8|apply Z9|apply Z10|apply Z11|apply Z12|apply Z13|apply Z14|apply Z15|apply Z16
            refine LoopK.nm (fs.length - (0 + 1)) (by omega) ⟨0 + 1, by omega, rfl, by simp [hm], by simp, by simp [h1], ⟨by (try simp only [pushed_next', upded_next']); omega, fun i hi => by simp -implicitDefEqProofs (disch := omega) [k4b, hkpb]⟩, ?_⟩
            rw [knL_succ, hk1, hce0]
            exact .inr ⟨w4.next + 1, by simp, by simp, by omega, by simp, by simp -implicitDefEqProofs (disch := omega) [KnownD.cs, Mass.zero]⟩
          · rw [hkl] at hw0
            with_reducible repeat first|apply Z0|apply Z1|apply Z2|apply Z3|apply Z4|apply Z5|refine Z6 rfl ?_|apply Z7|apply Z8|apply Z9|apply Z10|apply Z11|apply Z12|apply Z13|apply Z14|apply Z15|apply Z16
            refine Cd.reg (by kernel_rfl) (by conv => lhs; simp only [List.map_cons, List.map_nil]) (by conv => lhs; simp only [List.map_cons, List.map_nil, strip]) ?_
            apply Run.by_eq
            · intro self
              conv => lhs; simp -implicitDefEqProofs (maxSteps := 300000) (disch := omega) [-getElem?_pos, -getElem?_neg, hw0]
            try (with_reducible refine Run.ret ?_)
            with_reducible repeat first|apply Z0|apply Z1|apply Z2|apply Z3|apply Z4|apply Z5|refine Z6 rfl ?_|apply Z7|apply Z8|apply Z9|apply Z10|apply Z11|apply Z12|apply Z13|apply Z14|apply Z15|apply Z16
            apply Run.by_eq
            · intro self
              rw [appV_moreE (size := 5) (n := k) (old := (knL fs n k).flatten) ?happ2 hfl5 (by omega)]
              simp -implicitDefEqProofs (disch := omega) [k4b, hb3]
            apply Run.by_eq
            · intro self
              conv => lhs; simp -implicitDefEqProofs (maxSteps := 300000) (disch := omega) [-getElem?_pos, -getElem?_neg, k4b, hb3]
            try (with_reducible refine Run.ret ?_)
            with_reducible repeat first|apply Z0|apply Z1|apply Z2|apply Z3|apply Z4|apply Z5|refine Z6 rfl ?_|apply Z7|apply Z8|apply Z9|apply Z10|apply Z11|apply Z12|apply Z13|apply Z14|apply Z15|apply Z16
            with_reducible repeat first|apply Z0|apply Z1|apply Z2|apply Z3|apply Z4|apply Z5|refine Z6 rfl ?_|apply Z7|apply Z8|apply Z9|apply Z10|apply Z11|apply Z12|apply Z13|apply Z14|apply Z15|apply Z16
            refine Cd.reg (by kernel_rfl) (by conv => lhs; simp only [List.map_cons, List.map_nil]) (by conv => lhs; simp only [List.map_cons, List.map_nil, strip]) ?_
            apply Run.by_eq
            · intro self
              conv => lhs; simp -implicitDefEqProofs (maxSteps := 300000) (disch := omega) [-getElem?_pos, -getElem?_neg, h8]
            try (with_reducible refine Run.ret ?_)
            with_reducible repeat first|apply Z0|apply Z1|apply Z2|apply Z3|apply Z4|apply Z5|refine Z6 rfl ?_|apply Z7|apply Z8|apply Z9|apply Z10|apply Z11|apply Z12|apply Z13|apply Z14|apply Z15|apply Z16
            refine LoopK.nm (fs.length - (k + 1)) (by omega) ⟨k + 1, by omega, rfl, by simp [hm], by simp, by simp [h1], ⟨by (try simp only [pushed_next', upded_next']); omega, fun i hi => by simp -implicitDefEqProofs (disch := omega) [k4b, hkpb]⟩, ?_⟩
            rw [knL_succ, hk1]
            exact .inr ⟨w4.next + 1, by simp [hkl], by simp, by omega, by simp, by simp -implicitDefEqProofs (disch := omega) [KnownD.cs, Mass.zero]⟩
        · with_reducible repeat first|apply Z0|apply Z1|apply Z2|apply Z3|apply Z4|apply Z5|refine Z6 rfl ?_|apply Z7|apply Z8|apply Z9|apply Z10|apply Z11|apply Z12|apply Z13|apply Z14|apply Z15|apply Z16
          apply Cd.ite rfl
          · conv => lhs; simp -implicitDefEqProofs (maxSteps := 300000) (disch := omega) [-getElem?_pos, -getElem?_neg, hAB]
          all_goals intro c4
          all_goals try (cases c4; done)
          all_goals try simp only [Bool.not_eq_true', Bool.not_eq_false', decide_eq_true_eq, decide_eq_false_iff_not] at c4
          all_goals with_reducible repeat first|apply Z0|apply Z1|apply Z2|apply Z3|apply Z4|apply Z5|refine Z6 rfl ?_|apply Z7|apply Z8|apply Z9|apply Z10|apply Z11|apply Z12|apply Z13|apply Z14|apply Z15|apply Z16
          with_reducible repeat first|apply Z0|apply Z1|apply Z2|apply Z3|apply Z4|apply Z5|refine Z6 rfl ?_|apply Z7|apply Z8|apply Z9|apply Z10|apply Z11|apply Z12|apply Z13|apply Z14|apply Z15|apply Z16
          refine Cd.reg (by kernel_rfl) (by conv => lhs; simp only [List.map_cons, List.map_nil]) (by conv => lhs; simp only [List.map_cons, List.map_nil, strip]) ?_
          apply Run.by_eq
          · intro self
            conv => lhs; simp -implicitDefEqProofs (maxSteps := 300000) (disch := omega) [-getElem?_pos, -getElem?_neg]
          try (with_reducible refine Run.ret ?_)
          with_reducible repeat first|apply Z0|apply Z1|apply Z2|apply Z3|apply Z4|apply Z5|refine Z6 rfl ?_|apply Z7|apply Z8|apply Z9|apply Z10|apply Z11|apply Z12|apply Z13|apply Z14|apply Z15|apply Z16
          by_cases hA0 : hA = 0
          · skip
            have hk1 : closeF fs n k = ⟨2, Mass.zero.sub (excM (sideL L n hB) fs)⟩ := by rw [hcf, hCA, if_neg hAB, if_neg (by simp [hA0])]
            have hmxl := exc_le (xs := sideL L n hB) (by omega) h9 hl20
            generalize hmx : excM (sideL L n hB) fs = mx at hk1 hmxl
            with_reducible repeat first|apply Z0|apply Z1|apply Z2|apply Z3|apply Z4|apply Z5|refine Z6 rfl ?_|apply Z7|apply Z8|apply Z9|apply Z10|apply Z11|apply Z12|apply Z13|apply Z14|apply Z15|apply Z16
            apply Cd.ite rfl
            · conv => lhs; simp -implicitDefEqProofs (maxSteps := 300000) (disch := omega) [-getElem?_pos, -getElem?_neg, hA0]
            all_goals intro c5
            all_goals try (cases c5; done)
            all_goals try simp only [Bool.not_eq_true', Bool.not_eq_false', decide_eq_true_eq, decide_eq_false_iff_not] at c5
            all_goals with_reducible repeat first|apply Z0|apply Z1|apply Z2|apply Z3|apply Z4|apply Z5|refine Z6 rfl ?_|apply Z7|apply Z8|apply Z9|apply Z10|apply Z11|apply Z12|apply Z13|apply Z14|apply Z15|apply Z16
            have ve3 : veq 4 (Value.slice (some ⟨b, off, none⟩) fs.length c) (Value.slice (some ⟨b, off, none⟩) fs.length c) = true := veq_slice _ _ _ _ _
            rcases hU with ⟨hce0, hw0⟩ | ⟨bu, hw0, hne0, hb1, hb2, hb3⟩
            · have k0 : k = 0 := by rw [hce0] at hkl; exact hkl.symm
              subst k0
              with_reducible repeat first|apply Z0|apply Z1|apply Z2|apply Z3|apply Z4|apply Z5|refine Z6 rfl ?_|apply Z7|apply Z8|apply Z9|apply Z10|apply Z11|apply Z12|apply Z13|apply Z14|apply Z15|apply Z16
              refine Cd.drawn (pl := [(0, 0, false, false), (1, 0, false, false), (2, 0, false, false), (3, 0, false, false), (4, 0, false, false), (5, 24, true, false), (6, 60, true, false), (7, 126, true, false), (8, 254, false, false), (9, 510, false, true), (10, 1023, true, false), (11, 2047, false, false)]) (by kernel_rfl) (by conv => lhs; simp only [List.map_cons, List.map_nil]) (by conv => lhs; simp [strip, ordered]) ?_
              apply Run.by_eq
              · intro self
                conv => lhs; simp -implicitDefEqProofs (maxSteps := 300000) (disch := omega) [filter_bt, Nat.testBit_eq_decide_div_mod_eq, -getElem?_pos, -getElem?_neg, hw0, h1, k4b, hg0, ve3, ve4]
              try (with_reducible refine Run.ret ?_)
              with_reducible repeat first|apply Z0|apply Z1|apply Z2|apply Z3|apply Z4|apply Z5|refine Z6 rfl ?_|apply Z7|apply Z8|apply Z9|apply Z10|apply Z11|apply Z12|apply Z13|apply Z14|apply Z15|apply Z16
              refine Run.call ((side_ev _ _ hB _ hI (by simp; omega)).mono fun sv w5 hv => ?_)
              obtain ⟨k5, hB5⟩ := hv
              have k5a := k5.1
              have k5b := k5.2
              obtain ⟨a5, c5, rfl⟩ := hB5.shape
              rw [List.length_map, List.length_map, List.length_map, List.length_range] at hB5 ⊢
              apply Run.by_eq
              · intro self
                conv => lhs; simp -implicitDefEqProofs (maxSteps := 300000) (disch := omega) [-getElem?_pos, -getElem?_neg, k5b, k4b, hg0, ve3, ve4]
              try (with_reducible refine Run.ret ?_)
              with_reducible repeat first|apply Z0|apply Z1|apply Z2|apply Z3|apply Z4|apply Z5|refine Z6 rfl ?_|apply Z7|apply Z8|apply Z9|apply Z10|apply Z11|apply Z12|apply Z13|apply Z14|apply Z15|apply Z16
              refine Run.call ((refExcess_ev n _ _ fs (sideL L n hB) _ _ (hf2.keep ⟨by (try simp only [pushed_next', upded_next']); omega, fun i hi => by simp -implicitDefEqProofs (disch := omega) [k5b, k4b, hkpb]⟩) hB5 (by omega) (checkErr_le hck) (fun f hf => by have := hends f hf; simp; omega) (fun x h1 h2 => side_get h1 (by simp at h2; omega)) (by simp; omega)).mono fun v wy hv => ?_)
              obtain ⟨rfl, y⟩ := hv
              have ya := y.1
              have yb := y.2
              try simp only [pushed_next', upded_next'] at ya yb
              rw [hmx]
              apply Run.by_eq
              · intro self
                conv => lhs; simp -implicitDefEqProofs (maxSteps := 300000) (disch := omega) [-getElem?_pos, -getElem?_neg, Mass.v, yb, k5b, k4b, hg0, ve3, ve4]
              try (with_reducible refine Run.ret ?_)
              with_reducible repeat first|apply Z0|apply Z1|apply Z2|apply Z3|apply Z4|apply Z5|refine Z6 rfl ?_|apply Z7|apply Z8|apply Z9|apply Z10|apply Z11|apply Z12|apply Z13|apply Z14|apply Z15|apply Z16
              refine Run.call ((addT_ev Mass.zero mx (-1) _ ((Mass.tim_le hmxl).mono (by omega)) (by rw [Mass.add_tim]; exact (Mass.le_neg hmxl).mono (by omega))).mono fun v wz hv => ?_)
              obtain ⟨rfl, z⟩ := hv
              have za := z.1
              have zb := z.2
              try simp only [pushed_next', upded_next'] at za zb
              rw [Mass.add_tim]
              apply Run.by_eq
              · intro self
                conv => lhs; simp -implicitDefEqProofs (maxSteps := 300000) (disch := omega) [-getElem?_pos, -getElem?_neg, Mass.v, zb, yb, k5b, k4b, hg0, ve3, ve4]
              try (with_reducible refine Run.ret ?_)
              with_reducible repeat first|apply Z0|apply Z1|apply Z2|apply Z3|apply Z4|apply Z5|refine Z6 rfl ?_|apply Z7|apply Z8|apply Z9|apply Z10|apply Z11|apply Z12|apply Z13|apply Z14|apply Z15|apply Z16
              with_reducible repeat first|apply Z0|apply Z1|apply Z2|apply Z3|apply Z4|apply Z5|refine Z6 rfl ?_|apply Z7|apply Z8|apply Z9|apply Z10|apply Z11|apply Z12|apply Z13|apply Z14|apply Z15|apply Z16
              refine Cd.reg (by kernel_rfl) (by conv => lhs; simp only [List.map_cons, List.map_nil]) (by conv => lhs; simp only [List.map_cons, List.map_nil, strip]) ?_
              apply Run.by_eq
              · intro self
                conv => lhs; simp -implicitDefEqProofs (maxSteps := 300000) (disch := omega) [-getElem?_pos, -getElem?_neg, h8]
              try (with_reducible refine Run.ret ?_)
              with_reducible repeat first|apply Z0|apply Z1|apply Z2|apply Z3|apply Z4|apply Z5|refine Z6 rfl ?_|apply Z7|apply Z8|apply Z9|apply Z10|apply Z11|apply Z12|apply Z13|apply Z14|apply Z15|apply Z16
              refine LoopK.nm (fs.length - (0 + 1)) (by omega) ⟨0 + 1, by omega, rfl, by simp [hm], by simp, by simp [h1], ⟨by (try simp only [pushed_next', upded_next']); omega, fun i hi => by simp -implicitDefEqProofs (disch := omega) [zb, yb, k5b, k4b, hkpb]⟩, ?_⟩
              rw [knL_succ, hk1, hce0]
              exact .inr ⟨wz.next + 1, by simp, by simp, by omega, by simp, by simp -implicitDefEqProofs (disch := omega) [KnownD.cs]⟩
            · rw [hkl] at hw0
              have veu : veq 5 (Value.slice (some ⟨bu, 0, none⟩) k k) (Value.slice (some ⟨bu, 0, none⟩) k k) = true := veq_slice _ _ _ _ _
              with_reducible repeat first|apply Z0|apply Z1|apply Z2|apply Z3|apply Z4|apply Z5|refine Z6 rfl ?_|apply Z7|apply Z8|apply Z9|apply Z10|apply Z11|apply Z12|apply Z13|apply Z14|apply Z15|apply Z16
              refine Cd.drawn (pl := [(0, 0, false, false), (1, 0, false, false), (2, 0, false, false), (3, 0, false, false), (4, 0, false, false), (5, 24, true, false), (6, 60, true, false), (7, 126, true, false), (8, 254, false, false), (9, 510, false, true), (10, 1023, true, false), (11, 2047, false, false)]) (by kernel_rfl) (by conv => lhs; simp only [List.map_cons, List.map_nil]) (by conv => lhs; simp [strip, ordered]) ?_
              apply Run.by_eq
              · intro self
                conv => lhs; simp -implicitDefEqProofs (maxSteps := 300000) (disch := omega) [filter_bt, Nat.testBit_eq_decide_div_mod_eq, -getElem?_pos, -getElem?_neg, hw0, h1, k4b, hg0, ve3, ve4, veu]
              try (with_reducible refine Run.ret ?_)
              with_reducible repeat first|apply Z0|apply Z1|apply Z2|apply Z3|apply Z4|apply Z5|refine Z6 rfl ?_|apply Z7|apply Z8|apply Z9|apply Z10|apply Z11|apply Z12|apply Z13|apply Z14|apply Z15|apply Z16
              refine Run.call ((side_ev _ _ hB _ hI (by simp; omega)).mono fun sv w5 hv => ?_)
              obtain ⟨k5, hB5⟩ := hv
              have k5a := k5.1
              have k5b := k5.2
              obtain ⟨a5, c5, rfl⟩ := hB5.shape
              rw [List.length_map, List.length_map, List.length_map, List.length_range] at hB5 ⊢
              apply Run.by_eq
              · intro self
                conv => lhs; simp -implicitDefEqProofs (maxSteps := 300000) (disch := omega) [-getElem?_pos, -getElem?_neg, k5b, k4b, hg0, ve3, ve4, veu]
              try (with_reducible refine Run.ret ?_)
              with_reducible repeat first|apply Z0|apply Z1|apply Z2|apply Z3|apply Z4|apply Z5|refine Z6 rfl ?_|apply Z7|apply Z8|apply Z9|apply Z10|apply Z11|apply Z12|apply Z13|apply Z14|apply Z15|apply Z16
              refine Run.call ((refExcess_ev n _ _ fs (sideL L n hB) _ _ (hf2.keep ⟨by (try simp only [pushed_next', upded_next']); omega, fun i hi => by simp -implicitDefEqProofs (disch := omega) [k5b, k4b, hkpb]⟩) hB5 (by omega) (checkErr_le hck) (fun f hf => by have := hends f hf; simp; omega) (fun x h1 h2 => side_get h1 (by simp at h2; omega)) (by simp; omega)).mono fun v wy hv => ?_)
              obtain ⟨rfl, y⟩ := hv
              have ya := y.1
              have yb := y.2
              try simp only [pushed_next', upded_next'] at ya yb
              rw [hmx]
              apply Run.by_eq
              · intro self
                conv => lhs; simp -implicitDefEqProofs (maxSteps := 300000) (disch := omega) [-getElem?_pos, -getElem?_neg, Mass.v, yb, k5b, k4b, hg0, ve3, ve4, veu]
              try (with_reducible refine Run.ret ?_)
              with_reducible repeat first|apply Z0|apply Z1|apply Z2|apply Z3|apply Z4|apply Z5|refine Z6 rfl ?_|apply Z7|apply Z8|apply Z9|apply Z10|apply Z11|apply Z12|apply Z13|apply Z14|apply Z15|apply Z16
              refine Run.call ((addT_ev Mass.zero mx (-1) _ ((Mass.tim_le hmxl).mono (by omega)) (by rw [Mass.add_tim]; exact (Mass.le_neg hmxl).mono (by omega))).mono fun v wz hv => ?_)
              obtain ⟨rfl, z⟩ := hv
              have za := z.1
              have zb := z.2
              try simp only [pushed_next', upded_next'] at za zb
              rw [Mass.add_tim]
              apply Run.by_eq
              · intro self
                conv => lhs; simp -implicitDefEqProofs (maxSteps := 300000) (disch := omega) [-getElem?_pos, -getElem?_neg, Mass.v, zb, yb, k5b, k4b, hg0, ve3, ve4, veu]
              try (with_reducible refine Run.ret ?_)
              with_reducible repeat first|apply Z0|apply Z1|apply Z2|apply Z3|apply Z4|apply Z5|refine Z6 rfl ?_|apply Z7|apply Z8|apply Z9|apply Z10|apply Z11|apply Z12|apply Z13|apply Z14|apply Z15|apply Z16
              apply Run.by_eq
              · intro self
                rw [appV_moreE (size := 5) (n := k) (old := (knL fs n k).flatten) ?happ3 hfl5 (by omega)]
                simp -implicitDefEqProofs (disch := omega) [zb, yb, k5b, k4b, hb3, veu]
              apply Run.by_eq
              · intro self
                conv => lhs; simp -implicitDefEqProofs (maxSteps := 300000) (disch := omega) [-getElem?_pos, -getElem?_neg, zb, yb, k5b, k4b, hb3, veu]
              try (with_reducible refine Run.ret ?_)
              with_reducible repeat first|apply Z0|apply Z1|apply Z2|apply Z3|apply Z4|apply Z5|refine Z6 rfl ?_|apply Z7|apply Z8|apply Z9|apply Z10|apply Z11|apply Z12|apply Z13|apply Z14|apply Z15|apply Z16
              with_reducible repeat first|apply Z0|apply Z1|apply Z2|apply Z3|apply Z4|apply Z5|refine Z6 rfl ?_|apply Z7|apply Z8|apply Z9|apply Z10|apply Z11|apply Z12|apply Z13|apply Z14|apply Z15|apply Z16
              refine Cd.reg (by kernel_rfl) (by conv => lhs; simp only [List.map_cons, List.map_nil]) (by conv => lhs; simp only [List.map_cons, List.map_nil, strip]) ?_
              apply Run.by_eq
              · intro self
                conv => lhs; simp -implicitDefEqProofs (maxSteps := 300000) (disch := omega) [-getElem?_pos, -getElem?_neg, h8]
              try (with_reducible refine Run.ret ?_)
              with_reducible repeat first|apply Z0|apply Z1|apply Z2|apply Z3|apply Z4|apply Z5|refine Z6 rfl ?_|apply Z7|apply Z8|apply Z9|apply Z10|apply Z11|apply Z12|apply Z13|apply Z14|apply Z15|apply Z16
              refine LoopK.nm (fs.length - (k + 1)) (by omega) ⟨k + 1, by omega, rfl, by simp [hm], by simp, by simp [h1], ⟨by (try simp only [pushed_next', upded_next']); omega, fun i hi => by simp -implicitDefEqProofs (disch := omega) [zb, yb, k5b, k4b, hkpb]⟩, ?_⟩
              rw [knL_succ, hk1]
              exact .inr ⟨wz.next + 1, by simp [hkl], by simp, by omega, by simp, by simp -implicitDefEqProofs (disch := omega) [KnownD.cs]⟩
          · skip
            have hk1 : closeF fs n k = ⟨2, excM (sideL L n hA) fs⟩ := by rw [hcf, hCA, if_neg hAB, if_pos hA0]
            have hmxl := exc_le (xs := sideL L n hA) (by omega) h9 hl20
            generalize hmx : excM (sideL L n hA) fs = mx at hk1 hmxl
            with_reducible repeat first|apply Z0|apply Z1|apply Z2|apply Z3|apply Z4|apply Z5|refine Z6 rfl ?_|apply Z7|apply Z8|apply Z9|apply Z10|apply Z11|apply Z12|apply Z13|apply Z14|apply Z15|apply Z16
            apply Cd.ite rfl
            · conv => lhs; simp -implicitDefEqProofs (maxSteps := 300000) (disch := omega) [-getElem?_pos, -getElem?_neg, hA0]
            all_goals intro c5
            all_goals try (cases c5; done)
            all_goals try simp only [Bool.not_eq_true', Bool.not_eq_false', decide_eq_true_eq, decide_eq_false_iff_not] at c5
            all_goals with_reducible repeat first|apply Z0|apply Z1|apply Z2|apply Z3|apply Z4|apply Z5|refine Z6 rfl ?_|apply Z7|apply Z8|apply Z9|apply Z10|apply Z11|apply Z12|apply Z13|apply Z14|apply Z15|apply Z16
            have ve3 : veq 4 (Value.slice (some ⟨b, off, none⟩) fs.length c) (Value.slice (some ⟨b, off, none⟩) fs.length c) = true := veq_slice _ _ _ _ _
            rcases hU with ⟨hce0, hw0⟩ | ⟨bu, hw0, hne0, hb1, hb2, hb3⟩
            · have k0 : k = 0 := by rw [hce0] at hkl; exact hkl.symm
              subst k0
              with_reducible repeat first|apply Z0|apply Z1|apply Z2|apply Z3|apply Z4|apply Z5|refine Z6 rfl ?_|apply Z7|apply Z8|apply Z9|apply Z10|apply Z11|apply Z12|apply Z13|apply Z14|apply Z15|apply Z16
              refine Cd.drawn (pl := [(0, 0, false, false), (1, 0, false, false), (2, 0, false, false), (3, 0, false, false), (4, 12, true, false), (5, 30, true, false), (6, 62, false, false), (7, 126, false, true), (8, 255, true, false), (9, 511, false, false)]) (by kernel_rfl) (by conv => lhs; simp only [List.map_cons, List.map_nil]) (by conv => lhs; simp [strip, ordered]) ?_
              apply Run.by_eq
              · intro self
                conv => lhs; simp -implicitDefEqProofs (maxSteps := 300000) (disch := omega) [filter_bt, Nat.testBit_eq_decide_div_mod_eq, -getElem?_pos, -getElem?_neg, hw0, h1, k4b, hg0, ve3, ve4]
              try (with_reducible refine Run.ret ?_)
              with_reducible repeat first|apply Z0|apply Z1|apply Z2|apply Z3|apply Z4|apply Z5|refine Z6 rfl ?_|apply Z7|apply Z8|apply Z9|apply Z10|apply Z11|apply Z12|apply Z13|apply Z14|apply Z15|apply Z16
              refine Run.call ((side_ev _ _ hA _ hI (by simp; omega)).mono fun sv w5 hv => ?_)
              obtain ⟨k5, hB5⟩ := hv
              have k5a := k5.1
              have k5b := k5.2
              obtain ⟨a5, c5, rfl⟩ := hB5.shape
              rw [List.length_map, List.length_map, List.length_map, List.length_range] at hB5 ⊢
              apply Run.by_eq
              · intro self
                conv => lhs; simp -implicitDefEqProofs (maxSteps := 300000) (disch := omega) [-getElem?_pos, -getElem?_neg, k5b, k4b, hg0, ve3, ve4]
              try (with_reducible refine Run.ret ?_)
              with_reducible repeat first|apply Z0|apply Z1|apply Z2|apply Z3|apply Z4|apply Z5|refine Z6 rfl ?_|apply Z7|apply Z8|apply Z9|apply Z10|apply Z11|apply Z12|apply Z13|apply Z14|apply Z15|apply Z16
              refine Run.call ((refExcess_ev n _ _ fs (sideL L n hA) _ _ (hf2.keep ⟨by (try simp only [pushed_next', upded_next']); omega, fun i hi => by simp -implicitDefEqProofs (disch := omega) [k5b, k4b, hkpb]⟩) hB5 (by omega) (checkErr_le hck) (fun f hf => by have := hends f hf; simp; omega) (fun x h1 h2 => side_get h1 (by simp at h2; omega)) (by simp; omega)).mono fun v wy hv => ?_)
              obtain ⟨rfl, y⟩ := hv
              have ya := y.1
              have yb := y.2
              try simp only [pushed_next', upded_next'] at ya yb
              rw [hmx]
              apply Run.by_eq
              · intro self
                conv => lhs; simp -implicitDefEqProofs (maxSteps := 300000) (disch := omega) [-getElem?_pos, -getElem?_neg, Mass.v, yb, k5b, k4b, hg0, ve3, ve4]
              try (with_reducible refine Run.ret ?_)
              with_reducible repeat first|apply Z0|apply Z1|apply Z2|apply Z3|apply Z4|apply Z5|refine Z6 rfl ?_|apply Z7|apply Z8|apply Z9|apply Z10|apply Z11|apply Z12|apply Z13|apply Z14|apply Z15|apply Z16
              with_reducible repeat first|apply Z0|apply Z1|apply Z2|apply Z3|apply Z4|apply Z5|refine Z6 rfl ?_|apply Z7|apply Z8|apply Z9|apply Z10|apply Z11|apply Z12|apply Z13|apply Z14|apply Z15|apply Z16
              refine Cd.reg (by kernel_rfl) (by conv => lhs; simp only [List.map_cons, List.map_nil]) (by conv => lhs; simp only [List.map_cons, List.map_nil, strip]) ?_
              apply Run.by_eq
              · intro self
                conv => lhs; simp -implicitDefEqProofs (maxSteps := 300000) (disch := omega) [-getElem?_pos, -getElem?_neg, h8]
              try (with_reducible refine Run.ret ?_)
              with_reducible repeat first|apply Z0|apply Z1|apply Z2|apply Z3|apply Z4|apply Z5|refine Z6 rfl ?_|apply Z7|apply Z8|apply Z9|apply Z10|apply Z11|apply Z12|apply Z13|apply Z14|apply Z15|apply Z16
              refine LoopK.nm (fs.length - (0 + 1)) (by omega) ⟨0 + 1, by omega, rfl, by simp [hm], by simp, by simp [h1], ⟨by (try simp only [pushed_next', upded_next']); omega, fun i hi => by simp -implicitDefEqProofs (disch := omega) [yb, k5b, k4b, hkpb]⟩, ?_⟩
              rw [knL_succ, hk1, hce0]
              exact .inr ⟨wy.next + 1, by simp, by simp, by omega, by simp, by simp -implicitDefEqProofs (disch := omega) [KnownD.cs]⟩
            · rw [hkl] at hw0
              have veu : veq 5 (Value.slice (some ⟨bu, 0, none⟩) k k) (Value.slice (some ⟨bu, 0, none⟩) k k) = true := veq_slice _ _ _ _ _
              with_reducible repeat first|apply Z0|apply Z1|apply Z2|apply Z3|apply Z4|apply Z5|refine Z6 rfl ?_|apply Z7|apply Z8|apply Z9|apply Z10|apply Z11|apply Z12|apply Z13|apply Z14|apply Z15|apply Z16
              refine Cd.drawn (pl := [(0, 0, false, false), (1, 0, false, false), (2, 0, false, false), (3, 0, false, false), (4, 12, true, false), (5, 30, true, false), (6, 62, false, false), (7, 126, false, true), (8, 255, true, false), (9, 511, false, false)]) (by kernel_rfl) (by conv => lhs; simp only [List.map_cons, List.map_nil]) (by conv => lhs; simp [strip, ordered]) ?_
              apply Run.by_eq
              · intro self
                conv => lhs; simp -implicitDefEqProofs (maxSteps := 300000) (disch := omega) [filter_bt, Nat.testBit_eq_decide_div_mod_eq, -getElem?_pos, -getElem?_neg, hw0, h1, k4b, hg0, ve3, ve4, veu]
              try (with_reducible refine Run.ret ?_)
              with_reducible repeat first|apply Z0|apply Z1|apply Z2|apply Z3|apply Z4|apply Z5|refine Z6 rfl ?_|apply Z7|apply Z8|apply Z9|apply Z10|apply Z11|apply Z12|apply Z13|apply Z14|apply Z15|apply Z16
              refine Run.call ((side_ev _ _ hA _ hI (by simp; omega)).mono fun sv w5 hv => ?_)
              obtain ⟨k5, hB5⟩ := hv
              have k5a := k5.1
              have k5b := k5.2
              obtain ⟨a5, c5, rfl⟩ := hB5.shape
              rw [List.length_map, List.length_map, List.length_map, List.length_range] at hB5 ⊢
              apply Run.by_eq
              · intro self
                conv => lhs; simp -implicitDefEqProofs (maxSteps := 300000) (disch := omega) [-getElem?_pos, -getElem?_neg, k5b, k4b, hg0, ve3, ve4, veu]
              try (with_reducible refine Run.ret ?_)
              with_reducible repeat first|apply Z0|apply Z1|apply Z2|apply Z3|apply Z4|apply Z5|refine Z6 rfl ?_|apply Z7|apply Z8|apply Z9|apply Z10|apply Z11|apply Z12|apply Z13|apply Z14|apply Z15|apply Z16
              refine Run.call ((refExcess_ev n _ _ fs (sideL L n hA) _ _ (hf2.keep ⟨by (try simp only [pushed_next', upded_next']); omega, fun i hi => by simp -implicitDefEqProofs (disch := omega) [k5b, k4b, hkpb]⟩) hB5 (by omega) (checkErr_le hck) (fun f hf => by have := hends f hf; simp; omega) (fun x h1 h2 => side_get h1 (by simp at h2; omega)) (by simp; omega)).mono fun v wy hv => ?_)
              obtain ⟨rfl, y⟩ := hv
              have ya := y.1
              have yb := y.2
              try simp only [pushed_next', upded_next'] at ya yb
              rw [hmx]
              apply Run.by_eq
              · intro self
                conv => lhs; simp -implicitDefEqProofs (maxSteps := 300000) (disch := omega) [-getElem?_pos, -getElem?_neg, Mass.v, yb, k5b, k4b, hg0, ve3, ve4, veu]
              try (with_reducible refine Run.ret ?_)
              with_reducible repeat first|apply Z0|apply Z1|apply Z2|apply Z3|apply Z4|apply Z5|refine Z6 rfl ?_|apply Z7|apply Z8|apply Z9|apply Z10|apply Z11|apply Z12|apply Z13|apply Z14|apply Z15|apply Z16
              apply Run.by_eq
              · intro self
                rw [appV_moreE (size := 5) (n := k) (old := (knL fs n k).flatten) ?happ4 hfl5 (by omega)]
                simp -implicitDefEqProofs (disch := omega) [yb, k5b, k4b, hb3, veu]
              apply Run.by_eq
              · intro self
                conv => lhs; simp -implicitDefEqProofs (maxSteps := 300000) (disch := omega) [-getElem?_pos, -getElem?_neg, yb, k5b, k4b, hb3, veu]
              try (with_reducible refine Run.ret ?_)
              with_reducible repeat first|apply Z0|apply Z1|apply Z2|apply Z3|apply Z4|apply Z5|refine Z6 rfl ?_|apply Z7|apply Z8|apply Z9|apply Z10|apply Z11|apply Z12|apply Z13|apply Z14|apply Z15|apply Z16
              with_reducible repeat first|apply Z0|apply Z1|apply Z2|apply Z3|apply Z4|apply Z5|refine Z6 rfl ?_|apply Z7|apply Z8|apply Z9|apply Z10|apply Z11|apply Z12|apply Z13|apply Z14|apply Z15|apply Z16
              refine Cd.reg (by kernel_rfl) (by conv => lhs; simp only [List.map_cons, List.map_nil]) (by conv => lhs; simp only [List.map_cons, List.map_nil, strip]) ?_
              apply Run.by_eq
              · intro self
                conv => lhs; simp -implicitDefEqProofs (maxSteps := 300000) (disch := omega) [-getElem?_pos, -getElem?_neg, h8]
              try (with_reducible refine Run.ret ?_)
              with_reducible repeat first|apply Z0|apply Z1|apply Z2|apply Z3|apply Z4|apply Z5|refine Z6 rfl ?_|apply Z7|apply Z8|apply Z9|apply Z10|apply Z11|apply Z12|apply Z13|apply Z14|apply Z15|apply Z16
              refine LoopK.nm (fs.length - (k + 1)) (by omega) ⟨k + 1, by omega, rfl, by simp [hm], by simp, by simp [h1], ⟨by (try simp only [pushed_next', upded_next']); omega, fun i hi => by simp -implicitDefEqProofs (disch := omega) [yb, k5b, k4b, hkpb]⟩, ?_⟩
              rw [knL_succ, hk1]
              exact .inr ⟨wy.next + 1, by simp [hkl], by simp, by omega, by simp, by simp -implicitDefEqProofs (disch := omega) [KnownD.cs]⟩
    · simp at c2; omega
  · obtain rfl : k = fs.length := by omega
    with_reducible repeat first|apply Z0|apply Z1|apply Z2|apply Z3|apply Z4|apply Z5|refine Z6 rfl ?_|apply Z7|apply Z8|apply Z9|apply Z10|apply Z11|apply Z12|apply Z13|apply Z14|apply Z15|apply Z16
    refine Cd.reg (by kernel_rfl) (by conv => lhs; simp only [List.map_cons, List.map_nil]) (by conv => lhs; simp only [List.map_cons, List.map_nil, strip]) ?_
    apply Run.by_eq
    · intro self
      conv => lhs; simp -implicitDefEqProofs (maxSteps := 300000) (disch := omega) [-getElem?_pos, -getElem?_neg, h8, h1, hg0]
    try (with_reducible refine Run.ret ?_)
    with_reducible repeat first|apply Z0|apply Z1|apply Z2|apply Z3|apply Z4|apply Z5|refine Z6 rfl ?_|apply Z7|apply Z8|apply Z9|apply Z10|apply Z11|apply Z12|apply Z13|apply Z14|apply Z15|apply Z16
    with_reducible repeat first|apply Z0|apply Z1|apply Z2|apply Z3|apply Z4|apply Z5|refine Z6 rfl ?_|apply Z7|apply Z8|apply Z9|apply Z10|apply Z11|apply Z12|apply Z13|apply Z14|apply Z15|apply Z16
    apply Cd.ite rfl
    · conv => lhs; simp -implicitDefEqProofs (maxSteps := 300000) (disch := omega) [-getElem?_pos, -getElem?_neg]
    all_goals intro c2
    all_goals try (cases c2; done)
    all_goals try simp only [Bool.not_eq_true', Bool.not_eq_false', decide_eq_true_eq, decide_eq_false_iff_not] at c2
    all_goals with_reducible repeat first|apply Z0|apply Z1|apply Z2|apply Z3|apply Z4|apply Z5|refine Z6 rfl ?_|apply Z7|apply Z8|apply Z9|apply Z10|apply Z11|apply Z12|apply Z13|apply Z14|apply Z15|apply Z16
    with_reducible repeat first|apply Z0|apply Z1|apply Z2|apply Z3|apply Z4|apply Z5|refine Z6 rfl ?_|apply Z7|apply Z8|apply Z9|apply Z10|apply Z11|apply Z12|apply Z13|apply Z14|apply Z15|apply Z16
    refine Cd.reg (by kernel_rfl) (by conv => lhs; simp only [List.map_cons, List.map_nil]) (by conv => lhs; simp only [List.map_cons, List.map_nil, strip]) ?_
    apply Run.by_eq
    · intro self
      conv => lhs; simp -implicitDefEqProofs (maxSteps := 300000) (disch := omega) [-getElem?_pos, -getElem?_neg]
    try (with_reducible refine Run.ret ?_)
    with_reducible repeat first|apply Z0|apply Z1|apply Z2|apply Z3|apply Z4|apply Z5|refine Z6 rfl ?_|apply Z7|apply Z8|apply Z9|apply Z10|apply Z11|apply Z12|apply Z13|apply Z14|apply Z15|apply Z16
    apply Leave.mk (by first | exact .inl rfl | exact .inr rfl) (by simp only [Fr.marks_put, fr0_marks, hm])
    · conv => lhs; simp -implicitDefEqProofs (disch := omega) [Try.results25, hm]
    refine ⟨⟨by omega, fun i hi => (hkpb i (by omega)).trans (hold2 i hi)⟩, _, rfl, ?_⟩
    rw [List.map_map]
    exact hU.sl fun x hx => by
      unfold knL at hx
      obtain ⟨j, _, rfl⟩ := List.mem_map.1 hx; rfl
end Go.Proofs.Ytifkpaomhnlahaa
namespace Go.Proofs.Ytifkpaomhnlahaa
open Go Kern
theorem closeF_le {fs : List FlowD} {n : Nat} (h9 : ∀ f ∈ fs, f.me = true → f.m.le 1000000000) (hl : fs.length ≤ 20) (k : Nat) : (closeF fs n k).m.le 20000000000 := by
  unfold closeF
  cases hk : fs[k]? with
  | none => exact Mass.le_zero (by omega)
  | some f =>
    simp only []
    unfold closeAt
    by_cases hm : f.me = true
    · rw [if_pos hm]; exact (h9 f (List.mem_of_getElem? hk) hm).mono (by omega)
    · rw [if_neg hm]
      split
      · exact Mass.le_zero (by omega)
      · split
        · exact exc_le (by omega) h9 hl
        · exact Mass.le_neg (exc_le (by omega) h9 hl)
theorem closeKs_len {u : Int} {fs : List FlowD} : (closeKs u fs).length ≤ fs.length := by
  unfold closeKs; split <;> simp
abbrev KnAt (s : St) (v : Value) (ks : List KnownD) : Prop := SlAt 5 s v (ks.map KnownD.cs)
theorem KnAt.at {s : St} {a : Option Addr} {m c : Nat} {ks : List KnownD} (h : KnAt s (.slice a m c) ks) {k : Nat} {x : KnownD} (hk : ks[k]? = some x) :
    ∃ b off o cs g, a = some ⟨b, off, none⟩ ∧ b < s.next ∧ s.heap.get b = some o ∧ cellsOf o = some (cs, g) ∧ takeL 5 (cs.drop (off + k * 5)) = some x.cs :=
  SlAt.at h (by rw [List.getElem?_map, hk]; rfl)
theorem takeL_part {α : Type} {n k : Nat} {l : List α} {a : α} {r : List α} (h : takeL (k + 1) (l.drop n) = some (a :: r)) : l[n]? = some a ∧ takeL k (l.drop (n + 1)) = some r := by
  have h0 := takeL_at h (i := 0) (by omega)
  rw [List.getElem?_drop] at h0
  refine ⟨by simpa using h0, ?_⟩
  cases hl : l.drop n with
  | nil => rw [hl] at h; cases h
  | cons x t =>
    rw [hl] at h
    obtain ⟨t', h1, h2⟩ := ob_eq (show ob (takeL k t) (fun t => some (x :: t)) = some (a :: r) from h)
    cases h2
    rw [← List.drop_drop, hl]
    exact h1
set_option maxRecDepth 100000 in
set_option maxHeartbeats 4000000 in
theorem lawC_ev (u : Int) (v : Value) (fs : List FlowD) (s : St) (hf : FlAt s v fs) :
    Ev TT 4 [plantV u v] s fun r _ => r = .bool true := by
  obtain ⟨a, c, rfl⟩ := hf.shape
  rw [List.length_map] at hf ⊢
  unfold plantV
  refine Ev.intro (fn := Try.f4) rfl (by kernel_rfl) rfl rfl ?_
  with_reducible repeat first|apply Z0|apply Z1|apply Z2|apply Z3|apply Z4|apply Z5|refine Z6 rfl ?_|apply Z7|apply Z8|apply Z9|apply Z10|apply Z11|apply Z12|apply Z13|apply Z14|apply Z15|apply Z16
  with_reducible repeat first|apply Z0|apply Z1|apply Z2|apply Z3|apply Z4|apply Z5|refine Z6 rfl ?_|apply Z7|apply Z8|apply Z9|apply Z10|apply Z11|apply Z12|apply Z13|apply Z14|apply Z15|apply Z16
  refine Cd.reg (by kernel_rfl) (by conv => lhs; simp only [List.map_cons, List.map_nil]) (by conv => lhs; simp only [List.map_cons, List.map_nil, strip]) ?_
  apply Run.by_eq
  · intro self
    conv => lhs; simp -implicitDefEqProofs (maxSteps := 300000) (disch := omega) [-getElem?_pos, -getElem?_neg]
  try (with_reducible refine Run.ret ?_)
  with_reducible repeat first|apply Z0|apply Z1|apply Z2|apply Z3|apply Z4|apply Z5|refine Z6 rfl ?_|apply Z7|apply Z8|apply Z9|apply Z10|apply Z11|apply Z12|apply Z13|apply Z14|apply Z15|apply Z16
  by_cases e2 : 40 < (fs.length : Int)
  · with_reducible repeat first|apply Z0|apply Z1|apply Z2|apply Z3|apply Z4|apply Z5|refine Z6 rfl ?_|apply Z7|apply Z8|apply Z9|apply Z10|apply Z11|apply Z12|apply Z13|apply Z14|apply Z15|apply Z16
    refine Cd.reg (by kernel_rfl) (by conv => lhs; simp only [List.map_cons, List.map_nil]) (by conv => lhs; simp only [List.map_cons, List.map_nil, strip]) ?_
    apply Run.by_eq
    · intro self
      conv => lhs; simp -implicitDefEqProofs (maxSteps := 300000) (disch := omega) [-getElem?_pos, -getElem?_neg, e2]
    try (with_reducible refine Run.ret ?_)
    with_reducible repeat first|apply Z0|apply Z1|apply Z2|apply Z3|apply Z4|apply Z5|refine Z6 rfl ?_|apply Z7|apply Z8|apply Z9|apply Z10|apply Z11|apply Z12|apply Z13|apply Z14|apply Z15|apply Z16
    with_reducible repeat first|apply Z0|apply Z1|apply Z2|apply Z3|apply Z4|apply Z5|refine Z6 rfl ?_|apply Z7|apply Z8|apply Z9|apply Z10|apply Z11|apply Z12|apply Z13|apply Z14|apply Z15|apply Z16
    apply Cd.ite rfl
    · conv => lhs; simp -implicitDefEqProofs (maxSteps := 300000) (disch := omega) [-getElem?_pos, -getElem?_neg]
    all_goals intro c0
    all_goals try (cases c0; done)
    all_goals try simp only [Bool.not_eq_true', Bool.not_eq_false', decide_eq_true_eq, decide_eq_false_iff_not] at c0
    all_goals with_reducible repeat first|apply Z0|apply Z1|apply Z2|apply Z3|apply Z4|apply Z5|refine Z6 rfl ?_|apply Z7|apply Z8|apply Z9|apply Z10|apply Z11|apply Z12|apply Z13|apply Z14|apply Z15|apply Z16
    with_reducible repeat first|apply Z0|apply Z1|apply Z2|apply Z3|apply Z4|apply Z5|refine Z6 rfl ?_|apply Z7|apply Z8|apply Z9|apply Z10|apply Z11|apply Z12|apply Z13|apply Z14|apply Z15|apply Z16
    refine Cd.reg (by kernel_rfl) (by conv => lhs; simp only [List.map_cons, List.map_nil]) (by conv => lhs; simp only [List.map_cons, List.map_nil, strip]) ?_
    apply Run.by_eq
    · intro self
      conv => lhs; simp -implicitDefEqProofs (maxSteps := 300000) (disch := omega) [-getElem?_pos, -getElem?_neg]
    try (with_reducible refine Run.ret ?_)
    with_reducible repeat first|apply Z0|apply Z1|apply Z2|apply Z3|apply Z4|apply Z5|refine Z6 rfl ?_|apply Z7|apply Z8|apply Z9|apply Z10|apply Z11|apply Z12|apply Z13|apply Z14|apply Z15|apply Z16
    refine Run.call (Ev.stub rfl ?_)
    apply Run.by_eq
    · intro self
      conv => lhs; simp -implicitDefEqProofs (maxSteps := 300000) (disch := omega) [-getElem?_pos, -getElem?_neg]
    try (with_reducible refine Run.ret ?_)
    with_reducible repeat first|apply Z0|apply Z1|apply Z2|apply Z3|apply Z4|apply Z5|refine Z6 rfl ?_|apply Z7|apply Z8|apply Z9|apply Z10|apply Z11|apply Z12|apply Z13|apply Z14|apply Z15|apply Z16
    apply Leave.mk (by first | exact .inl rfl | exact .inr rfl) (by simp only [Fr.marks_put, fr0_marks])
    · conv => lhs; simp -implicitDefEqProofs (disch := omega) [Try.results4]
    rfl
  with_reducible repeat first|apply Z0|apply Z1|apply Z2|apply Z3|apply Z4|apply Z5|refine Z6 rfl ?_|apply Z7|apply Z8|apply Z9|apply Z10|apply Z11|apply Z12|apply Z13|apply Z14|apply Z15|apply Z16
  refine Cd.reg (by kernel_rfl) (by conv => lhs; simp only [List.map_cons, List.map_nil]) (by conv => lhs; simp only [List.map_cons, List.map_nil, strip]) ?_
  apply Run.by_eq
  · intro self
    conv => lhs; simp -implicitDefEqProofs (maxSteps := 300000) (disch := omega) [-getElem?_pos, -getElem?_neg, e2]
  try (with_reducible refine Run.ret ?_)
  with_reducible repeat first|apply Z0|apply Z1|apply Z2|apply Z3|apply Z4|apply Z5|refine Z6 rfl ?_|apply Z7|apply Z8|apply Z9|apply Z10|apply Z11|apply Z12|apply Z13|apply Z14|apply Z15|apply Z16
  with_reducible repeat first|apply Z0|apply Z1|apply Z2|apply Z3|apply Z4|apply Z5|refine Z6 rfl ?_|apply Z7|apply Z8|apply Z9|apply Z10|apply Z11|apply Z12|apply Z13|apply Z14|apply Z15|apply Z16
  apply Cd.ite rfl
  · conv => lhs; simp -implicitDefEqProofs (maxSteps := 300000) (disch := omega) [-getElem?_pos, -getElem?_neg]
  all_goals intro c0
  all_goals try (cases c0; done)
  all_goals try simp only [Bool.not_eq_true', Bool.not_eq_false', decide_eq_true_eq, decide_eq_false_iff_not] at c0
  all_goals with_reducible repeat first|apply Z0|apply Z1|apply Z2|apply Z3|apply Z4|apply Z5|refine Z6 rfl ?_|apply Z7|apply Z8|apply Z9|apply Z10|apply Z11|apply Z12|apply Z13|apply Z14|apply Z15|apply Z16
  have hl : fs.length ≤ 1000 := by omega
  with_reducible repeat first|apply Z0|apply Z1|apply Z2|apply Z3|apply Z4|apply Z5|refine Z6 rfl ?_|apply Z7|apply Z8|apply Z9|apply Z10|apply Z11|apply Z12|apply Z13|apply Z14|apply Z15|apply Z16
  refine Cd.reg (by kernel_rfl) (by conv => lhs; simp only [List.map_cons, List.map_nil]) (by conv => lhs; simp only [List.map_cons, List.map_nil, strip]) ?_
  apply Run.by_eq
  · intro self
    conv => lhs; simp -implicitDefEqProofs (maxSteps := 300000) (disch := omega) [-getElem?_pos, -getElem?_neg]
  try (with_reducible refine Run.ret ?_)
  with_reducible repeat first|apply Z0|apply Z1|apply Z2|apply Z3|apply Z4|apply Z5|refine Z6 rfl ?_|apply Z7|apply Z8|apply Z9|apply Z10|apply Z11|apply Z12|apply Z13|apply Z14|apply Z15|apply Z16
  refine Run.call ((close_ev u _ fs _ (hf.keep ⟨by (try simp only [pushed_next', upded_next']); omega, fun i hi => by simp -implicitDefEqProofs (disch := omega) []⟩) (by omega)).mono fun r1 t1 hv => ?_)
  obtain ⟨k1, w1, rfl, hw1⟩ := hv
  have k1a := k1.1
  have k1b := k1.2
  try simp only [pushed_next', upded_next'] at k1a k1b
  apply Run.by_eq
  · intro self
    conv => lhs; simp -implicitDefEqProofs (maxSteps := 300000) (disch := omega) [-getElem?_pos, -getElem?_neg]
  try (with_reducible refine Run.ret ?_)
  with_reducible repeat first|apply Z0|apply Z1|apply Z2|apply Z3|apply Z4|apply Z5|refine Z6 rfl ?_|apply Z7|apply Z8|apply Z9|apply Z10|apply Z11|apply Z12|apply Z13|apply Z14|apply Z15|apply Z16
  with_reducible repeat first|apply Z0|apply Z1|apply Z2|apply Z3|apply Z4|apply Z5|refine Z6 rfl ?_|apply Z7|apply Z8|apply Z9|apply Z10|apply Z11|apply Z12|apply Z13|apply Z14|apply Z15|apply Z16
  refine Cd.reg (by kernel_rfl) (by conv => lhs; simp only [List.map_cons, List.map_nil]) (by conv => lhs; simp only [List.map_cons, List.map_nil, strip]) ?_
  apply Run.by_eq
  · intro self
    conv => lhs; simp -implicitDefEqProofs (maxSteps := 300000) (disch := omega) [-getElem?_pos, -getElem?_neg, k1b]
  try (with_reducible refine Run.ret ?_)
  with_reducible repeat first|apply Z0|apply Z1|apply Z2|apply Z3|apply Z4|apply Z5|refine Z6 rfl ?_|apply Z7|apply Z8|apply Z9|apply Z10|apply Z11|apply Z12|apply Z13|apply Z14|apply Z15|apply Z16
  refine Run.call ((given_ev u _ fs _ (hf.keep ⟨by (try simp only [pushed_next', upded_next']); omega, fun i hi => by simp -implicitDefEqProofs (disch := omega) [k1b]⟩) hl).mono fun r2 t2 hv => ?_)
  obtain ⟨k2, w2, rfl, hw2⟩ := hv
  have k2a := k2.1
  have k2b := k2.2
  try simp only [pushed_next', upded_next'] at k2a k2b
  apply Run.by_eq
  · intro self
    conv => lhs; simp -implicitDefEqProofs (maxSteps := 300000) (disch := omega) [-getElem?_pos, -getElem?_neg]
  try (with_reducible refine Run.ret ?_)
  with_reducible repeat first|apply Z0|apply Z1|apply Z2|apply Z3|apply Z4|apply Z5|refine Z6 rfl ?_|apply Z7|apply Z8|apply Z9|apply Z10|apply Z11|apply Z12|apply Z13|apply Z14|apply Z15|apply Z16
  refine Run.call ((refClose_ev u _ fs _ hw2 (by omega)).mono fun r3 t3 hv => ?_)
  obtain ⟨k3, w3, rfl, hw3⟩ := hv
  have k3a := k3.1
  have k3b := k3.2
  try simp only [pushed_next', upded_next'] at k3a k3b
  have hw1' : KnAt t3 w1 (closeKs u fs) := (hw1.keep k2).keep k3
  apply Run.by_eq
  · intro self
    conv => lhs; simp -implicitDefEqProofs (maxSteps := 300000) (disch := omega) [-getElem?_pos, -getElem?_neg]
  try (with_reducible refine Run.ret ?_)
  with_reducible repeat first|apply Z0|apply Z1|apply Z2|apply Z3|apply Z4|apply Z5|refine Z6 rfl ?_|apply Z7|apply Z8|apply Z9|apply Z10|apply Z11|apply Z12|apply Z13|apply Z14|apply Z15|apply Z16
  have hle : ∀ x ∈ closeKs u fs, x.m.le 4611686018427387904 := fun x hx => by
    unfold closeKs at hx
    split at hx
    · rename_i hz
      have hck : checkErr u fs = 0 := by
        unfold closeErr at hz
        split at hz
        · exact hz
        · rename_i h; simpa using h
      obtain ⟨j, _, rfl⟩ := List.mem_map.1 hx
      exact (closeF_le (checkErr_le9 hck) (checkErr_ok hck).2.2.1 j).mono (by omega)
    · cases hx
  have hlen := closeKs_len (u := u) (fs := fs)
  generalize closeKs u fs = ks at hw1' hw3 hle hlen
  generalize closeErr u fs = ce
  obtain ⟨a1, c1, rfl⟩ := hw1'.shape
  obtain ⟨a3, c3, rfl⟩ := hw3.shape
  rw [List.length_map] at hw1' hw3 ⊢
  with_reducible repeat first|apply Z0|apply Z1|apply Z2|apply Z3|apply Z4|apply Z5|refine Z6 rfl ?_|apply Z7|apply Z8|apply Z9|apply Z10|apply Z11|apply Z12|apply Z13|apply Z14|apply Z15|apply Z16
  refine Cd.reg (by kernel_rfl) (by conv => lhs; simp only [List.map_cons, List.map_nil]) (by conv => lhs; simp only [List.map_cons, List.map_nil, strip]) ?_
  apply Run.by_eq
  · intro self
    conv => lhs; simp -implicitDefEqProofs (maxSteps := 300000) (disch := omega) [-getElem?_pos, -getElem?_neg]
  try (with_reducible refine Run.ret ?_)
  with_reducible repeat first|apply Z0|apply Z1|apply Z2|apply Z3|apply Z4|apply Z5|refine Z6 rfl ?_|apply Z7|apply Z8|apply Z9|apply Z10|apply Z11|apply Z12|apply Z13|apply Z14|apply Z15|apply Z16
  with_reducible repeat first|apply Z0|apply Z1|apply Z2|apply Z3|apply Z4|apply Z5|refine Z6 rfl ?_|apply Z7|apply Z8|apply Z9|apply Z10|apply Z11|apply Z12|apply Z13|apply Z14|apply Z15|apply Z16
  apply Cd.ite rfl
  · conv => lhs; simp -implicitDefEqProofs (maxSteps := 300000) (disch := omega) [-getElem?_pos, -getElem?_neg]
  all_goals intro d0
  all_goals try (cases d0; done)
  all_goals try simp only [Bool.not_eq_true', Bool.not_eq_false', decide_eq_true_eq, decide_eq_false_iff_not] at d0
  all_goals with_reducible repeat first|apply Z0|apply Z1|apply Z2|apply Z3|apply Z4|apply Z5|refine Z6 rfl ?_|apply Z7|apply Z8|apply Z9|apply Z10|apply Z11|apply Z12|apply Z13|apply Z14|apply Z15|apply Z16
  with_reducible repeat first|apply Z0|apply Z1|apply Z2|apply Z3|apply Z4|apply Z5|refine Z6 rfl ?_|apply Z7|apply Z8|apply Z9|apply Z10|apply Z11|apply Z12|apply Z13|apply Z14|apply Z15|apply Z16
  refine Cd.reg (by kernel_rfl) (by conv => lhs; simp only [List.map_cons, List.map_nil]) (by conv => lhs; simp only [List.map_cons, List.map_nil, strip]) ?_
  apply Run.by_eq
  · intro self
    conv => lhs; simp -implicitDefEqProofs (maxSteps := 300000) (disch := omega) [-getElem?_pos, -getElem?_neg]
  try (with_reducible refine Run.ret ?_)
  with_reducible repeat first|apply Z0|apply Z1|apply Z2|apply Z3|apply Z4|apply Z5|refine Z6 rfl ?_|apply Z7|apply Z8|apply Z9|apply Z10|apply Z11|apply Z12|apply Z13|apply Z14|apply Z15|apply Z16
  refine Cd.inv (fun z f s' => ∃ k : Nat, k ≤ ks.length ∧ z = ks.length - k ∧ f.marks = [] ∧ f.get 7 = .int .i64 k ∧ f.get 3 = .slice a1 ks.length c1 ∧ f.get 5 = .slice a3 ks.length c3 ∧ t3 = s') ks.length ?_ ?_
  · exact ⟨0, by omega, rfl, by simp, by simp, by simp, by simp, rfl⟩
  rintro z f s' ⟨k, hk, rfl, hm, h7, h3, h5, rfl⟩
  by_cases hlt : k < ks.length
  · obtain ⟨x, hx⟩ : ∃ x, ks[k]? = some x := ⟨ks[k], by simp [hlt]⟩
    have hxl := hle x (List.mem_of_getElem? hx)
    have hEE : aggEq TT 39 #[.int .i64 x.m.a, .int .i64 x.m.b, .int .i64 x.m.c, .int .i64 x.m.d] #[.int .i64 x.m.a, .int .i64 x.m.b, .int .i64 x.m.c, .int .i64 x.m.d] = some (decide (x.m = x.m)) := aggEqA unA39 ceA39 hxl hxl
    rw [decide_eq_true rfl] at hEE
    obtain ⟨b1, o1, ob1, cs1, gg1, rfl, hb1, ho1, hc1, ht1⟩ := KnAt.at hw1' hx
    obtain ⟨b3, o3, ob3, cs3, gg3, rfl, hb3, ho3, hc3, ht3⟩ := KnAt.at hw3 hx
    obtain ⟨p1, q1⟩ := takeL_part ht1
    obtain ⟨p3, q3⟩ := takeL_part ht3
    have ve1 : veq 5 (Value.slice (some ⟨b1, o1, none⟩) ks.length c1) (Value.slice (some ⟨b1, o1, none⟩) ks.length c1) = true := veq_slice _ _ _ _ _
    have ve3 : veq 5 (Value.slice (some ⟨b3, o3, none⟩) ks.length c3) (Value.slice (some ⟨b3, o3, none⟩) ks.length c3) = true := veq_slice _ _ _ _ _
    with_reducible repeat first|apply Z0|apply Z1|apply Z2|apply Z3|apply Z4|apply Z5|refine Z6 rfl ?_|apply Z7|apply Z8|apply Z9|apply Z10|apply Z11|apply Z12|apply Z13|apply Z14|apply Z15|apply Z16
    refine Cd.reg (by kernel_rfl) (by conv => lhs; simp only [List.map_cons, List.map_nil]) (by conv => lhs; simp only [List.map_cons, List.map_nil, strip]) ?_
    apply Run.by_eq
    · intro self
      conv => lhs; simp -implicitDefEqProofs (maxSteps := 300000) (disch := omega) [-getElem?_pos, -getElem?_neg, h7, h3]
    try (with_reducible refine Run.ret ?_)
    with_reducible repeat first|apply Z0|apply Z1|apply Z2|apply Z3|apply Z4|apply Z5|refine Z6 rfl ?_|apply Z7|apply Z8|apply Z9|apply Z10|apply Z11|apply Z12|apply Z13|apply Z14|apply Z15|apply Z16
    with_reducible repeat first|apply Z0|apply Z1|apply Z2|apply Z3|apply Z4|apply Z5|refine Z6 rfl ?_|apply Z7|apply Z8|apply Z9|apply Z10|apply Z11|apply Z12|apply Z13|apply Z14|apply Z15|apply Z16
    apply Cd.ite rfl
    · conv => lhs; simp -implicitDefEqProofs (maxSteps := 300000) (disch := omega) [-getElem?_pos, -getElem?_neg]
    all_goals intro d1
    all_goals try (cases d1; done)
    all_goals try simp only [Bool.not_eq_true', Bool.not_eq_false', decide_eq_true_eq, decide_eq_false_iff_not] at d1
    all_goals with_reducible repeat first|apply Z0|apply Z1|apply Z2|apply Z3|apply Z4|apply Z5|refine Z6 rfl ?_|apply Z7|apply Z8|apply Z9|apply Z10|apply Z11|apply Z12|apply Z13|apply Z14|apply Z15|apply Z16
    · with_reducible repeat first|apply Z0|apply Z1|apply Z2|apply Z3|apply Z4|apply Z5|refine Z6 rfl ?_|apply Z7|apply Z8|apply Z9|apply Z10|apply Z11|apply Z12|apply Z13|apply Z14|apply Z15|apply Z16
      refine Cd.drawnH (pl := [(0, 0, false, false), (1, 0, false, false), (2, 3, false, false), (3, 7, false, false), (4, 15, false, false), (5, 0, false, false), (6, 0, false, false), (7, 96, false, false), (8, 224, false, false), (9, 480, false, false), (10, 1023, false, false), (11, 2047, false, false), (12, 4095, false, false), (13, 4095, false, false), (14, 16383, false, false), (15, 32767, false, false), (16, 65535, false, false), (17, 4095, false, false), (18, 4095, false, false), (19, 397311, false, false), (20, 921599, false, false), (21, 1970175, false, false), (22, 4194303, false, false), (23, 8388607, false, false)]) [false, false, false, false, false, false, false, false, false, false, false, false, false, false, false, false, false, false, false, false, false, false, false, false] (by kernel_rfl) (by decide) (by decide) (by conv => lhs; simp only [List.map_cons, List.map_nil]) (by conv => lhs; simp [strip, orderedG, flagH]) ?_
      apply Run.by_eq
      · intro self
        conv => lhs; simp -implicitDefEqProofs (maxSteps := 300000) (disch := omega) [-getElem?_pos, -getElem?_neg, h7, h3, h5, hlt, ho1, hc1, ho3, hc3, p1, q1, p3, q3, ve1, ve3, hEE]
      try (with_reducible refine Run.ret ?_)
      with_reducible repeat first|apply Z0|apply Z1|apply Z2|apply Z3|apply Z4|apply Z5|refine Z6 rfl ?_|apply Z7|apply Z8|apply Z9|apply Z10|apply Z11|apply Z12|apply Z13|apply Z14|apply Z15|apply Z16
      with_reducible repeat first|apply Z0|apply Z1|apply Z2|apply Z3|apply Z4|apply Z5|refine Z6 rfl ?_|apply Z7|apply Z8|apply Z9|apply Z10|apply Z11|apply Z12|apply Z13|apply Z14|apply Z15|apply Z16
      apply Cd.ite rfl
      · conv => lhs; simp -implicitDefEqProofs (maxSteps := 300000) (disch := omega) [-getElem?_pos, -getElem?_neg]
      all_goals intro d2
      all_goals try (cases d2; done)
      all_goals try simp only [Bool.not_eq_true', Bool.not_eq_false', decide_eq_true_eq, decide_eq_false_iff_not] at d2
      all_goals with_reducible repeat first|apply Z0|apply Z1|apply Z2|apply Z3|apply Z4|apply Z5|refine Z6 rfl ?_|apply Z7|apply Z8|apply Z9|apply Z10|apply Z11|apply Z12|apply Z13|apply Z14|apply Z15|apply Z16
      with_reducible repeat first|apply Z0|apply Z1|apply Z2|apply Z3|apply Z4|apply Z5|refine Z6 rfl ?_|apply Z7|apply Z8|apply Z9|apply Z10|apply Z11|apply Z12|apply Z13|apply Z14|apply Z15|apply Z16
      refine Cd.reg (by kernel_rfl) (by conv => lhs; simp only [List.map_cons, List.map_nil]) (by conv => lhs; simp only [List.map_cons, List.map_nil, strip]) ?_
      apply Run.by_eq
      · intro self
        conv => lhs; simp -implicitDefEqProofs (maxSteps := 300000) (disch := omega) [-getElem?_pos, -getElem?_neg, h7]
      try (with_reducible refine Run.ret ?_)
      with_reducible repeat first|apply Z0|apply Z1|apply Z2|apply Z3|apply Z4|apply Z5|refine Z6 rfl ?_|apply Z7|apply Z8|apply Z9|apply Z10|apply Z11|apply Z12|apply Z13|apply Z14|apply Z15|apply Z16
      exact LoopK.nm (ks.length - (k + 1)) (by omega) ⟨k + 1, by omega, rfl, by simp [hm], by simp, by simp [h3], by simp [h5], rfl⟩
    · simp at d1; omega
  · obtain rfl : k = ks.length := by omega
    with_reducible repeat first|apply Z0|apply Z1|apply Z2|apply Z3|apply Z4|apply Z5|refine Z6 rfl ?_|apply Z7|apply Z8|apply Z9|apply Z10|apply Z11|apply Z12|apply Z13|apply Z14|apply Z15|apply Z16
    refine Cd.reg (by kernel_rfl) (by conv => lhs; simp only [List.map_cons, List.map_nil]) (by conv => lhs; simp only [List.map_cons, List.map_nil, strip]) ?_
    apply Run.by_eq
    · intro self
      conv => lhs; simp -implicitDefEqProofs (maxSteps := 300000) (disch := omega) [-getElem?_pos, -getElem?_neg, h7, h3]
    try (with_reducible refine Run.ret ?_)
    with_reducible repeat first|apply Z0|apply Z1|apply Z2|apply Z3|apply Z4|apply Z5|refine Z6 rfl ?_|apply Z7|apply Z8|apply Z9|apply Z10|apply Z11|apply Z12|apply Z13|apply Z14|apply Z15|apply Z16
    with_reducible repeat first|apply Z0|apply Z1|apply Z2|apply Z3|apply Z4|apply Z5|refine Z6 rfl ?_|apply Z7|apply Z8|apply Z9|apply Z10|apply Z11|apply Z12|apply Z13|apply Z14|apply Z15|apply Z16
    apply Cd.ite rfl
    · conv => lhs; simp -implicitDefEqProofs (maxSteps := 300000) (disch := omega) [-getElem?_pos, -getElem?_neg]
    all_goals intro d1
    all_goals try (cases d1; done)
    all_goals try simp only [Bool.not_eq_true', Bool.not_eq_false', decide_eq_true_eq, decide_eq_false_iff_not] at d1
    all_goals with_reducible repeat first|apply Z0|apply Z1|apply Z2|apply Z3|apply Z4|apply Z5|refine Z6 rfl ?_|apply Z7|apply Z8|apply Z9|apply Z10|apply Z11|apply Z12|apply Z13|apply Z14|apply Z15|apply Z16
    with_reducible repeat first|apply Z0|apply Z1|apply Z2|apply Z3|apply Z4|apply Z5|refine Z6 rfl ?_|apply Z7|apply Z8|apply Z9|apply Z10|apply Z11|apply Z12|apply Z13|apply Z14|apply Z15|apply Z16
    refine Cd.reg (by kernel_rfl) (by conv => lhs; simp only [List.map_cons, List.map_nil]) (by conv => lhs; simp only [List.map_cons, List.map_nil, strip]) ?_
    apply Run.by_eq
    · intro self
      conv => lhs; simp -implicitDefEqProofs (maxSteps := 300000) (disch := omega) [-getElem?_pos, -getElem?_neg]
    try (with_reducible refine Run.ret ?_)
    with_reducible repeat first|apply Z0|apply Z1|apply Z2|apply Z3|apply Z4|apply Z5|refine Z6 rfl ?_|apply Z7|apply Z8|apply Z9|apply Z10|apply Z11|apply Z12|apply Z13|apply Z14|apply Z15|apply Z16
    refine Run.call (Ev.stub rfl ?_)
    apply Run.by_eq
    · intro self
      conv => lhs; simp -implicitDefEqProofs (maxSteps := 300000) (disch := omega) [-getElem?_pos, -getElem?_neg]
    try (with_reducible refine Run.ret ?_)
    with_reducible repeat first|apply Z0|apply Z1|apply Z2|apply Z3|apply Z4|apply Z5|refine Z6 rfl ?_|apply Z7|apply Z8|apply Z9|apply Z10|apply Z11|apply Z12|apply Z13|apply Z14|apply Z15|apply Z16
    apply Leave.mk (by first | exact .inl rfl | exact .inr rfl) (by simp only [Fr.marks_put, fr0_marks, hm])
    · conv => lhs; simp -implicitDefEqProofs (disch := omega) [Try.results4, hm]
    rfl
end Go.Proofs.Ytifkpaomhnlahaa
namespace Go.Proofs.Ytifkpaomhnlahaa
open Go RowKit
theorem fitsW : Kern.tabFits Try.prog = true := by kernel_rfl
theorem works_true : Kern.isTrue ((Kern.run (Kern.tabOf Try.prog) 30000).call 13 [] ⟨.leaf, 0⟩) = true := by kernel_rfl
theorem works_calls (w : World) : Calls Try.prog 13 #[] w fun e w' => e = .returned (.bool true) ∧ Below w.heap.size w w' :=
  Kern.calls_of_run (Kern.tabOf_ok fitsW) rfl (Kern.StubOk.none rfl) works_true w
end Go.Proofs.Ytifkpaomhnlahaa
namespace Go.Proofs.Ytifkpaomhnlahaa
open Go Kern RowKit
/-- A slice of the world whose elements are known, cell by cell. -/
def SlW (W : World) (n : Nat) (v : Value) (l : List (List Value)) : Prop :=
  (l = [] ∧ v = .slice none 0 0) ∨ ∃ (b off cap : Nat) (C : Array Value) (e : TypeId) (fr : Nat × Nat), v = .slice (some ⟨b, off, none⟩) l.length cap ∧ W.heap[b]? = some (.cells C e fr) ∧
    (l ≠ [] → off + l.flatten.length ≤ C.size ∧ (C.toList.drop off).take l.flatten.length = l.flatten)
theorem romAt_pushed {s : St} {o : AObj} {i : Nat} (h : i ≠ s.next) : romAt (s.pushed o).heap i = romAt s.heap i := by
  unfold romAt; rw [get_pushed_old _ _ _ h]
theorem WRel_rom {N : Nat} {σ : Ren} {s : St} {w : World} (hw : WRel N σ s w) {b sh : Nat} {c : List Value} {C : Array Value} {e : TypeId} {fr : Nat × Nat} (hb : w.heap[b]? = some (.cells C e fr)) (hN : b < N) (hs : sh + c.length ≤ C.size)
    (h : LRel σ c ((C.toList.drop sh).take c.length)) : WRel N (σ.add s.next b sh none) (s.pushed (.rom c)) w := by
  have hle := Ren.le_add (b := b) (sh := sh) (x := none) (hw.fresh (Nat.le_refl s.next))
  have hlt : b < w.heap.size := (Array.getElem?_eq_some_iff.1 hb).1
  refine ⟨hw.base, ?_, ?_, ?_, ?_⟩
  · intro i b' sh' x' hi
    by_cases ei : i = s.next
    · subst ei
      rw [Ren.add_same] at hi; cases hi
      have : romAt (s.pushed (.rom c)).heap s.next = true := by unfold romAt; rw [get_pushed_new]; rfl
      exact ⟨⟨fun k => (by rw [this] at k; cases k), fun _ => hN⟩, hlt⟩
    · rw [Ren.add_ne ei] at hi
      rw [romAt_pushed ei]
      exact hw.lt hi
  · intro i hi
    rw [Ren.add_ne (by have : s.next + 1 ≤ i := hi; omega)]
    exact hw.fresh (by have : s.next + 1 ≤ i := hi; omega)
  · intro i b' sh' x' o hi ho
    by_cases ei : i = s.next
    · subst ei
      rw [Ren.add_same] at hi; cases hi
      rw [get_pushed_new] at ho; cases ho
      exact ⟨_, hb, .rom rfl hs (h.mono hle)⟩
    · rw [Ren.add_ne ei] at hi
      rw [get_pushed_old _ _ _ ei] at ho
      obtain ⟨O, h1, h2⟩ := hw.real hi ho
      exact ⟨O, h1, h2.mono hle⟩
  · intro i j b' sh1 x1 sh2 x2 o1 o2 hi hj h1 h2 d1 d2 hr
    by_cases ei : i = s.next
    · subst ei
      rw [get_pushed_new] at h1; cases h1; cases hr
    · rw [Ren.add_ne ei] at hi
      rw [get_pushed_old _ _ _ ei] at h1
      by_cases ej : j = s.next
      · subst ej
        rw [Ren.add_same] at hj; cases hj
        have : romAt s.heap i = false := by unfold romAt; rw [h1]; exact hr
        exact absurd ((hw.lt hi).1.1 this) (by omega)
      · rw [Ren.add_ne ej] at hj
        rw [get_pushed_old _ _ _ ej] at h2
        exact hw.inj hi hj h1 h2 d1 d2 hr
/-- A slice of the world gets a read-only block of the calculation. -/
theorem attach {N : Nat} {σ : Ren} {s : St} {w : World} (hw : WRel N σ s w) (hN : N = w.heap.size) {n : Nat} {v : Value} {l : List (List Value)} (h : SlW w n v l) (hl : ∀ x ∈ l, x.length = n) (hc : l.flatten.all closed1 = true) :
    ∃ τ s' v', σ.le τ ∧ WRel N τ s' w ∧ VRel τ v' v ∧ SlAt n s' v' l ∧ Keep s s' := by
  rcases h with ⟨rfl, rfl⟩ | ⟨b, off, cap, C, e, fr, rfl, hb, hf⟩
  · exact ⟨σ, s, .slice none 0 0, σ.le_refl, hw, .sliceNil _ _, .nil 0, Keep.refl _⟩
  have hlt : b < w.heap.size := (Array.getElem?_eq_some_iff.1 hb).1
  by_cases he : l = []
  · subst he
    have hw2 := WRel_rom hw (sh := 0) (c := []) hb (by omega) (by simp) (by simpa using LRel.nil)
    refine ⟨_, _, .slice (some ⟨s.next, off, none⟩) 0 cap, Ren.le_add (hw.fresh (Nat.le_refl _)), hw2, ?_, ?_, (Keep.refl s).pushed _⟩
    · have := VRel.slice (σ := σ.add s.next b 0 none) (i := s.next) (o := off) (o' := off) (b := b) (s := 0) (l := 0) (c := cap) (c' := cap) (x := none) Ren.add_same ⟨rfl, rfl⟩
      rw [Nat.zero_add] at this
      exact this
    · exact SlAt.mk (l := []) (Nat.lt_succ_self _) (get_pushed_new _ _) rfl (fun i e h => by simp at h)
  · obtain ⟨h1, h2⟩ := hf he
    have hw2 := WRel_rom hw (sh := off) (c := l.flatten) hb (by omega) h1 (by rw [h2]; exact closedL_rel hc)
    refine ⟨_, _, .slice (some ⟨s.next, 0, none⟩) l.length cap, Ren.le_add (hw.fresh (Nat.le_refl _)), hw2, ?_, ?_, (Keep.refl s).pushed _⟩
    · exact VRel.slice (σ := σ.add s.next b off none) (i := s.next) (o := 0) (o' := 0) (b := b) (s := off) (l := l.length) (c := cap) (c' := cap) (x := none) Ren.add_same ⟨rfl, rfl⟩
    · exact SlAt.mk (Nat.lt_succ_self _) (get_pushed_new _ _) rfl (fun i e h => by rw [Nat.zero_add]; exact drop_flat hl h)
theorem stubOk : StubOk Try.prog TT :=
  ⟨fun {g} h => by cases h; exact ⟨Try.f13, by kernel_rfl, by kernel_rfl, rfl⟩, fun {g} h w => by cases h; exact works_calls w⟩
/-- What the calculation finds true holds of the call in the world. -/
theorem calls_of_ev {g : FuncId} {args : List Value} {s : St} (h : Ev TT g args s fun r _ => r = .bool true) {N : Nat} {σ : Ren} {w : World} (hw : WRel N σ s w) (hN : N = w.heap.size) {args' : Array Value} (ha : LRel σ args args'.toList) :
    Calls Try.prog g args' w fun e w' => e = .returned (.bool true) ∧ Below w.heap.size w w' := by
  obtain ⟨m, ⟨v, s'⟩, h1, h2⟩ := h
  have h2' : v = .bool true := h2
  subst h2'
  refine ((run_ok tabOk rfl stubOk m).call (h1 m (Nat.le_refl _)) hw ha).mono fun e w' he => ?_
  obtain ⟨τ, v', rfl, hx, _, hv⟩ := he
  rw [hv.of_bool]
  exact ⟨rfl, hN ▸ hx.below⟩
end Go.Proofs.Ytifkpaomhnlahaa
namespace Go.Proofs.Ytifkpaomhnlahaa
open Go Kern RowKit Go.ChangeShapes Go.WideShapes Go.ChangeAt
open Go.ChangeMaps (open_string)
theorem take_eq_of {α : Type} {L cs : List α} {k n : Nat} (hl : cs.length = n) (h : ∀ j, j < n → L[k + j]? = cs[j]?) : (L.drop k).take n = cs := by
  apply List.ext_getElem?
  intro j
  rw [List.getElem?_take, List.getElem?_drop]
  by_cases hj : j < n
  · rw [if_pos hj]; exact h j hj
  · rw [if_neg hj, List.getElem?_eq_none (by omega)]
theorem rows_flat {α : Type} {L : List α} {k n : Nat} (g : Nat → List α) : ∀ {len : Nat}, (∀ i, i < len → (L.drop (k + i * n)).take n = g i) → ((List.range len).map g).flatten = (L.drop k).take (len * n)
  | 0, _ => by simp
  | len + 1, h => by
    rw [List.range_succ, List.map_append, List.flatten_append, rows_flat g (fun i hi => h i (by omega)), List.map_cons, List.map_nil, List.flatten_cons, List.flatten_nil, List.append_nil, ← h len (by omega),
      Nat.add_mul, Nat.one_mul, List.take_add, List.drop_drop]
/-- A slice that the row reads, as a list of its elements' cells. -/
theorem slW_of {H : Type} {enc : TypeId × Value → H} {P : Program} {W : World} {t e : TypeId} {n fuel : Nat} {v : Value} {x : DataW H × List MemPlace} (ht : P.underlying t = some (.slice e)) (hn : P.cellsOf e = n) (hn0 : 0 < n)
    (hok : Cell.ok P W .any 0 t v) (h : DataW.trod enc P W 0 (fun _ => true) true fuel t [v] = some x) :
    ∃ l, SlW W n v l ∧ (∀ y ∈ l, y.length = n) ∧ ∀ y ∈ l, ∃ m z, DataW.trod enc P W 0 (fun _ => true) true m e y = some z := by
  rcases Go.Deep.open_slice ht h with ⟨hcs, _⟩ | ⟨a, len, cap, m, q, D, Pl, hcs, _, hlc, _, hm, _, hel⟩
  · simp at hcs; subst hcs
    exact ⟨[], .inl ⟨rfl, rfl⟩, by simp, by simp⟩
  · simp at hcs; subst hcs
    simp only [Cell.ok, ht] at hok
    obtain ⟨_, _, _, hsp, row, cells, hsh, _⟩ := hok
    obtain ⟨b, off, spot⟩ := a
    simp only at hsp; subst hsp
    obtain ⟨C, E, fr, hb⟩ : ∃ C E fr, W.heap[b]? = some (.cells C E fr) := by
      unfold World.shape? at hsh
      simp only at hsh
      split at hsh
      · rename_i c el fr hh; exact ⟨c, el, fr, hh⟩
      all_goals cases hsh
    rw [hn] at hel
    simp at hm; subst hm
    have hrow : ∀ i, i < len → ∃ cs', cs'.length = n ∧ (∀ j, j < n → C.toList[off + i * n + j]? = cs'[j]?) ∧ ∃ z, DataW.trod enc P W 0 (fun _ => true) true q e cs' = some z := fun i hi => by
      obtain ⟨cs', h1, h2⟩ := hel i (by omega)
      obtain ⟨_, h3, h4⟩ := World.cells?_some h1
      refine ⟨cs', h3, fun j hj => ?_, _, h2⟩
      have := h4 j hj
      rw [addr_add, addr_add] at this
      simp only [World.cell?, hb] at this
      simpa using this
    have hg : ∀ i, i < len → ((C.toList.drop (off + i * n)).take n).length = n ∧ ∃ z, DataW.trod enc P W 0 (fun _ => true) true q e ((C.toList.drop (off + i * n)).take n) = some z := fun i hi => by
      obtain ⟨cs', h1, h2, z, h3⟩ := hrow i hi
      rw [take_eq_of h1 h2]
      exact ⟨h1, z, h3⟩
    have hfl := rows_flat (L := C.toList) (k := off) (n := n) (len := len) (fun i => (C.toList.drop (off + i * n)).take n) fun _ _ => rfl
    refine ⟨(List.range len).map fun i => (C.toList.drop (off + i * n)).take n, .inr ⟨b, off, m, C, E, fr, by simp, hb, fun hne => ?_⟩, fun y hy => ?_, fun y hy => ?_⟩
    · rw [hfl]
      have hlen : 0 < len := by
        rcases Nat.eq_zero_or_pos len with h | h
        · subst h; simp at hne
        · exact h
      obtain ⟨cs', h1, h2, _⟩ := hrow (len - 1) (by omega)
      have h3 := h2 (n - 1) (by omega)
      rw [List.getElem?_eq_getElem (l := cs') (by omega)] at h3
      have h4 := (List.getElem?_eq_some_iff.1 h3).1
      have h5 : len * n = (len - 1) * n + n := by rw [← Nat.succ_mul]; congr 1; omega
      have h6 : off + len * n ≤ C.size := by simp at h4; omega
      have h7 : ((C.toList.drop off).take (len * n)).length = len * n := by simp; omega
      rw [h7]
      exact ⟨h6, rfl⟩
    · obtain ⟨i, hi, rfl⟩ := List.mem_map.1 hy
      exact (hg i (by simpa using hi)).1
    · obtain ⟨i, hi, rfl⟩ := List.mem_map.1 hy
      obtain ⟨z, hz⟩ := (hg i (by simpa using hi)).2
      exact ⟨_, z, hz⟩
theorem list_of {α β : Type} {g : β → α} : ∀ {l : List α}, (∀ y ∈ l, ∃ f, y = g f) → ∃ fs : List β, l = fs.map g
  | [], _ => ⟨[], rfl⟩
  | y :: r, h => by
    obtain ⟨f, rfl⟩ := h y (.head _)
    obtain ⟨fs, rfl⟩ := list_of (l := r) fun z hz => h z (.tail _ hz)
    exact ⟨f :: fs, rfl⟩
theorem un3 : Try.prog.underlying 3 = some (.int .i64) := by kernel_rfl
theorem ce3 : Try.prog.cellsOf 3 = 1 := by kernel_rfl
theorem un22 : Try.prog.underlying 22 = some (.slice 82) := by kernel_rfl
theorem un24 : ∃ f0 f1 : Field, Try.prog.underlying 24 = some (.struct #[f0, f1]) ∧ f0.type = 3 ∧ f0.offset = 0 ∧ f1.type = 22 ∧ f1.offset = 1 := ⟨_, _, Try.underlying24, rfl, rfl, rfl, rfl⟩
theorem un25 : Try.prog.underlying 25 = some (.slice 3) := by kernel_rfl
theorem un36 : Try.prog.underlying 36 = some (.array 4 3) := by kernel_rfl
theorem un4 : Try.prog.underlying 4 = some .bool := by kernel_rfl
theorem un9 : Try.prog.underlying 9 = some .string := by kernel_rfl
theorem un82 : ∃ f0 f1 f2 f3 : Field, Try.prog.underlying 82 = some (.struct #[f0, f1, f2, f3]) ∧ (f0.type = 3 ∧ f0.offset = 0) ∧ (f1.type = 3 ∧ f1.offset = 1) ∧ (f2.type = 4 ∧ f2.offset = 2) ∧ (f3.type = 36 ∧ f3.offset = 3) := ⟨_, _, _, _, Try.underlying82, ⟨rfl, rfl⟩, ⟨rfl, rfl⟩, ⟨rfl, rfl⟩, rfl, rfl⟩
theorem ce82 : Try.prog.cellsOf 82 = 7 := by kernel_rfl
theorem ce4 : Try.prog.cellsOf 4 = 1 := by kernel_rfl
theorem ce36 : Try.prog.cellsOf 36 = 4 := by kernel_rfl
theorem ce22 : Try.prog.cellsOf 22 = 1 := by kernel_rfl
theorem ce24 : Try.prog.cellsOf 24 = 2 := by kernel_rfl
theorem ct24 : Try.prog.cellTypes Try.prog.depth 24 = some [3, 22] := by kernel_rfl
section
variable {H : Type} {enc : TypeId × Value → H} {W : World}
theorem flow_of {m : Nat} {cs : List Value} {z : DataW H × List MemPlace} (hl : cs.length = 7) (h : DataW.trod enc Try.prog W 0 (fun _ => true) true m 82 cs = some z) : ∃ f : FlowD, cs = f.cs := by
  match cs, hl with
  | [c0, c1, c2, c3, c4, c5, c6], _ =>
    obtain ⟨f0, f1, f2, f3, hu, ⟨t0, o0⟩, ⟨t1, o1⟩, ⟨t2, o2⟩, t3, o3⟩ := un82
    obtain ⟨y0, y1, y2, y3, n, _, _, h0, h1, h2, h3⟩ := Go.Joins.trod_struct4 hu h
    rw [t0, o0, ce3] at h0
    rw [t1, o1, ce3] at h1
    rw [t2, o2, ce4] at h2
    rw [t3, o3, ce36] at h3
    obtain ⟨x0, e0, _, _⟩ := DataW.trod_int un3 h0
    obtain ⟨x1, e1, _, _⟩ := DataW.trod_int un3 h1
    obtain ⟨x2, e2, _⟩ := DataW.trod_bool un4 h2
    obtain ⟨_, _, _, _, n', _, g0, g1, g2, g3⟩ := trod_array4 un36 ce3 h3
    obtain ⟨x3, e3, _, _⟩ := DataW.trod_int un3 g0
    obtain ⟨x4, e4, _, _⟩ := DataW.trod_int un3 g1
    obtain ⟨x5, e5, _, _⟩ := DataW.trod_int un3 g2
    obtain ⟨x6, e6, _, _⟩ := DataW.trod_int un3 g3
    simp at e0 e1 e2 e3 e4 e5 e6
    subst e0 e1 e2 e3 e4 e5 e6
    exact ⟨⟨x0, x1, x2, ⟨x3, x4, x5, x6⟩⟩, rfl⟩
theorem int_of {m : Nat} {cs : List Value} {z : DataW H × List MemPlace} (h : DataW.trod enc Try.prog W 0 (fun _ => true) true m 3 cs = some z) : ∃ x : Int, cs = [Value.int .i64 x] := by
  obtain ⟨x, e, _, _⟩ := DataW.trod_int un3 h
  exact ⟨x, e⟩
set_option maxRecDepth 100000 in
/-- A plant, as the row reads it. -/
theorem plant_of {v : Value} {d : DataW H} {p : List MemPlace} (hv : Value.okWide Try.prog W .any 0 24 v) (h : DataW.Trod enc Try.prog W 0 (fun _ => true) true 24 v d p) :
    ∃ (u : Int) (fl : Value) (fs : List FlowD), v = .agg #[.int .i64 u, fl] ∧ SlW W 7 fl (fs.map FlowD.cs) := by
  obtain ⟨f0, f1, hu, t0, o0, t1, o1⟩ := un24
  have hv' := hv
  simp only [Value.okWide, hu] at hv'
  obtain ⟨cs, rfl, hsz, ts, hts, _, hrow⟩ := hv'
  rw [ct24] at hts; cases hts
  rw [ce24] at hsz
  obtain ⟨fuel, hf⟩ := h
  obtain ⟨l⟩ := cs
  match l, hsz with
  | [c0, c1], _ =>
    obtain ⟨y0, y1, n, _, _, h0, h1⟩ := trod_struct2 hu hf
    rw [t0, o0, ce3] at h0
    rw [t1, o1, ce22] at h1
    obtain ⟨u, e0, _, _⟩ := DataW.trod_int un3 h0
    simp [Value.cells] at e0 h1
    subst e0
    obtain ⟨w, hw, hok⟩ := hrow 1 c1 rfl
    simp at hw; subst hw
    obtain ⟨a, len, cap, rfl⟩ : ∃ a len cap, c1 = .slice a len cap := by
      simp only [Cell.okWide, un22] at hok
      cases c1 <;> simp_all [Cell.ok]
    have hok' : Cell.ok Try.prog W .any 0 22 (.slice a len cap) := by
      simp only [Cell.okWide, un22] at hok; exact hok
    obtain ⟨l, g1, g2, g3⟩ := slW_of un22 ce82 (by omega) hok' h1
    obtain ⟨fs, rfl⟩ := list_of (g := FlowD.cs) fun y hy => by
      obtain ⟨m, z, hz⟩ := g3 y hy
      exact flow_of (g2 y hy) hz
    exact ⟨u, _, fs, rfl, g1⟩
set_option maxRecDepth 100000 in
theorem ints_of {v : Value} {d : DataW H} {p : List MemPlace} (hv : Value.okWide Try.prog W .any 0 25 v) (h : DataW.Trod enc Try.prog W 0 (fun _ => true) true 25 v d p) :
    ∃ xs : List Int, SlW W 1 v (xs.map fun x => [Value.int .i64 x]) := by
  obtain ⟨a, len, cap, rfl⟩ := okWide_slice un25 hv
  have hok' : Cell.ok Try.prog W .any 0 25 (.slice a len cap) := by
    simp only [Value.okWide, un25, Cell.okWide] at hv; exact hv
  obtain ⟨fuel, hf⟩ := h
  obtain ⟨l, g1, g2, g3⟩ := slW_of un25 ce3 (by omega) hok' hf
  obtain ⟨xs, rfl⟩ := list_of (g := fun x : Int => [Value.int .i64 x]) fun y hy => by
    obtain ⟨m, z, hz⟩ := g3 y hy
    exact int_of hz
  exact ⟨xs, g1⟩
end
end Go.Proofs.Ytifkpaomhnlahaa
namespace Go.Proofs.Ytifkpaomhnlahaa
open Go Kern RowKit Go.ChangeShapes Go.WideShapes Go.ChangeAt
theorem lawC_calls (u : Int) (v : Value) (fs : List FlowD) (W : World) (hf : SlW W 7 v (fs.map FlowD.cs)) :
    Calls Try.prog 4 #[.agg #[.int .i64 u, v]] W fun e w' => e = .returned (.bool true) ∧ Below W.heap.size W w' := by
  have hw0 : WRel W.heap.size (fun _ => none) ⟨.leaf, 0⟩ W := ⟨Nat.le_refl _, (fun h => by cases h), fun _ => rfl, (fun h => by cases h), (fun h => by cases h)⟩
  obtain ⟨σ1, s1, v', _, hw1, hv, hs1, k1⟩ := attach hw0 rfl hf (fun x hx => by obtain ⟨f, _, rfl⟩ := List.mem_map.1 hx; rfl) (by
    rw [List.all_eq_true]; intro y hy
    obtain ⟨z, hz, hy⟩ := List.mem_flatten.1 hy
    obtain ⟨f, _, rfl⟩ := List.mem_map.1 hz
    simp [FlowD.cs] at hy
    rcases hy with rfl | rfl | rfl | rfl | rfl | rfl | rfl <;> rfl)
  refine calls_of_ev (lawC_ev u v' fs s1 hs1) hw1 rfl ?_
  exact .cons (.agg (.cons (.int _ _) (.cons hv .nil))) .nil
theorem Try.own : ownKnob Try.prog.godebug = none := by kernel_rfl
theorem laidB : laidOutB Try.prog = true := by kernel_rfl
theorem again_of {H : Type} {enc : TypeId × Value → H} {t : TypeId} {W W' : World} {v : Value} {d : DataW H} {p : List MemPlace} (hr : Try.prog.readableRec t = true) (ht : t < Try.prog.types.size)
    (h : DataW.Trod enc Try.prog W 0 (fun _ => true) true t v d p) (hb : Below W.heap.size W W') : DataW.Trod enc Try.prog W' 0 (fun b => decide (b < W.heap.size)) true t v d p :=
  Below.trod laidB hr ht h hb (DataW.TrodAll.lt (trodAll_mk1 h))
set_option maxRecDepth 100000 in
theorem closes_lifted (os : Os) (started : os.Started) (H : Type) (enc : TypeId × Value → H) :
    ReturnsInHanded {} Try.checked os 4 .any (Rows.bulkClosesSpec.pre6 enc Try.prog Try.f4 Rows.bulkClosesRow.domain false) (Rows.bulkClosesSpec.post enc Try.prog Try.f4 false true false false) := by
  refine returnsInHanded_of_change (C := Try.checked) Try.own started (by kernel_rfl) Try.func4
    (ChangeSpec.witness6 (enc := enc) (C := Try.checked) false ⟨#[], #[.agg #[.int .i64 0, .slice none 0 0]], []⟩ 8 (by kernel_rfl) (by kernel_rfl) (by kernel_rfl) (by kernel_rfl)) ?_
  intro W base args ds gs before hval hW hcnd _
  have hW' := hW
  obtain ⟨p, q, hA0, hV, rfl, hfz, hnd⟩ := hW
  have hA : DataW.TrodAll enc Try.prog W 0 (fun _ => true) true Try.f4.params.toList args.toList ds p := hA0
  rw [Try.params4] at hA
  obtain ⟨v0, d0, rfl, rfl, h0⟩ := trodAll_one hA
  obtain ⟨rfl, rfl⟩ := trodVars_none hV
  obtain ⟨u, fl, fs, rfl, hf⟩ := plant_of (hval 0 24 v0 rfl rfl) h0
  refine (lawC_calls u fl fs W hf).mono fun e W' ⟨he, hb⟩ => ?_
  subst he
  exact ⟨_, rfl, [_], [], _, [], _, [], hW', trodAll_mk1 (shut_bool Try.underlying4 _), trodAll_mk1 (again_of (by kernel_rfl) (of_decide_eq_true (by kernel_rfl)) h0 hb), rfl, hb.frame _, fun h => by cases h⟩

theorem closes_holds : Rows.BulkClosesSaid :=
  OpenClaim.holds_of_wide 4 Try.f4 rfl rfl rfl rfl rfl rfl rfl ⟨rfl, rfl, rfl, rfl, rfl⟩ rfl rfl rfl rfl rfl (by kernel_rfl) Try.func4 (by kernel_rfl)
    (of_decide_eq_true (by kernel_rfl)) (by unfold Func.isWrapper; first | (rw [if_pos (by decide +kernel)]; kernel_rfl) | (rw [if_neg (by decide +kernel)]; exact ⟨rfl, rfl⟩))
    (fun os started H enc _ => closes_lifted os started H enc)
end Go.Proofs.Ytifkpaomhnlahaa
