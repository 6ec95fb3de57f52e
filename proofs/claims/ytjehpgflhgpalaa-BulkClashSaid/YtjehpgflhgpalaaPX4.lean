/-
  What flows of a forest join, and what hangs apart without one of them. Sums of masses, and numbers of ends. What is gathered of a tree, flow after flow. Leaks and Refutes answer as stated, for every plant, units and kind. The reference's sides and Refutes answer as stated. The reference's clash is as stated, for every valid plant. The forest is chosen as stated, for every list of flows. What hangs on an end is settled as stated, for every tree. A balance is settled as stated, for every plant. If no part has an excess, as much comes to each unit as goes from it. A flow that is found carries what its side has as excess. Prove and the reference's Prove answer as stated, for every plant. Close answers as stated, for every plant. Regions that draw their order and make blocks, as equations. One mass of a mill by numbers is as its list says, and one bit of a number. The reference's Close answers as stated, for every plant. What a mill by numbers is: ends, masses and what units have left. Slices are copied and appended whole, as stated. Verify answers as stated, for every plant and balance. The reference's Verify answers as stated, for every plant and balance. They hold with no condition but those that are written in each theorem.
-/
import Derived.Test.YtjehpgflhgpalaaPX1
import Derived.Test.YtjehpgflhgpalaaPX2
import Derived.Test.YtjehpgflhgpalaaPX3
set_option linter.unusedSimpArgs false
set_option linter.unusedVariables false
namespace Go.Proofs.Ytjehpgflhgpalaa
open Go Kern
/-- What is joined by flows that may be used. -/
inductive Path (fs : List FlowD) (E : Nat → Prop) (x : Int) : Int → Prop
  | refl : Path fs E x x
  | step {y z : Int} (j : Nat) (f : FlowD) (h : Path fs E x y) (hj : fs[j]? = some f) (he : E j) (hz : (f.fr = y ∧ f.to = z) ∨ (f.fr = z ∧ f.to = y)) : Path fs E x z
section
variable {fs : List FlowD} {E E' : Nat → Prop} {x y z : Int}
theorem Path.trans (h : Path fs E x y) (k : Path fs E y z) : Path fs E x z := by
  induction k with
  | refl => exact h
  | step j f _ hj he hz ih => exact .step j f ih hj he hz
theorem Path.symm (h : Path fs E x y) : Path fs E y x := by
  induction h with
  | refl => exact .refl
  | step j f _ hj he hz ih => exact Path.trans (.step j f .refl hj he (by rcases hz with ⟨a, b⟩ | ⟨a, b⟩; exact .inr ⟨a, b⟩; exact .inl ⟨a, b⟩)) ih
theorem Path.mono (h : Path fs E x y) (k : ∀ j f, fs[j]? = some f → E j → E' j) : Path fs E' x y := by
  induction h with
  | refl => exact .refl
  | step j f _ hj he hz ih => exact .step j f ih hj (k j f hj he) hz
theorem Path.one {j : Nat} {f : FlowD} (hj : fs[j]? = some f) (he : E j) : Path fs E f.fr f.to := .step j f .refl hj he (.inl ⟨rfl, rfl⟩)
theorem Path.split {k : Nat} {f : FlowD} (hk : fs[k]? = some f) (h : Path fs (fun j => E j ∨ j = k) x y) : Path fs E x y ∨ (Path fs E x f.fr ∧ Path fs E f.to y) ∨ (Path fs E x f.to ∧ Path fs E f.fr y) := by
  induction h with
  | refl => exact .inl .refl
  | step j g _ hj he hz ih =>
    by_cases e : E j
    · rcases ih with h | ⟨h1, h2⟩ | ⟨h1, h2⟩
      · exact .inl (.step j g h hj e hz)
      · exact .inr (.inl ⟨h1, .step j g h2 hj e hz⟩)
      · exact .inr (.inr ⟨h1, .step j g h2 hj e hz⟩)
    · obtain rfl : j = k := he.resolve_left e
      rw [hk] at hj; cases hj
      rcases hz with ⟨rfl, rfl⟩ | ⟨rfl, rfl⟩ <;> rcases ih with h | ⟨h1, h2⟩ | ⟨h1, h2⟩
      · exact .inr (.inl ⟨h, .refl⟩)
      · exact .inr (.inl ⟨h1, .refl⟩)
      · exact .inl h1
      · exact .inr (.inr ⟨h, .refl⟩)
      · exact .inl h1
      · exact .inr (.inr ⟨h1, .refl⟩)
theorem Path.absorb {k : Nat} {f : FlowD} (hk : fs[k]? = some f) (hab : Path fs E f.fr f.to) (h : Path fs (fun j => E j ∨ j = k) x y) : Path fs E x y := by
  rcases h.split hk with h | ⟨h1, h2⟩ | ⟨h1, h2⟩
  · exact h
  · exact h1.trans (hab.trans h2)
  · exact h1.trans (hab.symm.trans h2)
end
/-- The flows that are not measured, but one. -/
def Unm (fs : List FlowD) (lo : Int) (j : Nat) : Prop := (∃ f, fs[j]? = some f ∧ f.me = false) ∧ (j : Int) ≠ lo
theorem uni_iff (rt : Int → Int) (a b x y : Int) : uni rt a b x = uni rt a b y ↔ rt x = rt y ∨ (rt x = rt a ∧ rt b = rt y) ∨ (rt x = rt b ∧ rt a = rt y) := by
  unfold uni
  by_cases h : rt a = rt b
  · rw [if_pos h]
    constructor
    · exact .inl
    · rintro (h1 | ⟨h1, h2⟩ | ⟨h1, h2⟩)
      · exact h1
      · rw [h1, h, h2]
      · rw [h1, ← h, h2]
  · rw [if_neg h]
    by_cases hx : rt x = rt a
    · by_cases hy : rt y = rt a
      · simp [hx, hy]
      · simp only [hx, hy, if_true, if_false, true_and]
        constructor
        · exact fun h => .inr (.inl h)
        · rintro (h1 | h1 | ⟨_, h1⟩)
          · exact absurd h1.symm hy
          · exact h1
          · exact absurd h1.symm hy
    · by_cases hy : rt y = rt a
      · simp [hx, hy]
      · simp [hx, hy]
        intro _ h1
        exact absurd h1.symm hy
theorem rt_path (fs : List FlowD) (lo : Int) : ∀ (k : Nat) (x y : Int), rtF lo (fs.take k) 0 id x = rtF lo (fs.take k) 0 id y ↔ Path fs (fun j => j < k ∧ Unm fs lo j) x y
  | 0, x, y => by
    rw [List.take_zero]
    constructor
    · intro h
      obtain rfl : x = y := h
      exact .refl
    · intro h
      have : ∀ {x y}, Path fs (fun j => j < 0 ∧ Unm fs lo j) x y → x = y := fun h => by
        cases h with
        | refl => rfl
        | step j f _ _ he _ => exact absurd he.1 (by omega)
      rw [this h]
  | k + 1, x, y => by
    cases hk : fs[k]? with
    | none =>
      have : fs.take (k + 1) = fs.take k := by
        rw [List.getElem?_eq_none_iff] at hk
        rw [List.take_of_length_le (by omega), List.take_of_length_le hk]
      rw [this, rt_path fs lo k x y]
      constructor <;> refine fun h => h.mono fun j f hj he => ⟨?_, he.2⟩
      · have := he.1; omega
      · have := he.1
        have h2 : j ≠ k := fun e => by subst e; rw [hk] at hj; cases hj
        omega
    | some f =>
      rw [rtF_take lo fs 0 id k f hk, Nat.zero_add]
      unfold rtStep
      by_cases hu : f.me = false ∧ (k : Int) ≠ lo
      · rw [if_pos hu, uni_iff, rt_path fs lo k x y, rt_path fs lo k x f.fr, rt_path fs lo k f.to y, rt_path fs lo k x f.to, rt_path fs lo k f.fr y]
        have hE : ∀ {x y}, Path fs (fun j => j < k + 1 ∧ Unm fs lo j) x y ↔ Path fs (fun j => (j < k ∧ Unm fs lo j) ∨ j = k) x y := fun {x y} => by
          constructor <;> refine fun h => h.mono fun j g hj he => ?_
          · by_cases e : j = k
            · exact .inr e
            · exact .inl ⟨by have := he.1; omega, he.2⟩
          · rcases he with he | rfl
            · exact ⟨by have := he.1; omega, he.2⟩
            · exact ⟨by omega, ⟨f, hk, hu.1⟩, hu.2⟩
        have hin : ∀ {x y}, Path fs (fun j => j < k ∧ Unm fs lo j) x y → Path fs (fun j => (j < k ∧ Unm fs lo j) ∨ j = k) x y := fun h => h.mono fun j g _ he => .inl he
        have hed : Path fs (fun j => (j < k ∧ Unm fs lo j) ∨ j = k) f.fr f.to := Path.one hk (.inr rfl)
        rw [hE]
        constructor
        · rintro (h | ⟨h1, h2⟩ | ⟨h1, h2⟩)
          · exact hin h
          · exact (hin h1).trans (hed.trans (hin h2))
          · exact (hin h1).trans (hed.symm.trans (hin h2))
        · exact fun h => h.split hk
      · rw [if_neg hu, rt_path fs lo k x y]
        constructor <;> refine fun h => h.mono fun j g hj he => ⟨?_, he.2⟩
        · have := he.1; omega
        · have h1 := he.1
          have h2 : j ≠ k := fun e => by
            subst e
            obtain ⟨⟨g', hg', hm⟩, hne⟩ := he.2
            rw [hk] at hg'; cases hg'
            exact hu ⟨hm, hne⟩
          omega
theorem rt_path_all (fs : List FlowD) (lo : Int) (x y : Int) : rtF lo fs 0 id x = rtF lo fs 0 id y ↔ Path fs (Unm fs lo) x y := by
  have := rt_path fs lo fs.length x y
  rw [List.take_length] at this
  rw [this]
  constructor <;> refine fun h => h.mono fun j f hj he => ?_
  · exact he.2
  · exact ⟨(List.getElem?_eq_some_iff.1 hj).1, he⟩
/-- The flows of the forest. -/
def chB (fs : List FlowD) (j : Nat) : Bool := match fs[j]? with
  | some f => !f.me && !decide (rtF (-1) (fs.take j) 0 id f.fr = rtF (-1) (fs.take j) 0 id f.to)
  | none => false
theorem chB_some {fs : List FlowD} {j : Nat} {f : FlowD} (hj : fs[j]? = some f) : chB fs j = (!f.me && !decide (rtF (-1) (fs.take j) 0 id f.fr = rtF (-1) (fs.take j) 0 id f.to)) := by unfold chB; rw [hj]
theorem chB_unm {fs : List FlowD} {j : Nat} (h : chB fs j = true) : Unm fs (-1) j := by
  unfold chB at h
  split at h
  · rename_i f hf
    simp only [Bool.and_eq_true, Bool.not_eq_true'] at h
    exact ⟨⟨f, hf, h.1⟩, by omega⟩
  · cases h
theorem forest_path (fs : List FlowD) : ∀ (k : Nat) (x y : Int), Path fs (fun j => j < k ∧ Unm fs (-1) j) x y ↔ Path fs (fun j => j < k ∧ chB fs j = true) x y := fun k => by
  induction k with
  | zero => intro x y; constructor <;> exact fun h => h.mono fun j f _ he => absurd he.1 (by omega)
  | succ k ih =>
    intro x y
    constructor
    · intro h
      have h' : Path fs (fun j => (j < k ∧ Unm fs (-1) j) ∨ j = k) x y := h.mono fun j f _ he => by
        by_cases e : j = k
        · exact .inr e
        · exact .inl ⟨by have := he.1; omega, he.2⟩
      have up : ∀ {x y}, Path fs (fun j => j < k ∧ chB fs j = true) x y → Path fs (fun j => j < k + 1 ∧ chB fs j = true) x y := fun h => h.mono fun j f _ he => ⟨by have := he.1; omega, he.2⟩
      cases hk : fs[k]? with
      | none =>
        refine up ((ih x y).1 (h'.mono fun j f hj he => ?_))
        rcases he with he | rfl
        · exact he
        · rw [hk] at hj; cases hj
      | some f =>
        by_cases hm : f.me = false
        · by_cases hr : rtF (-1) (fs.take k) 0 id f.fr = rtF (-1) (fs.take k) 0 id f.to
          · exact up ((ih x y).1 (Path.absorb hk ((rt_path fs (-1) k _ _).1 hr) h'))
          · have hc : chB fs k = true := by rw [chB_some hk, hm]; simp [hr]
            have hed : Path fs (fun j => j < k + 1 ∧ chB fs j = true) f.fr f.to := Path.one hk ⟨by omega, hc⟩
            rcases h'.split hk with h | ⟨h1, h2⟩ | ⟨h1, h2⟩
            · exact up ((ih x y).1 h)
            · exact (up ((ih _ _).1 h1)).trans (hed.trans (up ((ih _ _).1 h2)))
            · exact (up ((ih _ _).1 h1)).trans (hed.symm.trans (up ((ih _ _).1 h2)))
        · refine up ((ih x y).1 (h.mono fun j g hj he => ⟨?_, he.2⟩))
          have h1 := he.1
          have h2 : j ≠ k := fun e => by
            subst e
            obtain ⟨⟨g', hg', hm'⟩, _⟩ := he.2
            rw [hk] at hg'; cases hg'
            exact hm hm'
          omega
    · exact fun h => h.mono fun j f _ he => ⟨he.1, chB_unm he.2⟩
theorem forest_all (fs : List FlowD) (x y : Int) : rtF (-1) fs 0 id x = rtF (-1) fs 0 id y ↔ Path fs (fun j => chB fs j = true) x y := by
  rw [rt_path_all]
  have := forest_path fs fs.length x y
  constructor
  · intro h
    exact (this.1 (h.mono fun j f hj he => ⟨(List.getElem?_eq_some_iff.1 hj).1, he⟩)).mono fun j f _ he => he.2
  · exact fun h => h.mono fun j f _ he => chB_unm he
/-- Without a flow of the forest its ends are not joined by the others. -/
theorem forest_cut (fs : List FlowD) : ∀ (k i : Nat) (f : FlowD), i < k → fs[i]? = some f → chB fs i = true → ¬ Path fs (fun j => j < k ∧ chB fs j = true ∧ j ≠ i) f.fr f.to := fun k => by
  induction k with
  | zero => intro i f h; omega
  | succ k ih =>
    intro i f hi hf hc h
    have hnr : ∀ {k : Nat} {g : FlowD}, fs[k]? = some g → chB fs k = true → ¬ Path fs (fun j => j < k ∧ chB fs j = true) g.fr g.to := fun {k g} hg hcg hp => by
      rw [← forest_path, ← rt_path] at hp
      rw [chB_some hg, hp] at hcg
      simp at hcg
    by_cases e : i = k
    · subst e
      exact hnr hf hc (h.mono fun j g _ he => ⟨by have := he.1; have := he.2.2; omega, he.2.1⟩)
    · have hik : i < k := by omega
      by_cases hck : chB fs k = true
      · obtain ⟨g, hg⟩ : ∃ g, fs[k]? = some g := by
          obtain ⟨⟨g, hg, _⟩, _⟩ := chB_unm hck
          exact ⟨g, hg⟩
        have h' : Path fs (fun j => (j < k ∧ chB fs j = true ∧ j ≠ i) ∨ j = k) f.fr f.to := h.mono fun j g _ he => by
          by_cases e : j = k
          · exact .inr e
          · exact .inl ⟨by have := he.1; omega, he.2⟩
        have up : ∀ {x y}, Path fs (fun j => j < k ∧ chB fs j = true ∧ j ≠ i) x y → Path fs (fun j => j < k ∧ chB fs j = true) x y := fun h => h.mono fun j f _ he => ⟨he.1, he.2.1⟩
        have hed : Path fs (fun j => j < k ∧ chB fs j = true) f.fr f.to := Path.one hf ⟨hik, hc⟩
        rcases h'.split hg with h | ⟨h1, h2⟩ | ⟨h1, h2⟩
        · exact ih i f hik hf hc h
        · exact hnr hg hck ((up h1).symm.trans (hed.trans (up h2).symm))
        · exact hnr hg hck ((up h2).trans (hed.symm.trans (up h1)))
      · refine ih i f hik hf hc (h.mono fun j g hj he => ⟨?_, he.2⟩)
        have h1 := he.1
        have h2 : j ≠ k := fun e => by subst e; exact hck he.2.1
        omega
/-- The flows of the forest, without one. -/
def FE (fs : List FlowD) (b : Int) (j : Nat) : Prop := chB fs j = true ∧ (j : Int) ≠ b
theorem FE_cut {fs : List FlowD} {i : Nat} {f : FlowD} (hf : fs[i]? = some f) (hc : chB fs i = true) : ¬ Path fs (FE fs i) f.fr f.to := fun h =>
  forest_cut fs fs.length i f (List.getElem?_eq_some_iff.1 hf).1 hf hc (h.mono fun j g hj he => ⟨(List.getElem?_eq_some_iff.1 hj).1, he.1, fun e => he.2 (by rw [e])⟩)
/-- Ends of a flow. -/
def Ends (f : FlowD) (e w : Int) : Prop := (f.fr = e ∧ f.to = w) ∨ (f.fr = w ∧ f.to = e)
theorem Ends.symm {f : FlowD} {e w : Int} (h : Ends f e w) : Ends f w e := by
  rcases h with ⟨a, b⟩ | ⟨a, b⟩
  · exact .inr ⟨a, b⟩
  · exact .inl ⟨a, b⟩
theorem FE_cut2 {fs : List FlowD} {i : Nat} {f : FlowD} {e w : Int} (hf : fs[i]? = some f) (hc : chB fs i = true) (he : Ends f e w) : ¬ Path fs (FE fs i) w e := fun h => by
  rcases he with ⟨rfl, rfl⟩ | ⟨rfl, rfl⟩
  · exact FE_cut hf hc h.symm
  · exact FE_cut hf hc h
/-- What hangs on an end behind a flow hangs on it. -/
theorem sub_path {fs : List FlowD} {i : Nat} {f : FlowD} {b e w : Int} (hf : fs[i]? = some f) (hc : chB fs i = true) (he : Ends f e w) (hib : (i : Int) ≠ b) (hb : ∀ (j : Nat) (g : FlowD), (j : Int) = b → fs[j]? = some g → g.fr = e ∨ g.to = e) {y : Int} (h : Path fs (FE fs i) w y) :
    Path fs (FE fs b) e y ∧ y ≠ e := by
  have hne : ∀ {y}, Path fs (FE fs i) w y → y ≠ e := fun h e' => by subst e'; exact FE_cut2 hf hc he h
  refine ⟨?_, hne h⟩
  induction h with
  | refl => exact .step i f .refl hf ⟨hc, hib⟩ he
  | step j g h hj hfe hz ih =>
    refine .step j g ih hj ⟨hfe.1, fun e' => ?_⟩ hz
    have h1 := hne h
    have h2 := hne (Path.step j g h hj hfe hz)
    rcases hb j g e' hj with q | q <;> rcases hz with ⟨a, c⟩ | ⟨a, c⟩
    · exact h1 (a.symm.trans q)
    · exact h2 (a.symm.trans q)
    · exact h2 (c.symm.trans q)
    · exact h1 (c.symm.trans q)
/-- What hangs on an end behind two flows is apart. -/
theorem sub_apart {fs : List FlowD} {i i' : Nat} {f f' : FlowD} {e w w' : Int} (hf : fs[i]? = some f) (hc : chB fs i = true) (he : Ends f e w) (hf' : fs[i']? = some f') (hc' : chB fs i' = true) (he' : Ends f' e w') (hne : i ≠ i') {y : Int}
    (h : Path fs (FE fs i) w y) (h' : Path fs (FE fs i') w' y) : False := by
  have hi : (i : Int) ≠ i' := by omega
  have inc : ∀ (j : Nat) (g : FlowD), (j : Int) = (i : Int) → fs[j]? = some g → g.fr = e ∨ g.to = e := fun j g hj hg => by
    obtain rfl : j = i := by omega
    rw [hf] at hg; cases hg
    rcases he with ⟨a, _⟩ | ⟨_, a⟩
    · exact .inl a
    · exact .inr a
  -- from the end, over the other flow, to y: never over this flow
  have h1 := (sub_path (b := i) hf' hc' he' (fun q => hi q.symm) inc h').1
  exact FE_cut2 hf hc he (h.trans h1.symm)
end Go.Proofs.Ytjehpgflhgpalaa
namespace Go.Proofs.Ytjehpgflhgpalaa
open Go Kern
/-! Masses as sums -/
theorem Mass.ext' {m p : Mass} (h1 : m.a = p.a) (h2 : m.b = p.b) (h3 : m.c = p.c) (h4 : m.d = p.d) : m = p := by
  cases m; cases p; simp_all
theorem Mass.add_zero (m : Mass) : m.add Mass.zero = m := by apply Mass.ext' <;> simp [Mass.add, Mass.zero]
theorem Mass.zero_add (m : Mass) : Mass.zero.add m = m := by apply Mass.ext' <;> simp [Mass.add, Mass.zero]
theorem Mass.add_assoc (m p q : Mass) : (m.add p).add q = m.add (p.add q) := by apply Mass.ext' <;> simp [Mass.add, Int.add_assoc]
theorem Mass.add_comm (m p : Mass) : m.add p = p.add m := by apply Mass.ext' <;> simp [Mass.add, Int.add_comm]
theorem Mass.add_neg (m : Mass) : m.add (Mass.zero.sub m) = Mass.zero := by apply Mass.ext' <;> simp [Mass.add, Mass.sub, Mass.zero] <;> omega
theorem Mass.add_swap (m p q r : Mass) : (m.add p).add (q.add r) = (m.add q).add (p.add r) := by apply Mass.ext' <;> simp [Mass.add] <;> omega
theorem Mass.neg_neg (m : Mass) : Mass.zero.sub (Mass.zero.sub m) = m := by apply Mass.ext' <;> simp [Mass.sub, Mass.zero]
theorem Mass.add_sub_eq (m p : Mass) : m.sub p = m.add (Mass.zero.sub p) := by apply Mass.ext' <;> simp [Mass.add, Mass.sub, Mass.zero] <;> omega
theorem Mass.le_zero {B : Int} (h : 0 ≤ B) : Mass.zero.le B := by simp [Mass.le, Mass.zero]; omega
theorem Mass.le_neg {m : Mass} {B : Int} (h : m.le B) : (Mass.zero.sub m).le B := by
  unfold Mass.le Mass.sub Mass.zero at *; simp only []; omega
def sumN (g : Nat → Mass) : Nat → Mass
  | 0 => Mass.zero
  | k + 1 => (sumN g k).add (g k)
theorem sumN_congr {g h : Nat → Mass} : ∀ {k : Nat}, (∀ j, j < k → g j = h j) → sumN g k = sumN h k
  | 0, _ => rfl
  | k + 1, hc => by
    unfold sumN
    rw [sumN_congr fun j hj => hc j (by omega), hc k (by omega)]
theorem sumN_add (g h : Nat → Mass) : ∀ k, sumN (fun j => (g j).add (h j)) k = (sumN g k).add (sumN h k)
  | 0 => (Mass.add_zero _).symm
  | k + 1 => by unfold sumN; rw [sumN_add g h k, Mass.add_swap]
theorem sumN_zero : ∀ k, sumN (fun _ => Mass.zero) k = Mass.zero
  | 0 => rfl
  | k + 1 => by unfold sumN; rw [sumN_zero k, Mass.add_zero]
theorem sumN_one {g : Nat → Mass} {i : Nat} : ∀ {k : Nat}, i < k → (∀ j, j < k → j ≠ i → g j = Mass.zero) → sumN g k = g i
  | 0, h, _ => by omega
  | k + 1, h, hz => by
    unfold sumN
    by_cases e : i = k
    · subst e
      rw [sumN_congr (h := fun _ => Mass.zero) fun j hj => hz j (by omega) (by omega), sumN_zero, Mass.zero_add]
    · rw [sumN_one (by omega) fun j hj hji => hz j (by omega) hji, hz k (by omega) (by omega), Mass.add_zero]
theorem sumN_take {α : Type} (c : α → Mass) : ∀ (l : List α) (k : Nat), k ≤ l.length → sumN (fun j => match l[j]? with | some x => c x | none => Mass.zero) k = (l.take k).foldl (fun a x => a.add (c x)) Mass.zero
  | l, 0, _ => by simp [sumN]
  | l, k + 1, h => by
    have hk : l[k]? = some l[k] := List.getElem?_eq_getElem (by omega)
    unfold sumN
    rw [sumN_take c l k (by omega), fold_take _ _ _ hk, hk]
/-- What a flow with some masses brings to an end. -/
def brings (f : FlowD) (v : Int) (m : Mass) : Mass := if f.to = v then m else if f.fr = v then Mass.zero.sub m else Mass.zero
/-- What it brings to a set of ends. -/
def bringsL (f : FlowD) (xs : List Int) (m : Mass) : Mass := if f.to ∈ xs then (if f.fr ∈ xs then Mass.zero else m) else if f.fr ∈ xs then Mass.zero.sub m else Mass.zero
theorem bringsL_one {f : FlowD} (hne : f.fr ≠ f.to) (v : Int) (m : Mass) : bringsL f [v] m = brings f v m := by
  unfold bringsL brings
  by_cases h1 : f.to = v
  · have h2 : ¬ f.fr = v := fun e => hne (e.trans h1.symm)
    simp [h1, h2]
  · simp [h1]
theorem excStep_brings (xs : List Int) (acc : Mass) (f : FlowD) : excStep xs acc f = acc.add (if f.me = true then bringsL f xs f.m else Mass.zero) := by
  unfold excStep bringsL
  by_cases hm : f.me = true
  · simp only [hm, if_true]
    by_cases h1 : f.fr ∈ xs <;> by_cases h2 : f.to ∈ xs <;> simp only [h1, h2, if_true, if_false]
    · rw [Mass.add_sub, Mass.add_zero]
    · exact Mass.add_sub_eq _ _
    · rw [Mass.add_zero]
  · rw [if_neg hm, if_neg hm, Mass.add_zero]
theorem excM_sum (xs : List Int) (fs : List FlowD) : excM xs fs = sumN (fun j => match fs[j]? with | some f => (if f.me = true then bringsL f xs f.m else Mass.zero) | none => Mass.zero) fs.length := by
  have h := sumN_take (fun f => if f.me = true then bringsL f xs f.m else Mass.zero) fs fs.length (Nat.le_refl _)
  rw [List.take_length] at h
  refine Eq.trans (Eq.trans ?_ h.symm) (sumN_congr fun j _ => by cases fs[j]? <;> rfl)
  unfold excM
  congr 1
  funext a f
  exact excStep_brings xs a f
/-! What comes to an end -/
/-- By a flow of the forest. -/
def contr (fs : List FlowD) (B : Nat → Mass) (v : Int) (j : Nat) : Mass := match fs[j]? with
  | some f => if chB fs j = true then brings f v (B j) else Mass.zero
  | none => Mass.zero
/-- By what is measured and by the first k flows of the forest, but one. -/
def netx (fs : List FlowD) (B : Nat → Mass) (v b : Int) (k : Nat) : Mass := (excM [v] fs).add (sumN (fun j => if (j : Int) = b then Mass.zero else contr fs B v j) k)
def netB (fs : List FlowD) (B : Nat → Mass) (v : Int) : Mass := netx fs B v (-1) fs.length
theorem contr_congr {fs : List FlowD} {B B' : Nat → Mass} {v : Int} {j : Nat} (h : ∀ f, fs[j]? = some f → chB fs j = true → (f.fr = v ∨ f.to = v) → B j = B' j) : contr fs B v j = contr fs B' v j := by
  unfold contr
  cases hj : fs[j]? with
  | none => rfl
  | some f =>
    simp only []
    split
    · rename_i hc
      unfold brings
      by_cases h1 : f.to = v
      · rw [if_pos h1, if_pos h1, h f hj hc (.inr h1)]
      · rw [if_neg h1, if_neg h1]
        by_cases h2 : f.fr = v
        · rw [if_pos h2, if_pos h2, h f hj hc (.inl h2)]
        · rw [if_neg h2, if_neg h2]
    · rfl
theorem netx_congr {fs : List FlowD} {B B' : Nat → Mass} {v b : Int} {k : Nat} (h : ∀ j f, j < k → (j : Int) ≠ b → fs[j]? = some f → chB fs j = true → (f.fr = v ∨ f.to = v) → B j = B' j) : netx fs B v b k = netx fs B' v b k := by
  unfold netx
  congr 1
  refine sumN_congr fun j hj => ?_
  by_cases e : (j : Int) = b
  · rw [if_pos e, if_pos e]
  · rw [if_neg e, if_neg e]
    exact contr_congr fun f hf hc hv => h j f hj e hf hc hv
theorem netx_succ (fs : List FlowD) (B : Nat → Mass) (v b : Int) (k : Nat) : netx fs B v b (k + 1) = (netx fs B v b k).add (if (k : Int) = b then Mass.zero else contr fs B v k) := by
  unfold netx
  rw [Mass.add_assoc]; rfl
theorem netB_split {fs : List FlowD} {B : Nat → Mass} {v : Int} {i : Nat} (hi : i < fs.length) : netB fs B v = (netx fs B v i fs.length).add (contr fs B v i) := by
  unfold netB netx
  rw [Mass.add_assoc]
  congr 1
  have h1 : sumN (fun j => if (j : Int) = (i : Int) then contr fs B v j else Mass.zero) fs.length = contr fs B v i := by
    rw [sumN_one hi fun j _ hj => if_neg (by omega)]
    rw [if_pos rfl]
  rw [← h1, ← sumN_add]
  refine sumN_congr fun j _ => ?_
  by_cases e : (j : Int) = (i : Int)
  · rw [if_pos e, if_pos e, if_neg (by omega), Mass.zero_add]
  · rw [if_neg e, if_neg e, if_neg (by omega), Mass.add_zero]
/-! How many ends -/
open Classical in
noncomputable def cntP (n : Nat) (P : Int → Prop) : Nat := ((List.range (n + 1)).filter fun i : Nat => decide (P ((i : Int) - 1))).length
theorem cntP_congr {n : Nat} {P Q : Int → Prop} (h : ∀ x, P x ↔ Q x) : cntP n P = cntP n Q := by
  have : P = Q := by funext x; exact propext (h x)
  rw [this]
theorem cntP_le (n : Nat) (P : Int → Prop) : cntP n P ≤ n + 1 := by
  unfold cntP
  exact Nat.le_trans (List.length_filter_le _ _) (by simp)
theorem filter_or {l : List Nat} {p q : Nat → Bool} (h : ∀ i, p i = true → q i = true → False) : (l.filter fun i => p i || q i).length = (l.filter p).length + (l.filter q).length := by
  induction l with
  | nil => rfl
  | cons a r ih =>
    simp only [List.filter_cons]
    cases hp : p a <;> cases hq : q a
    · simpa using ih
    · simp only [Bool.false_or, if_true, Bool.false_eq_true, if_false, List.length_cons, ih]; omega
    · simp only [Bool.or_false, if_true, Bool.false_eq_true, if_false, List.length_cons, ih]; omega
    · exact absurd hq (fun hq => h a hp hq)
theorem cntP_or {n : Nat} {P Q : Int → Prop} (h : ∀ x, P x → Q x → False) : cntP n (fun x => P x ∨ Q x) = cntP n P + cntP n Q := by
  unfold cntP
  rw [← filter_or]
  · congr 1
    apply List.filter_congr
    intro i _
    by_cases h1 : P ((i : Int) - 1) <;> by_cases h2 : Q ((i : Int) - 1) <;> simp [h1, h2]
  · intro i h1 h2
    exact h _ (by simpa using h1) (by simpa using h2)
theorem cntP_one {n : Nat} {e : Int} (h : -1 ≤ e ∧ e < n) : cntP n (fun x => x = e) = 1 := by
  have h2 : cntP n (fun x => x = e) = ((List.range (n + 1)).filter fun i : Nat => i == (e + 1).toNat).length := by
    unfold cntP
    congr 1
    apply List.filter_congr
    intro i _
    have : ((i : Int) - 1 = e) ↔ i = (e + 1).toNat := by omega
    by_cases h1 : i = (e + 1).toNat
    · exact Eq.trans (@decide_eq_true _ (_) (this.2 h1)) (beq_iff_eq.2 h1).symm
    · exact Eq.trans (@decide_eq_false _ (_) (fun q => h1 (this.1 q))) (beq_eq_false_iff_ne.2 h1).symm
  rw [h2]
  have hlt : (e + 1).toNat < n + 1 := by omega
  have key : ∀ (m k : Nat), ((List.range m).filter fun i : Nat => i == k).length = if k < m then 1 else 0 := fun m k => by
    induction m with
    | zero => simp
    | succ m ih =>
      rw [List.range_succ, List.filter_append, List.length_append, ih]
      by_cases h1 : k < m
      · have : ¬ m = k := by omega
        simp [h1, this, Nat.lt_succ_of_lt h1]
      · by_cases h2 : m = k
        · subst h2; simp
        · have h3 : ¬ k < m + 1 := by omega
          simp [h1, h2, h3]
  rw [key, if_pos hlt]
theorem cntP_mono {n : Nat} {P Q : Int → Prop} (h : ∀ x, P x → Q x) : cntP n P ≤ cntP n Q := by
  have h1 : cntP n Q = cntP n (fun x => P x ∨ (Q x ∧ ¬ P x)) := cntP_congr fun x => by
    by_cases hp : P x
    · simp [hp, h x hp]
    · simp [hp]
  rw [h1, cntP_or (fun x h1 h2 => h2.2 h1)]
  omega
theorem cntP_lt {n : Nat} {P Q : Int → Prop} (h : ∀ x, P x → Q x) {e : Int} (he : -1 ≤ e ∧ e < n) (hq : Q e) (hp : ¬ P e) : cntP n P < cntP n Q := by
  have h1 := cntP_mono (n := n) (P := fun x => P x ∨ x = e) (Q := Q) fun x hx => by
    rcases hx with hx | rfl
    · exact h x hx
    · exact hq
  rw [cntP_or (P := P) (Q := fun x => x = e) (fun x q1 q2 => hp (by subst q2; exact q1)), cntP_one he] at h1
  omega
end Go.Proofs.Ytjehpgflhgpalaa
namespace Go.Proofs.Ytjehpgflhgpalaa
open Go Kern
/-- The end, and what hangs on it behind the first k flows. -/
def Tk (fs : List FlowD) (e b : Int) (k : Nat) (x : Int) : Prop := x = e ∨ ∃ (i : Nat) (f : FlowD) (w : Int), i < k ∧ fs[i]? = some f ∧ chB fs i = true ∧ (i : Int) ≠ b ∧ Ends f e w ∧ Path fs (FE fs i) w x
def Touch (fs : List FlowD) (e b : Int) (k j : Nat) : Prop :=
  ∃ f, fs[j]? = some f ∧ chB fs j = true ∧ (j : Int) ≠ b ∧ ((j < k ∧ (f.fr = e ∨ f.to = e)) ∨ ∃ (i : Nat) (g : FlowD) (w : Int), i < k ∧ i ≠ j ∧ fs[i]? = some g ∧ chB fs i = true ∧ (i : Int) ≠ b ∧ Ends g e w ∧ Path fs (FE fs i) w f.fr)
structure GInv (fs : List FlowD) (n : Nat) (K W : Int) (e b : Int) (k : Nat) (R0 : Int → Bool) (B0 : Nat → Mass) (R : Int → Bool) (B : Nat → Mass) (left : Mass) : Prop where
  reach : ∀ x : Int, -1 ≤ x → x < n → (R x = true ↔ R0 x = true ∨ Tk fs e b k x)
  touch : ∀ j, B j ≠ B0 j → Touch fs e b k j
  nets : ∀ v, Tk fs e b k v → v ≠ e → netB fs B v = Mass.zero
  sum : left = netx fs B e b k
  le : left.le (cntP n (Tk fs e b k) * K)
  bound : ∀ j, (B j).le W
structure GDone (fs : List FlowD) (n : Nat) (K W : Int) (e b : Int) (R0 : Int → Bool) (B0 : Nat → Mass) (R : Int → Bool) (B : Nat → Mass) (left : Mass) : Prop where
  reach : ∀ x : Int, -1 ≤ x → x < n → (R x = true ↔ R0 x = true ∨ Path fs (FE fs b) e x)
  touch : ∀ j, B j ≠ B0 j → ∃ f, fs[j]? = some f ∧ chB fs j = true ∧ (j : Int) ≠ b ∧ Path fs (FE fs b) e f.fr
  nets : ∀ v, Path fs (FE fs b) e v → v ≠ e → netB fs B v = Mass.zero
  sum : left = netx fs B e b fs.length
  le : left.le (cntP n (Path fs (FE fs b) e) * K)
  bound : ∀ j, (B j).le W
section
variable {fs : List FlowD} {n : Nat} {K W e b : Int} {k : Nat} {R0 R R' : Int → Bool} {B0 B B' : Nat → Mass} {left rest : Mass}
theorem Tk_zero (x : Int) : Tk fs e b 0 x ↔ x = e := by
  unfold Tk
  constructor
  · rintro (h | ⟨i, f, w, hi, _⟩)
    · exact h
    · omega
  · exact .inl
theorem Tk_mono {k' : Nat} (h : k ≤ k') {x : Int} (hx : Tk fs e b k x) : Tk fs e b k' x := by
  rcases hx with rfl | ⟨i, f, w, hi, hr⟩
  · exact .inl rfl
  · exact .inr ⟨i, f, w, by omega, hr⟩
theorem Touch_mono {k' j : Nat} (h : k ≤ k') (hx : Touch fs e b k j) : Touch fs e b k' j := by
  obtain ⟨f, h1, h2, h3, h4⟩ := hx
  refine ⟨f, h1, h2, h3, ?_⟩
  rcases h4 with ⟨a, c⟩ | ⟨i, g, w, hi, hr⟩
  · exact .inl ⟨by omega, c⟩
  · exact .inr ⟨i, g, w, by omega, hr⟩
theorem GInv.start (hK : 0 ≤ K) (he : -1 ≤ e ∧ e < n) (hx : (excM [e] fs).le K) (hB : ∀ j, (B0 j).le W) (hR : ∀ x : Int, -1 ≤ x → x < n → (R x = true ↔ R0 x = true ∨ x = e)) : GInv fs n K W e b 0 R0 B0 R B0 (excM [e] fs) where
  reach := fun x h1 h2 => by rw [hR x h1 h2, Tk_zero]
  touch := fun j h => absurd rfl h
  nets := fun v h1 h2 => absurd ((Tk_zero v).1 h1) h2
  sum := by unfold netx sumN; rw [Mass.add_zero]
  le := by rw [cntP_congr fun x => Tk_zero x, cntP_one he]; exact hx.mono (by omega)
  bound := hB
theorem Tk_skip {f : FlowD} (hf : fs[k]? = some f) (h : chB fs k = false ∨ (k : Int) = b ∨ (f.fr ≠ e ∧ f.to ≠ e)) (x : Int) : Tk fs e b (k + 1) x ↔ Tk fs e b k x := by
  constructor
  · rintro (rfl | ⟨i, g, w, hi, hg, hc, hb, he, hp⟩)
    · exact .inl rfl
    · have hik : i ≠ k := fun q => by
        subst q
        rw [hf] at hg; cases hg
        rcases h with h | h | ⟨h1, h2⟩
        · rw [h] at hc; cases hc
        · exact hb h
        · rcases he with ⟨a, _⟩ | ⟨_, a⟩
          · exact h1 a
          · exact h2 a
      exact .inr ⟨i, g, w, by omega, hg, hc, hb, he, hp⟩
  · exact Tk_mono (by omega)
theorem GInv.skip {f : FlowD} (hf : fs[k]? = some f) (h : chB fs k = false ∨ (k : Int) = b ∨ (f.fr ≠ e ∧ f.to ≠ e)) (hi : GInv fs n K W e b k R0 B0 R B left) : GInv fs n K W e b (k + 1) R0 B0 R B left where
  reach := fun x h1 h2 => by rw [Tk_skip hf h]; exact hi.reach x h1 h2
  touch := fun j hj => Touch_mono (by omega) (hi.touch j hj)
  nets := fun v h1 h2 => hi.nets v ((Tk_skip hf h v).1 h1) h2
  sum := by
    rw [netx_succ, ← hi.sum]
    have : (if (k : Int) = b then Mass.zero else contr fs B e k) = Mass.zero := by
      by_cases hb : (k : Int) = b
      · rw [if_pos hb]
      · rw [if_neg hb]
        unfold contr
        rw [hf]
        simp only []
        rcases h with h | h | ⟨h1, h2⟩
        · rw [h]; rfl
        · exact absurd h hb
        · unfold brings; rw [if_neg h2, if_neg h1]; split <;> rfl
    rw [this, Mass.add_zero]
  le := by rw [cntP_congr fun x => Tk_skip hf h x]; exact hi.le
  bound := hi.bound
theorem Tk_sub {f : FlowD} {w : Int} (hf : fs[k]? = some f) (hc : chB fs k = true) (hb : (k : Int) ≠ b) (hne : f.fr ≠ f.to) (he : Ends f e w) (x : Int) : Tk fs e b (k + 1) x ↔ Tk fs e b k x ∨ Path fs (FE fs k) w x := by
  constructor
  · rintro (rfl | ⟨i, g, w', hi, hg, hc', hb', he', hp⟩)
    · exact .inl (.inl rfl)
    · by_cases q : i = k
      · subst q
        rw [hf] at hg; cases hg
        have : w' = w := by
          rcases he with ⟨a, c⟩ | ⟨a, c⟩ <;> rcases he' with ⟨a', c'⟩ | ⟨a', c'⟩
          · exact c'.symm.trans c
          · exact absurd (a.trans c'.symm) hne
          · exact absurd (a'.trans c.symm) hne
          · exact a'.symm.trans a
        subst this
        exact .inr hp
      · exact .inl (.inr ⟨i, g, w', by omega, hg, hc', hb', he', hp⟩)
  · rintro (h | h)
    · exact Tk_mono (by omega) h
    · exact .inr ⟨k, f, w, by omega, hf, hc, hb, he, h⟩
theorem Tk_apart {f : FlowD} {w : Int} (hf : fs[k]? = some f) (hc : chB fs k = true) (he : Ends f e w) {x : Int} (h1 : Tk fs e b k x) (h2 : Path fs (FE fs k) w x) : False := by
  rcases h1 with rfl | ⟨i, g, w', hi, hg, hc', hb', he', hp⟩
  · exact FE_cut2 hf hc he h2
  · exact sub_apart hg hc' he' hf hc he (by omega) hp h2
/-- A flow of the forest that hangs there has both ends there. -/
theorem hang_ends {i j : Nat} {f : FlowD} {w : Int} (hf : fs[j]? = some f) (hc : chB fs j = true) (hij : i ≠ j) (h : Path fs (FE fs i) w f.fr) {v : Int} (hv : f.fr = v ∨ f.to = v) : Path fs (FE fs i) w v := by
  rcases hv with rfl | rfl
  · exact h
  · exact .step j f h hf ⟨hc, by omega⟩ (.inl ⟨rfl, rfl⟩)
theorem GInv.sub {f : FlowD} {w : Int} {m : Mass} (hf : fs[k]? = some f) (hc : chB fs k = true) (hb : (k : Int) ≠ b) (hne : f.fr ≠ f.to) (he : Ends f e w) (hinc : ∀ (j : Nat) (g : FlowD), (j : Int) = b → fs[j]? = some g → g.fr = e ∨ g.to = e) (hW : (n + 1) * K ≤ W) (hK : 0 ≤ K)
    (hm : m = if f.to = e then rest else Mass.zero.sub rest) (hi : GInv fs n K W e b k R0 B0 R B left) (hd : GDone fs n K W w k R B R' B' rest) :
    GInv fs n K W e b (k + 1) R0 B0 R' (fun j => if j = k then m else B' j) (left.add rest) := by
  have hwe : w ≠ e := by
    rcases he with ⟨a, c⟩ | ⟨a, c⟩
    · intro q; exact hne (a.trans (q.symm.trans c.symm))
    · intro q; exact hne (a.trans (q.trans c.symm))
  have hcut := FE_cut2 hf hc he
  have hklen : k < fs.length := (List.getElem?_eq_some_iff.1 hf).1
  -- what the flow brings to both ends
  have hbe : brings f e m = rest := by
    rw [hm]
    unfold brings
    rcases he with ⟨a, c⟩ | ⟨a, c⟩
    · rw [if_neg (by rw [c]; exact hwe), if_pos a, if_neg (by rw [c]; exact hwe), Mass.neg_neg]
    · rw [if_pos c, if_pos c]
  have hbw : brings f w m = Mass.zero.sub rest := by
    rw [hm]
    unfold brings
    rcases he with ⟨a, c⟩ | ⟨a, c⟩
    · rw [if_pos c, if_neg (by rw [c]; exact hwe)]
    · rw [if_neg (by rw [c]; exact fun q => hwe q.symm), if_pos a, if_pos c]
  have hkk : ∀ v, contr fs (fun j => if j = k then m else B' j) v k = brings f v m := fun v => by
    unfold contr; rw [hf]; simp only [hc, if_true]
  refine ⟨fun x h1 h2 => ?_, fun j hj => ?_, fun v h1 h2 => ?_, ?_, ?_, fun j => ?_⟩
  · rw [hd.reach x h1 h2, hi.reach x h1 h2, Tk_sub hf hc hb hne he, or_assoc]
  · change (if j = k then m else B' j) ≠ B0 j at hj
    by_cases q : j = k
    · subst q
      refine ⟨f, hf, hc, hb, .inl ⟨by omega, ?_⟩⟩
      rcases he with ⟨a, _⟩ | ⟨_, a⟩
      · exact .inl a
      · exact .inr a
    · rw [if_neg q] at hj
      by_cases h' : B' j = B j
      · exact Touch_mono (by omega) (hi.touch j (by rw [← h']; exact hj))
      · obtain ⟨g, hg, hcg, hgk, hp⟩ := hd.touch j h'
        have hkj : k ≠ j := fun q' => q q'.symm
        have hjb : (j : Int) ≠ b := fun hjb => hcut (hang_ends hg hcg hkj hp (hinc j g hjb hg))
        exact ⟨g, hg, hcg, hjb, .inr ⟨k, f, w, by omega, hkj, hf, hc, hb, he, hp⟩⟩
  · have hkeep : ∀ (j : Nat) (g : FlowD), fs[j]? = some g → chB fs j = true → (g.fr = v ∨ g.to = v) → ¬ Path fs (FE fs k) w v → (if j = k then m else B' j) = B j := fun j g hg hcg hv hnp => by
      have hjk : j ≠ k := fun q => by
        subst q
        rw [hf] at hg; cases hg
        have hvw : v = w := by
          rcases he with ⟨a, c⟩ | ⟨a, c⟩ <;> rcases hv with hv | hv
          · exact absurd (hv.symm.trans a) h2
          · exact hv.symm.trans c
          · exact hv.symm.trans a
          · exact absurd (hv.symm.trans c) h2
        subst hvw
        exact hnp .refl
      rw [if_neg hjk]
      refine Classical.byContradiction fun h' => ?_
      obtain ⟨g', hg', hcg', hgk, hp⟩ := hd.touch j h'
      rw [hg] at hg'; cases hg'
      exact hnp (hang_ends hg hcg (fun q => hjk q.symm) hp hv)
    rcases (Tk_sub hf hc hb hne he v).1 h1 with h | h
    · have hnp : ¬ Path fs (FE fs k) w v := fun hp => Tk_apart hf hc he h hp
      rw [← hi.nets v h h2]
      exact netx_congr fun j g _ _ hg hcg hv => hkeep j g hg hcg hv hnp
    · by_cases hvw : v = w
      · subst hvw
        rw [netB_split hklen, hkk, hbw]
        have : netx fs (fun j => if j = k then m else B' j) v k fs.length = rest := by
          rw [hd.sum]
          refine netx_congr fun j g _ hjk _ _ _ => ?_
          rw [if_neg (by omega)]
        rw [this, Mass.add_neg]
      · rw [← hd.nets v h hvw]
        refine netx_congr fun j g _ _ hg hcg hv => ?_
        have hjk : j ≠ k := fun q => by
          subst q
          rw [hf] at hg; cases hg
          rcases he with ⟨a, c⟩ | ⟨a, c⟩ <;> rcases hv with hv | hv
          · exact h2 (hv.symm.trans a)
          · exact hvw (hv.symm.trans c)
          · exact hvw (hv.symm.trans a)
          · exact h2 (hv.symm.trans c)
        rw [if_neg hjk]
  · rw [netx_succ, if_neg hb, hkk, hbe]
    congr 1
    rw [hi.sum]
    refine netx_congr fun j g hj hjb hg hcg hv => ?_
    have hjk : j ≠ k := by omega
    rw [if_neg hjk]
    refine Classical.byContradiction fun h' => ?_
    obtain ⟨g', hg', hcg', hgk, hp⟩ := hd.touch j (fun q => h' q.symm)
    rw [hg] at hg'; cases hg'
    exact hcut (hang_ends hg hcg (fun q => hjk q.symm) hp hv)
  · rw [cntP_congr fun x => Tk_sub hf hc hb hne he x, cntP_or fun x h1 h2 => Tk_apart hf hc he h1 h2]
    refine (hi.le.add hd.le).mono ?_
    push_cast
    rw [Int.add_mul]
    exact Int.le_refl _
  · have hr : rest.le W := hd.le.mono (by
      have h1 := cntP_le n (Path fs (FE fs k) w)
      have h2 : ((cntP n (Path fs (FE fs k) w) : Nat) : Int) * K ≤ ((n : Int) + 1) * K := Int.mul_le_mul_of_nonneg_right (by omega) hK
      omega)
    show (if j = k then m else B' j).le W
    by_cases q : j = k
    · rw [if_pos q, hm]
      split
      · exact hr
      · exact Mass.le_neg hr
    · rw [if_neg q]; exact hd.bound j
theorem Tk_all (hinc : ∀ (j : Nat) (g : FlowD), (j : Int) = b → fs[j]? = some g → g.fr = e ∨ g.to = e) (x : Int) : Tk fs e b fs.length x ↔ Path fs (FE fs b) e x := by
  constructor
  · rintro (rfl | ⟨i, f, w, hi, hf, hc, hb, he, hp⟩)
    · exact .refl
    · exact (sub_path hf hc he hb hinc hp).1
  · intro h
    induction h with
    | refl => exact .inl rfl
    | step j f h hj hfe hz ih =>
      rename_i y z
      have hlen := (List.getElem?_eq_some_iff.1 hj).1
      by_cases hze : z = e
      · exact .inl hze
      rcases ih with rfl | ⟨i, g, w, hi, hg, hc, hb, he, hp⟩
      · exact .inr ⟨j, f, z, hlen, hj, hfe.1, hfe.2, hz, .refl⟩
      · by_cases hij : i = j
        · subst hij
          rw [hg] at hj; cases hj
          have hzw : z = w := by
            rcases he with ⟨a, c⟩ | ⟨a, c⟩ <;> rcases hz with ⟨a', c'⟩ | ⟨a', c'⟩
            · exact c'.symm.trans c
            · exact absurd (a'.symm.trans a) hze
            · exact absurd (c'.symm.trans c) hze
            · exact a'.symm.trans a
          subst hzw
          exact .inr ⟨i, _, z, hi, hg, hc, hb, he, .refl⟩
        · exact .inr ⟨i, g, w, hi, hg, hc, hb, he, .step j f hp hj ⟨hfe.1, by omega⟩ hz⟩
theorem GInv.done (hinc : ∀ (j : Nat) (g : FlowD), (j : Int) = b → fs[j]? = some g → g.fr = e ∨ g.to = e) (hi : GInv fs n K W e b fs.length R0 B0 R B left) : GDone fs n K W e b R0 B0 R B left where
  reach := fun x h1 h2 => by rw [hi.reach x h1 h2, Tk_all hinc]
  touch := fun j hj => by
    obtain ⟨f, h1, h2, h3, h4⟩ := hi.touch j hj
    refine ⟨f, h1, h2, h3, ?_⟩
    rcases h4 with ⟨_, hv | hv⟩ | ⟨i, g, w, hik, hij, hg, hc, hb, he, hp⟩
    · rw [hv]; exact .refl
    · exact .step j f .refl h1 ⟨h2, h3⟩ (.inr ⟨rfl, hv⟩)
    · exact (sub_path hg hc he hb hinc hp).1
  nets := fun v h1 h2 => hi.nets v ((Tk_all hinc v).2 h1) h2
  sum := hi.sum
  le := by rw [← cntP_congr fun x => Tk_all hinc x]; exact hi.le
  bound := hi.bound
theorem sub_lt {f : FlowD} {w : Int} (hf : fs[k]? = some f) (hc : chB fs k = true) (hb : (k : Int) ≠ b) (he : Ends f e w) (hinc : ∀ (j : Nat) (g : FlowD), (j : Int) = b → fs[j]? = some g → g.fr = e ∨ g.to = e) (hV : -1 ≤ e ∧ e < n) :
    cntP n (Path fs (FE fs k) w) < cntP n (Path fs (FE fs b) e) :=
  cntP_lt (fun x hx => (sub_path hf hc he hb hinc hx).1) hV .refl (FE_cut2 hf hc he)
end
end Go.Proofs.Ytjehpgflhgpalaa
namespace Go.Proofs.Ytjehpgflhgpalaa
open Go Kern
theorem veq_sl {n k : Nat} {s : St} {v : Value} {l : List (List Value)} (h : SlAt n s v l) : veq (k + 1) v v = true := by
  cases h with
  | nil c => exact veq_sliceN _ _ _
  | mk hb ho hc he => exact veq_slice _ _ _ _ _
@[simp] theorem binVal_boolEq (t : TypeId) (fl : Bool) (a b : Bool) : binVal TT .bool t fl .eql (.bool a) (.bool b) = some (.bool (a == b)) := by
  cases a <;> cases b <;> rfl
@[simp] theorem binVal_boolNe (t : TypeId) (fl : Bool) (a b : Bool) : binVal TT .bool t fl .neq (.bool a) (.bool b) = some (.bool (a != b)) := by
  cases a <;> cases b <;> rfl
set_option maxRecDepth 100000 in
set_option maxHeartbeats 1000000 in
theorem leakOne_ev (f : FlowD) (xs : List Int) (w : Value) (bp : Nat) (s : St) (hbp : bp < s.next) (hg : s.heap.get bp = some (.cells [w] none)) (hx : IntsAt s w xs) (hlx : xs.length ≤ 1000000) :
    Ev TT 69 [f.v, .pointer (some ⟨bp, 0, none⟩)] s fun r s' => r = .bool (leakB xs f) ∧ Keep s s' := by
  obtain ⟨a, c, rfl⟩ := hx.shape
  rw [List.length_map] at hx hg
  have ve : veq 5 (Value.slice a xs.length c) (Value.slice a xs.length c) = true := veq_sl (k := 4) hx
  obtain ⟨f0, f1, fm, m⟩ := f
  unfold FlowD.v FlowD.cs
  refine Ev.intro (fn := Try.f69) rfl (by kernel_rfl) rfl rfl ?_
  apply zz
  refine Cd.ra (h := ?_)
  apply Run.by_eq
  · intro self
    conv => lhs; simp -implicitDefEqProofs (maxSteps := 300000) (disch := omega) [-getElem?_pos, -getElem?_neg]
  try (with_reducible refine Run.ret ?_)
  apply zz
  cases fm with
  | true =>
    apply zz
    refine Cd.drawnH (pl := [(0, 0, false, false), (1, 1, false, false), (2, 3, false, false), (3, 7, false, false), (4, 15, false, false), (5, 15, false, false), (6, 47, false, false), (8, 15, false, false), (9, 15, false, false), (10, 527, false, false), (7, 127, true, false), (11, 2047, true, false), (12, 4095, false, false), (13, 8191, false, false), (14, 16383, false, false)]) [false, false, false, false, false, false, false, true, true, true, false, false, false, false, false] (by kernel_rfl) (by decide) (by decide) (by conv => lhs; simp only [List.map_cons, List.map_nil]) (by conv => lhs; simp [strip, orderedG, flagH]) ?_
    apply Run.by_eq
    · intro self
      conv => lhs; simp -implicitDefEqProofs (maxSteps := 300000) (disch := omega) [-getElem?_pos, -getElem?_neg, hg]
    try (with_reducible refine Run.ret ?_)
    apply zz
    apply Leave.mk (by first | exact .inl rfl | exact .inr rfl) (by simp only [Fr.marks_put, fr0_marks])
    · conv => lhs; simp -implicitDefEqProofs (disch := omega) [Try.results69]
    exact ⟨by simp [leakB], ⟨by (try simp only [pushed_next', upded_next']); omega, fun i hi => by simp -implicitDefEqProofs (disch := omega) []⟩⟩
  | false =>
    apply zz
    refine Cd.drawnH (pl := [(0, 0, false, false), (1, 1, false, false), (2, 3, false, false), (3, 7, false, false), (4, 15, false, false), (5, 15, false, false), (6, 47, false, false), (8, 15, false, false), (9, 15, false, false), (10, 527, false, false), (7, 127, true, false), (11, 2047, true, false), (12, 4095, false, false), (13, 8191, false, false), (14, 16383, false, false)]) [false, false, false, false, false, false, false, true, true, true, false, false, false, false, false] (by kernel_rfl) (by decide) (by decide) (by conv => lhs; simp only [List.map_cons, List.map_nil]) (by conv => lhs; simp [strip, orderedG, flagH]) ?_
    apply Run.by_eq
    · intro self
      conv => lhs; simp -implicitDefEqProofs (maxSteps := 300000) (disch := omega) [-getElem?_pos, -getElem?_neg, hg, ve]
    try (with_reducible refine Run.ret ?_)
    apply zz
    refine Run.call ((contains_ev f0 _ xs _ (hx.keep ⟨by (try simp only [pushed_next', upded_next']); omega, fun i hi => by simp -implicitDefEqProofs (disch := omega) []⟩) hlx).mono fun v wq hv => ?_)
    obtain ⟨rfl, q⟩ := hv
    have qa := q.1
    have qb := q.2
    try simp only [pushed_next', upded_next'] at qa qb
    apply Run.by_eq
    · intro self
      conv => lhs; simp -implicitDefEqProofs (maxSteps := 300000) (disch := omega) [-getElem?_pos, -getElem?_neg, qb, hg, ve]
    try (with_reducible refine Run.ret ?_)
    apply zz
    refine Run.call ((contains_ev f1 _ xs _ (hx.keep ⟨by (try simp only [pushed_next', upded_next']); omega, fun i hi => by simp -implicitDefEqProofs (disch := omega) [qb]⟩) hlx).mono fun v wt hv => ?_)
    obtain ⟨rfl, t⟩ := hv
    have ta := t.1
    have tb := t.2
    try simp only [pushed_next', upded_next'] at ta tb
    apply Run.by_eq
    · intro self
      conv => lhs; simp -implicitDefEqProofs (maxSteps := 300000) (disch := omega) [-getElem?_pos, -getElem?_neg, qb, tb, hg, ve]
    try (with_reducible refine Run.ret ?_)
    apply zz
    apply Leave.mk (by first | exact .inl rfl | exact .inr rfl) (by simp only [Fr.marks_put, fr0_marks])
    · conv => lhs; simp -implicitDefEqProofs (disch := omega) [Try.results69]
    exact ⟨by simp [leakB], ⟨by (try simp only [pushed_next', upded_next']); omega, fun i hi => by simp -implicitDefEqProofs (disch := omega) [qb, tb]⟩⟩
set_option maxRecDepth 100000 in
set_option maxHeartbeats 1000000 in
theorem leakIndex_ev (v : Value) (fs : List FlowD) (xs : List Int) (w : Value) (bp : Nat) (s : St) (hbp : bp < s.next) (hg : s.heap.get bp = some (.cells [w] none)) (hx : IntsAt s w xs) (hlx : xs.length ≤ 1000000) (hf : FlAt s v fs) (hl : fs.length ≤ 1000000) :
    Ev TT 71 [v, .func (.func 69) #[] #[.pointer (some ⟨bp, 0, none⟩)]] s fun r s' => Keep s s' ∧ ∃ i : Int, r = .int .i64 i ∧ (decide (0 ≤ i) = fs.any (leakB xs)) := by
  obtain ⟨a, c, rfl⟩ := hf.shape
  rw [List.length_map] at hf ⊢
  refine Ev.intro (fn := Try.f71) rfl (by kernel_rfl) rfl rfl ?_
  apply zz
  refine Cd.ra (h := ?_)
  apply Run.by_eq
  · intro self
    conv => lhs; simp -implicitDefEqProofs (maxSteps := 300000) (disch := omega) [-getElem?_pos, -getElem?_neg]
  try (with_reducible refine Run.ret ?_)
  apply zz
  refine Cd.ra (h := ?_)
  apply Run.by_eq
  · intro self
    conv => lhs; simp -implicitDefEqProofs (maxSteps := 300000) (disch := omega) [-getElem?_pos, -getElem?_neg]
  try (with_reducible refine Run.ret ?_)
  apply zz
  refine Cd.inv (fun z f s' => ∃ k : Nat, k ≤ fs.length ∧ z = fs.length - k ∧ f.marks = [] ∧ f.get 8 = .int .i64 k ∧ f.get 7 = .int .i64 fs.length ∧ f.get 0 = .slice a fs.length c ∧ f.get 1 = .func (.func 69) #[] #[.pointer (some ⟨bp, 0, none⟩)] ∧ Keep s s' ∧ (∀ (j : Nat) (g : FlowD), j < k → fs[j]? = some g → leakB xs g = false)) fs.length ?_ ?_
  · exact ⟨0, by omega, rfl, by simp, by simp, by simp, by simp, by simp, Keep.refl _, fun j g hj => absurd hj (by omega)⟩
  rintro z f s' ⟨k, hk, rfl, hm, h8, h7, h0, h1, hkp, hz⟩
  have hkpa := hkp.1
  have hkpb := hkp.2
  by_cases hlt : k < fs.length
  · obtain ⟨g, hgk⟩ : ∃ g, fs[k]? = some g := ⟨fs[k], by simp [hlt]⟩
    obtain ⟨b, off, o, cs, gg, rfl, hb, ho, hc, ht⟩ := FlAt.at (hf.keep hkp) hgk
    rw [FlowD.cs] at ht
    apply zz
    refine Cd.ra (h := ?_)
    apply Run.by_eq
    · intro self
      conv => lhs; simp -implicitDefEqProofs (maxSteps := 300000) (disch := omega) [-getElem?_pos, -getElem?_neg, h8, h7]
    try (with_reducible refine Run.ret ?_)
    apply zz
    apply Cd.ite rfl
    · conv => lhs; simp -implicitDefEqProofs (maxSteps := 300000) (disch := omega) [-getElem?_pos, -getElem?_neg]
    all_goals intro c0
    all_goals try (cases c0; done)
    all_goals try simp only [Bool.not_eq_true', Bool.not_eq_false', decide_eq_true_eq, decide_eq_false_iff_not] at c0
    all_goals apply zz
    · apply zz
      refine Cd.ra (h := ?_)
      apply Run.by_eq
      · intro self
        conv => lhs; simp -implicitDefEqProofs (maxSteps := 300000) (disch := omega) [-getElem?_pos, -getElem?_neg, h8]
      try (with_reducible refine Run.ret ?_)
      apply zz
      refine Cd.ra (h := ?_)
      apply Run.by_eq
      · intro self
        conv => lhs; simp -implicitDefEqProofs (maxSteps := 300000) (disch := omega) [-getElem?_pos, -getElem?_neg, h1, h0, ho, hc, ht, hlt]
      try (with_reducible refine Run.ret ?_)
      apply zz
      refine Run.call ((leakOne_ev g xs w bp s' (by omega) ((hkpb _ hbp).trans hg) (hx.keep hkp) hlx).mono fun v wq hv => ?_)
      obtain ⟨rfl, q⟩ := hv
      have qa := q.1
      have qb := q.2
      try simp only [pushed_next', upded_next'] at qa qb
      cases hL : leakB xs g with
      | true =>
        apply Run.by_eq
        · intro self
          conv => lhs; simp -implicitDefEqProofs (maxSteps := 300000) (disch := omega) [-getElem?_pos, -getElem?_neg, hL]
        try (with_reducible refine Run.ret ?_)
        apply zz
        apply Cd.ite rfl
        · conv => lhs; simp -implicitDefEqProofs (maxSteps := 300000) (disch := omega) [-getElem?_pos, -getElem?_neg]
        all_goals intro c1
        all_goals try (cases c1; done)
        all_goals try simp only [Bool.not_eq_true', Bool.not_eq_false', decide_eq_true_eq, decide_eq_false_iff_not] at c1
        all_goals apply zz
        apply zz
        refine Cd.ra (h := ?_)
        apply Run.by_eq
        · intro self
          conv => lhs; simp -implicitDefEqProofs (maxSteps := 300000) (disch := omega) [-getElem?_pos, -getElem?_neg]
        try (with_reducible refine Run.ret ?_)
        apply zz
        apply Leave.mk (by first | exact .inl rfl | exact .inr rfl) (by simp only [Fr.marks_put, fr0_marks, hm])
        · conv => lhs; simp -implicitDefEqProofs (disch := omega) [Try.results71, hm]
        refine ⟨hkp.trans q, k, rfl, ?_⟩
        rw [List.any_eq_true.2 ⟨g, List.mem_of_getElem? hgk, hL⟩]
        simp
      | false =>
        apply Run.by_eq
        · intro self
          conv => lhs; simp -implicitDefEqProofs (maxSteps := 300000) (disch := omega) [-getElem?_pos, -getElem?_neg, hL]
        try (with_reducible refine Run.ret ?_)
        apply zz
        apply Cd.ite rfl
        · conv => lhs; simp -implicitDefEqProofs (maxSteps := 300000) (disch := omega) [-getElem?_pos, -getElem?_neg]
        all_goals intro c1
        all_goals try (cases c1; done)
        all_goals try simp only [Bool.not_eq_true', Bool.not_eq_false', decide_eq_true_eq, decide_eq_false_iff_not] at c1
        all_goals apply zz
        apply zz
        refine Cd.ra (h := ?_)
        apply Run.by_eq
        · intro self
          conv => lhs; simp -implicitDefEqProofs (maxSteps := 300000) (disch := omega) [-getElem?_pos, -getElem?_neg, h8]
        try (with_reducible refine Run.ret ?_)
        apply zz
        refine LoopK.nm (fs.length - (k + 1)) (by omega) ⟨k + 1, by omega, rfl, by simp [hm], by simp, by simp [h7], by simp [h0], by simp [h1], hkp.trans q, fun j g' hj hg' => ?_⟩
        by_cases e : j = k
        · subst e
          rw [hgk] at hg'
          cases hg'
          exact hL
        · exact hz j g' (by omega) hg'
    · simp at c0; omega
  · obtain rfl : k = fs.length := by omega
    apply zz
    refine Cd.ra (h := ?_)
    apply Run.by_eq
    · intro self
      conv => lhs; simp -implicitDefEqProofs (maxSteps := 300000) (disch := omega) [-getElem?_pos, -getElem?_neg, h8, h7]
    try (with_reducible refine Run.ret ?_)
    apply zz
    apply Cd.ite rfl
    · conv => lhs; simp -implicitDefEqProofs (maxSteps := 300000) (disch := omega) [-getElem?_pos, -getElem?_neg]
    all_goals intro c0
    all_goals try (cases c0; done)
    all_goals try simp only [Bool.not_eq_true', Bool.not_eq_false', decide_eq_true_eq, decide_eq_false_iff_not] at c0
    all_goals apply zz
    apply zz
    refine Cd.ra (h := ?_)
    apply Run.by_eq
    · intro self
      conv => lhs; simp -implicitDefEqProofs (maxSteps := 300000) (disch := omega) [-getElem?_pos, -getElem?_neg]
    try (with_reducible refine Run.ret ?_)
    apply zz
    apply Leave.mk (by first | exact .inl rfl | exact .inr rfl) (by simp only [Fr.marks_put, fr0_marks, hm])
    · conv => lhs; simp -implicitDefEqProofs (disch := omega) [Try.results71, hm]
    refine ⟨hkp, -1, rfl, ?_⟩
    rw [List.any_eq_false.2 fun g hg => ?_]
    · rfl
    · obtain ⟨i, hi⟩ := List.getElem?_of_mem hg
      rw [hz i g (List.getElem?_eq_some_iff.1 hi).1 hi]; simp
set_option maxRecDepth 100000 in
set_option maxHeartbeats 1000000 in
theorem leakHas_ev (v : Value) (fs : List FlowD) (xs : List Int) (w : Value) (bp : Nat) (s : St) (hbp : bp < s.next) (hg : s.heap.get bp = some (.cells [w] none)) (hx : IntsAt s w xs) (hlx : xs.length ≤ 1000000) (hf : FlAt s v fs) (hl : fs.length ≤ 1000000) :
    Ev TT 68 [v, .func (.func 69) #[] #[.pointer (some ⟨bp, 0, none⟩)]] s fun r s' => r = .bool (fs.any (leakB xs)) ∧ Keep s s' := by
  refine Ev.intro (fn := Try.f68) rfl (by kernel_rfl) rfl rfl ?_
  apply zz
  refine Cd.ra (h := ?_)
  apply Run.by_eq
  · intro self
    conv => lhs; simp -implicitDefEqProofs (maxSteps := 300000) (disch := omega) [-getElem?_pos, -getElem?_neg]
  try (with_reducible refine Run.ret ?_)
  apply zz
  refine Cd.ra (h := ?_)
  apply Run.by_eq
  · intro self
    conv => lhs; simp -implicitDefEqProofs (maxSteps := 300000) (disch := omega) [-getElem?_pos, -getElem?_neg]
  try (with_reducible refine Run.ret ?_)
  apply zz
  refine Run.call ((leakIndex_ev v fs xs w bp s hbp hg hx hlx hf hl).mono fun r w1 hv => ?_)
  obtain ⟨q, i, rfl, hi⟩ := hv
  apply Run.by_eq
  · intro self
    conv => lhs; simp -implicitDefEqProofs (maxSteps := 300000) (disch := omega) [-getElem?_pos, -getElem?_neg]
  try (with_reducible refine Run.ret ?_)
  apply zz
  apply Leave.mk (by first | exact .inl rfl | exact .inr rfl) (by simp only [Fr.marks_put, fr0_marks])
  · conv => lhs; simp -implicitDefEqProofs (disch := omega) [Try.results68]
  exact ⟨by rw [← hi]; rfl, q⟩
set_option maxRecDepth 100000 in
set_option maxHeartbeats 1000000 in
theorem leaks_ev (u : Int) (v w : Value) (fs : List FlowD) (xs : List Int) (s : St) (hf : FlAt s v fs) (hl : fs.length ≤ 1000000) (hx : IntsAt s w xs) (hlx : xs.length ≤ 1000000) :
    Ev TT 57 [plantV u v, w] s fun r s' => r = .bool (fs.any (leakB xs)) ∧ Keep s s' := by
  obtain ⟨a, c, rfl⟩ := hx.shape
  obtain ⟨a', c', rfl⟩ := hf.shape
  rw [List.length_map] at hx hf ⊢
  rw [List.length_map]
  unfold plantV
  refine Ev.intro (fn := Try.f57) rfl (by kernel_rfl) rfl rfl ?_
  apply zz
  refine Cd.ra (h := ?_)
  apply Run.by_eq
  · intro self
    conv => lhs; simp -implicitDefEqProofs (maxSteps := 300000) (disch := omega) [-getElem?_pos, -getElem?_neg]
  try (with_reducible refine Run.ret ?_)
  apply zz
  refine Cd.ra (h := ?_)
  apply Run.by_eq
  · intro self
    conv => lhs; simp -implicitDefEqProofs (maxSteps := 300000) (disch := omega) [-getElem?_pos, -getElem?_neg]
  try (with_reducible refine Run.ret ?_)
  apply zz
  refine Run.call ((leakHas_ev _ fs xs (.slice a xs.length c) (s.next + 1) _ (by simp) (by simp) (hx.keep ⟨by (try simp only [pushed_next', upded_next']); omega, fun i hi => by simp -implicitDefEqProofs (disch := omega) []⟩) hlx (hf.keep ⟨by (try simp only [pushed_next', upded_next']); omega, fun i hi => by simp -implicitDefEqProofs (disch := omega) []⟩) hl).mono fun v wq hv => ?_)
  obtain ⟨rfl, q⟩ := hv
  have qa := q.1
  have qb := q.2
  try simp only [pushed_next', upded_next'] at qa qb
  apply Run.by_eq
  · intro self
    conv => lhs; simp -implicitDefEqProofs (maxSteps := 300000) (disch := omega) [-getElem?_pos, -getElem?_neg]
  try (with_reducible refine Run.ret ?_)
  apply zz
  apply Leave.mk (by first | exact .inl rfl | exact .inr rfl) (by simp only [Fr.marks_put, fr0_marks])
  · conv => lhs; simp -implicitDefEqProofs (disch := omega) [Try.results57]
  exact ⟨rfl, ⟨by (try simp only [pushed_next', upded_next']); omega, fun i hi => by simp -implicitDefEqProofs (disch := omega) [qb]⟩⟩
set_option maxRecDepth 100000 in
set_option maxHeartbeats 1000000 in
theorem refutes_ev (u kind : Int) (v w : Value) (fs : List FlowD) (xs : List Int) (s : St) (hf : FlAt s v fs) (hx : IntsAt s w xs) (hl : fs.length ≤ 1000000) (hlx : xs.length ≤ 1000000) :
    Ev TT 33 [plantV u v, w, .int .i64 kind] s fun r s' => r = .int .i64 (refutesR u fs xs kind) ∧ Keep s s' := by
  unfold plantV
  refine Ev.intro (fn := Try.f33) rfl (by kernel_rfl) rfl rfl ?_
  apply zz
  refine Cd.ra (h := ?_)
  apply Run.by_eq
  · intro self
    conv => lhs; simp -implicitDefEqProofs (maxSteps := 300000) (disch := omega) [-getElem?_pos, -getElem?_neg]
  try (with_reducible refine Run.ret ?_)
  apply zz
  refine Cd.ra (h := ?_)
  apply Run.by_eq
  · intro self
    conv => lhs; simp -implicitDefEqProofs (maxSteps := 300000) (disch := omega) [-getElem?_pos, -getElem?_neg]
  try (with_reducible refine Run.ret ?_)
  apply zz
  refine Run.call ((excessP_ev u v w fs xs _ (hf.keep ⟨by (try simp only [pushed_next', upded_next']); omega, fun i hi => by simp -implicitDefEqProofs (disch := omega) []⟩) (hx.keep ⟨by (try simp only [pushed_next', upded_next']); omega, fun i hi => by simp -implicitDefEqProofs (disch := omega) []⟩) hl hlx).mono fun v wq hv => ?_)
  obtain ⟨rfl, q⟩ := hv
  have qa := q.1
  have qb := q.2
  try simp only [pushed_next', upded_next'] at qa qb
  apply Run.by_eq
  · intro self
    conv => lhs; simp -implicitDefEqProofs (maxSteps := 300000) (disch := omega) [-getElem?_pos, -getElem?_neg, Mass.v]
  try (with_reducible refine Run.ret ?_)
  apply zz
  refine Cd.ra (h := ?_)
  apply Run.by_eq
  · intro self
    conv => lhs; simp -implicitDefEqProofs (maxSteps := 300000) (disch := omega) [-getElem?_pos, -getElem?_neg]
  try (with_reducible refine Run.ret ?_)
  apply zz
  apply Cd.ite rfl
  · conv => lhs; simp -implicitDefEqProofs (maxSteps := 300000) (disch := omega) [-getElem?_pos, -getElem?_neg]
  all_goals intro c0
  all_goals try (cases c0; done)
  all_goals try simp only [Bool.not_eq_true', Bool.not_eq_false', decide_eq_true_eq, decide_eq_false_iff_not] at c0
  all_goals apply zz
  · apply zz
    refine Cd.ra (h := ?_)
    apply Run.by_eq
    · intro self
      conv => lhs; simp -implicitDefEqProofs (maxSteps := 300000) (disch := omega) [-getElem?_pos, -getElem?_neg]
    try (with_reducible refine Run.ret ?_)
    apply zz
    apply Leave.mk (by first | exact .inl rfl | exact .inr rfl) (by simp only [Fr.marks_put, fr0_marks])
    · conv => lhs; simp -implicitDefEqProofs (disch := omega) [Try.results33]
    exact ⟨by unfold refutesR; rw [if_pos c0]; rfl, ⟨by (try simp only [pushed_next', upded_next']); omega, fun i hi => by simp -implicitDefEqProofs (disch := omega) [qb]⟩⟩
  have hE : excV u fs xs = excM xs fs := by unfold excV; rw [if_pos c0]
  rw [hE]
  by_cases h1 : kind < 0
  · apply zz
    refine Cd.ra (h := ?_)
    apply Run.by_eq
    · intro self
      conv => lhs; simp -implicitDefEqProofs (maxSteps := 300000) (disch := omega) [-getElem?_pos, -getElem?_neg, h1]
    try (with_reducible refine Run.ret ?_)
    apply zz
    apply Cd.ite rfl
    · conv => lhs; simp -implicitDefEqProofs (maxSteps := 300000) (disch := omega) [-getElem?_pos, -getElem?_neg]
    all_goals intro c1
    all_goals try (cases c1; done)
    all_goals try simp only [Bool.not_eq_true', Bool.not_eq_false', decide_eq_true_eq, decide_eq_false_iff_not] at c1
    all_goals apply zz
    apply zz
    refine Cd.ra (h := ?_)
    apply Run.by_eq
    · intro self
      conv => lhs; simp -implicitDefEqProofs (maxSteps := 300000) (disch := omega) [-getElem?_pos, -getElem?_neg]
    try (with_reducible refine Run.ret ?_)
    apply zz
    apply Leave.mk (by first | exact .inl rfl | exact .inr rfl) (by simp only [Fr.marks_put, fr0_marks])
    · conv => lhs; simp -implicitDefEqProofs (disch := omega) [Try.results33]
    exact ⟨by unfold refutesR; rw [if_neg (by omega), if_pos (by omega)]; rfl, ⟨by (try simp only [pushed_next', upded_next']); omega, fun i hi => by simp -implicitDefEqProofs (disch := omega) [qb]⟩⟩
  by_cases h2 : 4 ≤ kind
  · apply zz
    refine Cd.ra (h := ?_)
    apply Run.by_eq
    · intro self
      conv => lhs; simp -implicitDefEqProofs (maxSteps := 300000) (disch := omega) [-getElem?_pos, -getElem?_neg, h1, h2]
    try (with_reducible refine Run.ret ?_)
    apply zz
    apply Cd.ite rfl
    · conv => lhs; simp -implicitDefEqProofs (maxSteps := 300000) (disch := omega) [-getElem?_pos, -getElem?_neg]
    all_goals intro c1
    all_goals try (cases c1; done)
    all_goals try simp only [Bool.not_eq_true', Bool.not_eq_false', decide_eq_true_eq, decide_eq_false_iff_not] at c1
    all_goals apply zz
    apply zz
    refine Cd.ra (h := ?_)
    apply Run.by_eq
    · intro self
      conv => lhs; simp -implicitDefEqProofs (maxSteps := 300000) (disch := omega) [-getElem?_pos, -getElem?_neg]
    try (with_reducible refine Run.ret ?_)
    apply zz
    apply Leave.mk (by first | exact .inl rfl | exact .inr rfl) (by simp only [Fr.marks_put, fr0_marks])
    · conv => lhs; simp -implicitDefEqProofs (disch := omega) [Try.results33]
    exact ⟨by unfold refutesR; rw [if_neg (by omega), if_pos (by omega)]; rfl, ⟨by (try simp only [pushed_next', upded_next']); omega, fun i hi => by simp -implicitDefEqProofs (disch := omega) [qb]⟩⟩
  obtain ⟨k, rfl⟩ : ∃ k : Nat, kind = k := ⟨kind.toNat, by omega⟩
  have hk4 : k < 4 := by omega
  have hat := (excM xs fs).cs_at hk4
  have hR : refutesR u fs xs k = if (excM xs fs).at k = 0 ∨ fs.any (leakB xs) = true then 11 else 0 := by
    unfold refutesR; rw [if_neg (by omega), if_neg (by omega)]; rfl
  rw [hR]
  apply zz
  refine Cd.ra (h := ?_)
  apply Run.by_eq
  · intro self
    conv => lhs; simp -implicitDefEqProofs (maxSteps := 300000) (disch := omega) [-getElem?_pos, -getElem?_neg, h1, h2]
  try (with_reducible refine Run.ret ?_)
  apply zz
  apply Cd.ite rfl
  · conv => lhs; simp -implicitDefEqProofs (maxSteps := 300000) (disch := omega) [-getElem?_pos, -getElem?_neg]
  all_goals intro c1
  all_goals try (cases c1; done)
  all_goals try simp only [Bool.not_eq_true', Bool.not_eq_false', decide_eq_true_eq, decide_eq_false_iff_not] at c1
  all_goals apply zz
  by_cases hz : (excM xs fs).at k = 0
  · apply zz
    refine Cd.ra (h := ?_)
    apply Run.by_eq
    · intro self
      conv => lhs; simp -implicitDefEqProofs (maxSteps := 300000) (disch := omega) [-getElem?_pos, -getElem?_neg, hat, hk4, hz]
    try (with_reducible refine Run.ret ?_)
    apply zz
    apply Cd.ite rfl
    · conv => lhs; simp -implicitDefEqProofs (maxSteps := 300000) (disch := omega) [-getElem?_pos, -getElem?_neg]
    all_goals intro c2
    all_goals try (cases c2; done)
    all_goals try simp only [Bool.not_eq_true', Bool.not_eq_false', decide_eq_true_eq, decide_eq_false_iff_not] at c2
    all_goals apply zz
    apply zz
    refine Cd.ra (h := ?_)
    apply Run.by_eq
    · intro self
      conv => lhs; simp -implicitDefEqProofs (maxSteps := 300000) (disch := omega) [-getElem?_pos, -getElem?_neg]
    try (with_reducible refine Run.ret ?_)
    apply zz
    apply Leave.mk (by first | exact .inl rfl | exact .inr rfl) (by simp only [Fr.marks_put, fr0_marks])
    · conv => lhs; simp -implicitDefEqProofs (disch := omega) [Try.results33]
    exact ⟨by rw [if_pos (.inl hz)]; rfl, ⟨by (try simp only [pushed_next', upded_next']); omega, fun i hi => by simp -implicitDefEqProofs (disch := omega) [qb]⟩⟩
  · apply zz
    refine Cd.ra (h := ?_)
    apply Run.by_eq
    · intro self
      conv => lhs; simp -implicitDefEqProofs (maxSteps := 300000) (disch := omega) [-getElem?_pos, -getElem?_neg, hat, hk4, hz, qb]
    try (with_reducible refine Run.ret ?_)
    apply zz
    refine Run.call ((leaks_ev u v w fs xs _ (hf.keep ⟨by (try simp only [pushed_next', upded_next']); omega, fun i hi => by simp -implicitDefEqProofs (disch := omega) [qb]⟩) hl (hx.keep ⟨by (try simp only [pushed_next', upded_next']); omega, fun i hi => by simp -implicitDefEqProofs (disch := omega) [qb]⟩) hlx).mono fun v wt hv => ?_)
    obtain ⟨rfl, t⟩ := hv
    have ta := t.1
    have tb := t.2
    try simp only [pushed_next', upded_next'] at ta tb
    apply Run.by_eq
    · intro self
      conv => lhs; simp -implicitDefEqProofs (maxSteps := 300000) (disch := omega) [-getElem?_pos, -getElem?_neg]
    try (with_reducible refine Run.ret ?_)
    apply zz
    cases hL : fs.any (leakB xs) with
    | true =>
      apply zz
      apply Cd.ite rfl
      · conv => lhs; simp -implicitDefEqProofs (maxSteps := 300000) (disch := omega) [-getElem?_pos, -getElem?_neg, hL]
      all_goals intro c2
      all_goals try (cases c2; done)
      all_goals try simp only [Bool.not_eq_true', Bool.not_eq_false', decide_eq_true_eq, decide_eq_false_iff_not] at c2
      all_goals apply zz
      apply zz
      refine Cd.ra (h := ?_)
      apply Run.by_eq
      · intro self
        conv => lhs; simp -implicitDefEqProofs (maxSteps := 300000) (disch := omega) [-getElem?_pos, -getElem?_neg]
      try (with_reducible refine Run.ret ?_)
      apply zz
      apply Leave.mk (by first | exact .inl rfl | exact .inr rfl) (by simp only [Fr.marks_put, fr0_marks])
      · conv => lhs; simp -implicitDefEqProofs (disch := omega) [Try.results33]
      exact ⟨by rw [if_pos (.inr rfl)]; rfl, ⟨by (try simp only [pushed_next', upded_next']); omega, fun i hi => by simp -implicitDefEqProofs (disch := omega) [qb, tb]⟩⟩
    | false =>
      apply zz
      apply Cd.ite rfl
      · conv => lhs; simp -implicitDefEqProofs (maxSteps := 300000) (disch := omega) [-getElem?_pos, -getElem?_neg, hL]
      all_goals intro c2
      all_goals try (cases c2; done)
      all_goals try simp only [Bool.not_eq_true', Bool.not_eq_false', decide_eq_true_eq, decide_eq_false_iff_not] at c2
      all_goals apply zz
      apply zz
      refine Cd.ra (h := ?_)
      apply Run.by_eq
      · intro self
        conv => lhs; simp -implicitDefEqProofs (maxSteps := 300000) (disch := omega) [-getElem?_pos, -getElem?_neg]
      try (with_reducible refine Run.ret ?_)
      apply zz
      apply Leave.mk (by first | exact .inl rfl | exact .inr rfl) (by simp only [Fr.marks_put, fr0_marks])
      · conv => lhs; simp -implicitDefEqProofs (disch := omega) [Try.results33]
      exact ⟨by rw [if_neg (by simp [hz])]; rfl, ⟨by (try simp only [pushed_next', upded_next']); omega, fun i hi => by simp -implicitDefEqProofs (disch := omega) [qb, tb]⟩⟩
end Go.Proofs.Ytjehpgflhgpalaa
namespace Go.Proofs.Ytjehpgflhgpalaa
open Go Kern
/-- Cells that are gathered, in a block of their own. -/
def OwnC (N : Nat) (s : St) (w : Value) (cs : List Value) : Prop :=
  (cs = [] ∧ w = .slice none 0 0) ∨ ∃ b, w = .slice (some ⟨b, 0, none⟩) cs.length cs.length ∧ cs ≠ [] ∧ N ≤ b ∧ b < s.next ∧ s.heap.get b = some (.cells cs (some 1))
end Go.Proofs.Ytjehpgflhgpalaa
namespace Go.Proofs.Ytjehpgflhgpalaa
open Go Kern
theorem Same.out {n : Nat} {rt : Int → Int} {L : Nat → Int} (hs : Same n rt L) : L 0 = 0 := by have := hs.1 0 (by omega); omega
theorem Same.st {n : Nat} {rt : Int → Int} {L : Nat → Int} (hs : Same n rt L) {x y : Nat} (hx : x < n) (hy : y < n) : L (x + 1) = L (y + 1) ↔ rt x = rt y := by
  have := hs.2 (x + 1) (y + 1) (by omega) (by omega)
  rw [show (((x + 1 : Nat) : Int) - 1) = x by omega, show (((y + 1 : Nat) : Int) - 1) = y by omega] at this
  exact this
/-- The units of a head. -/
def sideL (L : Nat → Int) (n : Nat) (h : Int) : List Int := ((List.range (n + 1)).filter fun i => decide (L i = h)).map fun i : Nat => (i : Int) - 1
theorem mem_sideL {L : Nat → Int} {n : Nat} {h x : Int} (h1 : -1 ≤ x) (h2 : x < n) : x ∈ sideL L n h ↔ L (x + 1).toNat = h := by
  unfold sideL
  constructor
  · intro hm
    obtain ⟨i, hi, e⟩ := List.mem_map.1 hm
    obtain rfl : i = (x + 1).toNat := by omega
    simpa using (List.mem_filter.1 hi).2
  · intro hm
    exact List.mem_map.2 ⟨(x + 1).toNat, List.mem_filter.2 ⟨List.mem_range.2 (by omega), by simp [hm]⟩, by omega⟩
/-- What the reference finds: units and kind. -/
def clashR (n : Nat) (fs : List FlowD) : List Int × Nat := (provF (rtF (-1) fs 0 id) fs n n 0).getD ([], 0)
end Go.Proofs.Ytjehpgflhgpalaa
namespace Go.Proofs.Ytjehpgflhgpalaa
open Go Kern
theorem range_setV {g h : Nat → Value} {n k : Nat} (hk : k < n) (ho : ∀ x, x < n → x ≠ k → h x = g x) {w : Value} (hw : w = h k) : ((List.range n).map g).set k w = (List.range n).map h := by
  subst hw
  apply List.ext_getElem?
  intro i
  rw [List.getElem?_set]
  by_cases e : k = i
  · subst e; simp [hk]
  · rw [if_neg e]
    by_cases hi : i < n
    · simp [hi, ho i hi (fun q => e q.symm)]
    · simp [hi]
set_option maxRecDepth 100000 in
set_option maxHeartbeats 2000000 in
theorem forestOf_ev (u : Int) (v : Value) (fs : List FlowD) (s : St) (hf : FlAt s v fs) (hl : fs.length ≤ 1000) :
    Ev TT 64 [plantV u v] s fun r s' => Keep s s' ∧ ∃ φ, r = .slice (some ⟨φ, 0, none⟩) fs.length fs.length ∧ s.next ≤ φ ∧ φ < s'.next ∧ s'.heap.get φ = some (.cells ((List.range fs.length).map fun j => Value.bool (chB fs j)) none) := by
  obtain ⟨a, c, rfl⟩ := hf.shape
  rw [List.length_map] at hf ⊢
  unfold plantV
  have nl := natOf_cast .i64 fs.length
  refine Ev.intro (fn := Try.f64) rfl (by kernel_rfl) rfl rfl ?_
  apply zz
  refine Cd.ra (h := ?_)
  apply Run.by_eq
  · intro self
    conv => lhs; simp -implicitDefEqProofs (maxSteps := 300000) (disch := omega) [-getElem?_pos, -getElem?_neg]
  try (with_reducible refine Run.ret ?_)
  apply zz
  refine Cd.ra (h := ?_)
  apply Run.by_eq
  · intro self
    conv => lhs; simp -implicitDefEqProofs (maxSteps := 300000) (disch := omega) [-getElem?_pos, -getElem?_neg, nl]
  try (with_reducible refine Run.ret ?_)
  apply zz
  refine Cd.ra (h := ?_)
  apply Run.by_eq
  · intro self
    conv => lhs; simp -implicitDefEqProofs (maxSteps := 300000) (disch := omega) [-getElem?_pos, -getElem?_neg]
  try (with_reducible refine Run.ret ?_)
  apply zz
  refine Cd.ra (h := ?_)
  apply Run.by_eq
  · intro self
    conv => lhs; simp -implicitDefEqProofs (maxSteps := 300000) (disch := omega) [-getElem?_pos, -getElem?_neg]
  try (with_reducible refine Run.ret ?_)
  apply zz
  refine Cd.inv (fun z f s' => ∃ k : Nat, k ≤ fs.length ∧ z = fs.length - k ∧ f.marks = [] ∧ f.get 16 = .int .i64 k ∧ f.get 15 = .int .i64 fs.length ∧ f.get 14 = .slice a fs.length c ∧ f.get 3 = .slice (some ⟨s.next + 1, 0, none⟩) fs.length fs.length ∧ f.get 4 = .pointer (some ⟨s.next + 1 + 1 + 1, 0, none⟩) ∧ Keep s s' ∧ s.next + 1 + 1 + 1 < s'.next ∧
    s'.heap.get (s.next + 1) = some (.cells ((List.range fs.length).map fun j => Value.bool (decide (j < k) && chB fs j)) none) ∧ s'.heap.get (s.next + 1 + 1 + 1) = some (.cells [.map (some (s.next + 1 + 1))] none) ∧ ∃ es, s'.heap.get (s.next + 1 + 1) = some (.map (mapL2 es 0) es.length) ∧ Forest es (rtF (-1) (fs.take k) 0 id)) fs.length ?_ ?_
  · refine ⟨0, by omega, rfl, by simp, by simp, by simp, by simp, by simp, by simp, ⟨by (try simp only [pushed_next', upded_next']); omega, fun i hi => by simp -implicitDefEqProofs (disch := omega) []⟩, by simp, ?_, by simp -implicitDefEqProofs (disch := omega), [], by simp -implicitDefEqProofs (disch := omega) [mapL2], Forest.empty⟩
    simp -implicitDefEqProofs (disch := omega) [repeatL_single]
    apply List.ext_getElem?
    intro i
    by_cases h : i < fs.length <;> simp [h]
  rintro z f s' ⟨k, hk, rfl, hm, h16, h15, h14, h3, h4, hkp, hnx, hg1, hg3, es, hg2, hF⟩
  have hkpa := hkp.1
  have hkpb := hkp.2
  by_cases hlt : k < fs.length
  · obtain ⟨g, hg⟩ : ∃ g, fs[k]? = some g := ⟨fs[k], by simp [hlt]⟩
    have hstep := rtF_take (-1) fs 0 id k g hg
    rw [Nat.zero_add] at hstep
    have hch := chB_some hg
    obtain ⟨b, off, o, cs, gg, rfl, hb, ho, hc, ht⟩ := FlAt.at (hf.keep hkp) hg
    obtain ⟨g0, g1, gm, m⟩ := g
    rw [FlowD.cs] at ht
    simp only [] at ht hch
    have hset : ∀ w : Value, w = .bool (chB fs k) → ((List.range fs.length).map fun j => Value.bool (decide (j < k) && chB fs j)).set k w = (List.range fs.length).map fun j => Value.bool (decide (j < k + 1) && chB fs j) := fun w hw =>
      range_setV hlt (fun x _ hx => by
        have : (x < k + 1) ↔ (x < k) := by omega
        simp [this]) (by rw [hw]; simp)
    apply zz
    refine Cd.ra (h := ?_)
    apply Run.by_eq
    · intro self
      conv => lhs; simp -implicitDefEqProofs (maxSteps := 300000) (disch := omega) [-getElem?_pos, -getElem?_neg, h16, h15]
    try (with_reducible refine Run.ret ?_)
    apply zz
    apply Cd.ite rfl
    · conv => lhs; simp -implicitDefEqProofs (maxSteps := 300000) (disch := omega) [-getElem?_pos, -getElem?_neg]
    all_goals intro c0
    all_goals try (cases c0; done)
    all_goals try simp only [Bool.not_eq_true', Bool.not_eq_false', decide_eq_true_eq, decide_eq_false_iff_not] at c0
    all_goals apply zz
    · apply zz
      refine Cd.ra (h := ?_)
      apply Run.by_eq
      · intro self
        conv => lhs; simp -implicitDefEqProofs (maxSteps := 300000) (disch := omega) [-getElem?_pos, -getElem?_neg, h16, h14, ho, hc, ht, hlt]
      try (with_reducible refine Run.ret ?_)
      apply zz
      cases gm with
      | true =>
        have hput := putL_set (Value.bool false) k ((List.range fs.length).map fun j => Value.bool (decide (j < k) && chB fs j)) (by simpa using hlt)
        rw [hset _ (by rw [hch]; rfl)] at hput
        apply zz
        refine Cd.ra (h := ?_)
        apply Run.by_eq
        · intro self
          conv => lhs; simp -implicitDefEqProofs (maxSteps := 300000) (disch := omega) [-getElem?_pos, -getElem?_neg, h3, h4, hg1, hlt, hput]
        try (with_reducible refine Run.ret ?_)
        apply zz
        refine Cd.ra (h := ?_)
        apply Run.by_eq
        · intro self
          conv => lhs; simp -implicitDefEqProofs (maxSteps := 300000) (disch := omega) [-getElem?_pos, -getElem?_neg, h16]
        try (with_reducible refine Run.ret ?_)
        apply zz
        refine LoopK.nm (fs.length - (k + 1)) (by omega) ⟨k + 1, by omega, rfl, by simp [hm], by simp, by simp [h15], by simp [h14], by simp [h3], by simp [h4], ⟨by (try simp only [pushed_next', upded_next']); omega, fun i hi => by simp -implicitDefEqProofs (disch := omega) [hkpb]⟩, by (try simp only [pushed_next', upded_next']); omega, ?_, ?_, es, ?_, ?_⟩
        · simp -implicitDefEqProofs (disch := omega)
        · simp -implicitDefEqProofs (disch := omega) [hg3]
        · simp -implicitDefEqProofs (disch := omega) [hg2]
        · rw [hstep]; unfold rtStep; rw [if_neg (by simp)]; exact hF
      | false =>
        apply zz
        refine Cd.ra (h := ?_)
        apply Run.by_eq
        · intro self
          conv => lhs; simp -implicitDefEqProofs (maxSteps := 300000) (disch := omega) [-getElem?_pos, -getElem?_neg, h3, h4, hg3]
        try (with_reducible refine Run.ret ?_)
        apply zz
        have hHA : HeadsAt ((s'.pushed (.cells [.int .i64 0, .int .i64 0, .bool false, .int .i64 0, .int .i64 0, .int .i64 0, .int .i64 0] none)).upded s'.next (.cells [.int .i64 g0, .int .i64 g1, .bool false, .int .i64 m.a, .int .i64 m.b, .int .i64 m.c, .int .i64 m.d] none)) (s.next + 1 + 1) es := ⟨by (try simp only [pushed_next', upded_next']); omega, by simp -implicitDefEqProofs (disch := omega) [hg2]⟩
        refine Run.call ((join_ev (s.next + 1 + 1) es _ g0 g1 _ hHA hF).mono fun v w1 hv => ?_)
        obtain ⟨rfl, qa, qb, es', hH', hF'⟩ := hv
        simp only [pushed_next', upded_next'] at qa qb
        have hw1 : w1.heap.get (s.next + 1) = some (.cells ((List.range fs.length).map fun j => Value.bool (decide (j < k) && chB fs j)) none) := by rw [qb _ (by omega) (by omega)]; simp -implicitDefEqProofs (disch := omega) [hg1]
        have hput := putL_set (Value.bool (!decide (rtF (-1) (fs.take k) 0 id g0 = rtF (-1) (fs.take k) 0 id g1))) k ((List.range fs.length).map fun j => Value.bool (decide (j < k) && chB fs j)) (by simpa using hlt)
        rw [hset _ (by rw [hch]; simp)] at hput
        generalize (!decide (rtF (-1) (fs.take k) 0 id g0 = rtF (-1) (fs.take k) 0 id g1)) = jb at hput
        apply Run.by_eq
        · intro self
          conv => lhs; simp -implicitDefEqProofs (maxSteps := 300000) (disch := omega) [-getElem?_pos, -getElem?_neg, h3, hw1, hlt, hput]
        try (with_reducible refine Run.ret ?_)
        apply zz
        refine Cd.ra (h := ?_)
        apply Run.by_eq
        · intro self
          conv => lhs; simp -implicitDefEqProofs (maxSteps := 300000) (disch := omega) [-getElem?_pos, -getElem?_neg, h16]
        try (with_reducible refine Run.ret ?_)
        apply zz
        refine LoopK.nm (fs.length - (k + 1)) (by omega) ⟨k + 1, by omega, rfl, by simp [hm], by simp, by simp [h15], by simp [h14], by simp [h3], by simp [h4], ⟨by (try simp only [upded_next']); omega, fun i hi => ?_⟩, by (try simp only [upded_next']); omega, ?_, ?_, es', ?_, ?_⟩
        · rw [get_upded_other _ _ _ _ (by omega), qb i (by omega) (by omega)]; simp -implicitDefEqProofs (disch := omega) [hkpb]
        · simp -implicitDefEqProofs (disch := omega)
        · rw [get_upded_other _ _ _ _ (by omega), qb _ (by omega) (by omega)]; simp -implicitDefEqProofs (disch := omega) [hg3]
        · rw [get_upded_other _ _ _ _ (by omega)]; exact hH'.2
        · rw [hstep]; unfold rtStep; rw [if_pos ⟨rfl, by omega⟩]; exact hF'
    · simp at c0; omega
  · obtain rfl : k = fs.length := by omega
    apply zz
    refine Cd.ra (h := ?_)
    apply Run.by_eq
    · intro self
      conv => lhs; simp -implicitDefEqProofs (maxSteps := 300000) (disch := omega) [-getElem?_pos, -getElem?_neg, h16, h15]
    try (with_reducible refine Run.ret ?_)
    apply zz
    apply Cd.ite rfl
    · conv => lhs; simp -implicitDefEqProofs (maxSteps := 300000) (disch := omega) [-getElem?_pos, -getElem?_neg]
    all_goals intro c0
    all_goals try (cases c0; done)
    all_goals try simp only [Bool.not_eq_true', Bool.not_eq_false', decide_eq_true_eq, decide_eq_false_iff_not] at c0
    all_goals apply zz
    apply zz
    refine Cd.ra (h := ?_)
    apply Run.by_eq
    · intro self
      conv => lhs; simp -implicitDefEqProofs (maxSteps := 300000) (disch := omega) [-getElem?_pos, -getElem?_neg, h3]
    try (with_reducible refine Run.ret ?_)
    apply zz
    apply Leave.mk (by first | exact .inl rfl | exact .inr rfl) (by simp only [Fr.marks_put, fr0_marks, hm])
    · conv => lhs; simp -implicitDefEqProofs (disch := omega) [Try.results64, hm]
    refine ⟨hkp, s.next + 1, rfl, by omega, by omega, ?_⟩
    rw [hg1]
    congr 2
    apply List.map_congr_left
    intro j hj
    have : j < fs.length := by simpa using hj
    simp [this]
end Go.Proofs.Ytjehpgflhgpalaa
namespace Go.Proofs.Ytjehpgflhgpalaa
open Go Kern
/-- Masses in memory, one after the other. -/
def balL (B : Nat → Mass) (len : Nat) : List Value := ((List.range len).map fun j => (B j).cs).flatten
theorem balL_length (B : Nat → Mass) : ∀ len, (balL B len).length = len * 4
  | 0 => rfl
  | k + 1 => by
    have := balL_length B k
    unfold balL at this ⊢
    rw [List.range_succ, List.map_append, List.flatten_append, List.length_append, this]
    simp [Mass.cs]; omega
theorem balL_succ (B : Nat → Mass) (k : Nat) : balL B (k + 1) = balL B k ++ (B k).cs := by
  unfold balL
  rw [List.range_succ, List.map_append, List.flatten_append]; simp
theorem putL_append {α : Type} (vs : List α) : ∀ (a b : List α), putL a.length vs (a ++ b) = ob (overL vs b) fun r => some (a ++ r)
  | [], b => by
    show overL vs b = _
    cases overL vs b <;> rfl
  | x :: a, b => by
    show ob (putL a.length vs (a ++ b)) (fun l => some (x :: l)) = _
    rw [putL_append vs a b]
    cases overL vs b <;> rfl
theorem overL_same {α : Type} : ∀ (vs b r : List α), vs.length = b.length → overL vs (b ++ r) = some (vs ++ r)
  | [], [], _, _ => rfl
  | v :: vs, x :: b, r, h => by
    show ob (overL vs (b ++ r)) (fun l => some (v :: l)) = _
    rw [overL_same vs b r (by simpa using h)]; rfl
theorem balL_cut (B : Nat → Mass) {i : Nat} : ∀ {len : Nat}, i < len → ∃ r, balL B len = balL B i ++ ((B i).cs ++ r) ∧ ∀ m : Mass, balL (fun j => if j = i then m else B j) len = balL B i ++ (m.cs ++ r)
  | 0, h => by omega
  | k + 1, h => by
    have hpre : ∀ m : Mass, ∀ q, q ≤ i → balL (fun j => if j = i then m else B j) q = balL B q := fun m q hq => by
      unfold balL
      congr 1
      apply List.map_congr_left
      intro x hx
      have : x < q := by simpa using hx
      show (if x = i then m else B x).cs = _
      rw [if_neg (by omega)]
    by_cases e : i = k
    · subst e
      refine ⟨[], by rw [balL_succ, List.append_nil], fun m => ?_⟩
      rw [balL_succ, hpre m i (Nat.le_refl _), if_pos rfl, List.append_nil]
    · obtain ⟨r, h1, h2⟩ := balL_cut B (i := i) (len := k) (by omega)
      refine ⟨r ++ (B k).cs, by rw [balL_succ, h1]; simp, fun m => ?_⟩
      rw [balL_succ, h2 m, if_neg (fun q => e q.symm)]; simp
theorem balL_put (B : Nat → Mass) {i len : Nat} (h : i < len) (m : Mass) : putL (i * 4) [.int .i64 m.a, .int .i64 m.b, .int .i64 m.c, .int .i64 m.d] (balL B len) = some (balL (fun j => if j = i then m else B j) len) := by
  obtain ⟨r, h1, h2⟩ := balL_cut B h
  rw [h1, h2 m, ← balL_length B i, putL_append]
  have := overL_same m.cs (B i).cs r rfl
  unfold Mass.cs at this ⊢
  rw [this]; rfl
theorem balL_get (B : Nat → Mass) {i len : Nat} (h : i < len) : takeL 4 ((balL B len).drop (i * 4)) = some (B i).cs := by
  unfold balL
  exact drop_flat (fun x hx => by obtain ⟨j, _, rfl⟩ := List.mem_map.1 hx; rfl) (by rw [List.getElem?_map, List.getElem?_range h]; rfl)
/-- Which ends are reached, in memory. -/
def reachL (R : Int → Bool) : List Value := (List.range 9).map fun x : Nat => Value.bool (R ((x : Int) - 1))
theorem reachL_put (R : Int → Bool) {e : Int} (h : -1 ≤ e ∧ e < 8) : putL (e + 1).toNat [.bool true] (reachL R) = some (reachL fun x => R x || decide (x = e)) := by
  rw [putL_set _ _ _ (by simp [reachL]; omega)]
  unfold reachL
  rw [range_setV (h := fun x : Nat => Value.bool (R ((x : Int) - 1) || decide ((x : Int) - 1 = e))) (by omega) (fun x _ hx => by
    have : ¬ (x : Int) - 1 = e := by omega
    simp [this]) (by
    have : (((e + 1).toNat : Nat) : Int) - 1 = e := by omega
    show Value.bool true = Value.bool (R ((((e + 1).toNat : Nat) : Int) - 1) || decide ((((e + 1).toNat : Nat) : Int) - 1 = e))
    rw [this]; simp)]
theorem reachL_get (R : Int → Bool) {e : Int} (h : -1 ≤ e ∧ e < 8) : (reachL R)[(e + 1).toNat]? = some (.bool (R e)) := by
  unfold reachL
  have h1 : (e + 1).toNat < 9 := by omega
  have h2 : (((e + 1).toNat : Nat) : Int) - 1 = e := by omega
  rw [List.getElem?_map, List.getElem?_range h1]
  show some (Value.bool (R ((((e + 1).toNat : Nat) : Int) - 1))) = _
  rw [h2]
/-- What the function that gathers finds in memory. -/
structure GC (s0 s : St) (u : Int) (v : Value) (fs : List FlowD) (ρ π φv φ γ βv β : Nat) : Prop where
  base : s0.next ≤ s.next
  old : ∀ i, i < s0.next → s.heap.get i = s0.heap.get i
  newR : s0.next ≤ ρ ∧ ρ < s.next
  newB : s0.next ≤ β ∧ β < s.next
  ne : ρ ≠ β
  gπ : π < s.next ∧ π ≠ ρ ∧ π ≠ β ∧ s.heap.get π = some (.cells [.int .i64 u, v] none)
  gφv : φv < s.next ∧ φv ≠ ρ ∧ φv ≠ β ∧ s.heap.get φv = some (.cells [.slice (some ⟨φ, 0, none⟩) fs.length fs.length] none)
  gφ : φ < s.next ∧ φ ≠ ρ ∧ φ ≠ β ∧ s.heap.get φ = some (.cells ((List.range fs.length).map fun j => Value.bool (chB fs j)) none)
  gγ : γ < s.next ∧ γ ≠ ρ ∧ γ ≠ β ∧ s.heap.get γ = some (.cells [.func (.func 65) #[] #[.pointer (some ⟨ρ, 0, none⟩), .pointer (some ⟨π, 0, none⟩), .pointer (some ⟨φv, 0, none⟩), .pointer (some ⟨γ, 0, none⟩), .pointer (some ⟨βv, 0, none⟩)]] none)
  gβv : βv < s.next ∧ βv ≠ ρ ∧ βv ≠ β ∧ s.heap.get βv = some (.cells [.slice (some ⟨β, 0, none⟩) fs.length fs.length] none)
theorem GC.keep {s0 s s' : St} {u : Int} {v : Value} {fs : List FlowD} {ρ π φv φ γ βv β : Nat} (h : GC s0 s u v fs ρ π φv φ γ βv β) (h1 : s.next ≤ s'.next) (h2 : ∀ i, i < s.next → i ≠ ρ → i ≠ β → s'.heap.get i = s.heap.get i) : GC s0 s' u v fs ρ π φv φ γ βv β where
  base := Nat.le_trans h.base h1
  old := fun i hi => by
    have := h.base; have := h.newR.1; have := h.newB.1
    rw [h2 i (by omega) (by omega) (by omega)]; exact h.old i hi
  newR := ⟨h.newR.1, Nat.lt_of_lt_of_le h.newR.2 h1⟩
  newB := ⟨h.newB.1, Nat.lt_of_lt_of_le h.newB.2 h1⟩
  ne := h.ne
  gπ := ⟨Nat.lt_of_lt_of_le h.gπ.1 h1, h.gπ.2.1, h.gπ.2.2.1, by rw [h2 _ h.gπ.1 h.gπ.2.1 h.gπ.2.2.1]; exact h.gπ.2.2.2⟩
  gφv := ⟨Nat.lt_of_lt_of_le h.gφv.1 h1, h.gφv.2.1, h.gφv.2.2.1, by rw [h2 _ h.gφv.1 h.gφv.2.1 h.gφv.2.2.1]; exact h.gφv.2.2.2⟩
  gφ := ⟨Nat.lt_of_lt_of_le h.gφ.1 h1, h.gφ.2.1, h.gφ.2.2.1, by rw [h2 _ h.gφ.1 h.gφ.2.1 h.gφ.2.2.1]; exact h.gφ.2.2.2⟩
  gγ := ⟨Nat.lt_of_lt_of_le h.gγ.1 h1, h.gγ.2.1, h.gγ.2.2.1, by rw [h2 _ h.gγ.1 h.gγ.2.1 h.gγ.2.2.1]; exact h.gγ.2.2.2⟩
  gβv := ⟨Nat.lt_of_lt_of_le h.gβv.1 h1, h.gβv.2.1, h.gβv.2.2.1, by rw [h2 _ h.gβv.1 h.gβv.2.1 h.gβv.2.2.1]; exact h.gβv.2.2.2⟩
set_option maxRecDepth 100000 in
set_option maxHeartbeats 4000000 in
theorem gather_ev (n : Nat) (v : Value) (fs : List FlowD) (s0 : St) (ρ π φv φ γ βv β : Nat) (K W : Int) (hn : n ≤ 8) (hf0 : FlAt s0 v fs) (hl : fs.length ≤ 1000) (hends : ∀ f ∈ fs, (-1 ≤ f.fr ∧ f.fr < n) ∧ (-1 ≤ f.to ∧ f.to < n)) (hne : ∀ f ∈ fs, f.fr ≠ f.to)
    (hB12 : ∀ f ∈ fs, f.me = true → f.m.le 1000000000000) (hK : 0 ≤ K) (hexc : ∀ e : Int, (excM [e] fs).le K) (hW : ((n : Int) + 1) * K ≤ W) (hW62 : W ≤ 4611686018427387904) :
    ∀ (m : Nat) (e b : Int) (R0 : Int → Bool) (B0 : Nat → Mass) (s : St), cntP n (Path fs (FE fs b) e) ≤ m → -1 ≤ e → e < n → (∀ (j : Nat) (g : FlowD), (j : Int) = b → fs[j]? = some g → g.fr = e ∨ g.to = e) →
      GC s0 s n v fs ρ π φv φ γ βv β → s.heap.get ρ = some (.cells (reachL R0) none) → s.heap.get β = some (.cells (balL B0 fs.length) none) → (∀ j, (B0 j).le W) →
      Ev TT 65 [.int .i64 e, .int .i64 b, .pointer (some ⟨ρ, 0, none⟩), .pointer (some ⟨π, 0, none⟩), .pointer (some ⟨φv, 0, none⟩), .pointer (some ⟨γ, 0, none⟩), .pointer (some ⟨βv, 0, none⟩)] s fun r s' =>
        ∃ (R : Int → Bool) (B : Nat → Mass) (left : Mass), r = left.v ∧ GDone fs n K W e b R0 B0 R B left ∧ s.next ≤ s'.next ∧ (∀ i, i < s.next → i ≠ ρ → i ≠ β → s'.heap.get i = s.heap.get i) ∧ s'.heap.get ρ = some (.cells (reachL R) none) ∧ s'.heap.get β = some (.cells (balL B fs.length) none) := by
  intro m
  induction m using Nat.strongRecOn with
  | _ m ih =>
  intro e b R0 B0 s hm he1 he2 hinc hC hρ hβ hBW
  obtain ⟨a, c, rfl⟩ := hf0.shape
  rw [List.length_map] at hf0 hC ih
  obtain ⟨hb1, hb2, ⟨hρ1, hρ2⟩, ⟨hβ1, hβ2⟩, hρβ, ⟨hπ1, hπ2, hπ3, hπ4⟩, ⟨hv1, hv2, hv3, hv4⟩, ⟨hφ1, hφ2, hφ3, hφ4⟩, ⟨hγ1, hγ2, hγ3, hγ4⟩, ⟨hw1, hw2, hw3, hw4⟩⟩ := id hC
  have ne := natOf_pos .i64 (show 0 ≤ e + 1 by omega)
  have hput := reachL_put R0 (e := e) (by omega)
  have hee : e - -1 = e + 1 := by omega
  refine Ev.intro (fn := Try.f65) rfl (by kernel_rfl) rfl rfl ?_
  apply zz
  refine Cd.ra (h := ?_)
  apply Run.by_eq
  · intro self
    conv => lhs; simp -implicitDefEqProofs (maxSteps := 300000) (disch := omega) [-getElem?_pos, -getElem?_neg]
  try (with_reducible refine Run.ret ?_)
  apply zz
  refine Cd.ra (h := ?_)
  apply Run.by_eq
  · intro self
    conv => lhs; simp -implicitDefEqProofs (maxSteps := 300000) (disch := omega) [-getElem?_pos, -getElem?_neg, ne, hρ, hput, hee]
  try (with_reducible refine Run.ret ?_)
  apply zz
  refine Cd.ra (h := ?_)
  apply Run.by_eq
  · intro self
    conv => lhs; simp -implicitDefEqProofs (maxSteps := 300000) (disch := omega) [-getElem?_pos, -getElem?_neg, hπ4]
  try (with_reducible refine Run.ret ?_)
  apply zz
  have hkX : ∀ {s' : St}, s.next ≤ s'.next → (∀ i, i < s.next → i ≠ ρ → i ≠ β → s'.heap.get i = s.heap.get i) → FlAt s' (.slice a fs.length c) fs := fun h1 h2 => by
    have hC' := hC.keep h1 h2
    exact hf0.keep ⟨hC'.base, hC'.old⟩
  refine Run.call ((excess_ev n (.slice a fs.length c) (.slice (some ⟨s.next + 1, 0, none⟩) 1 1) fs [e] _ (hkX (by (try simp only [pushed_next', upded_next']); omega) (fun i h1 h2 h3 => by simp -implicitDefEqProofs (disch := omega))) (ints_of_cells (xs := [e]) (g := none) (by simp) (by simp -implicitDefEqProofs (disch := omega))) (by omega) (by simp) hB12).mono fun v wq hv => ?_)
  obtain ⟨rfl, q⟩ := hv
  have qa := q.1
  have qb := q.2
  try simp only [pushed_next', upded_next'] at qa qb
  have hleft0 := hexc e
  have hst : GInv fs n K W e b 0 R0 B0 (fun x => R0 x || decide (x = e)) B0 (excM [e] fs) := GInv.start hK ⟨he1, he2⟩ hleft0 hBW (fun x _ _ => by simp)
  generalize excM [e] fs = l0 at hst
  apply Run.by_eq
  · intro self
    conv => lhs; simp -implicitDefEqProofs (maxSteps := 300000) (disch := omega) [-getElem?_pos, -getElem?_neg, Mass.v]
  try (with_reducible refine Run.ret ?_)
  apply zz
  refine Cd.ra (h := ?_)
  apply Run.by_eq
  · intro self
    conv => lhs; simp -implicitDefEqProofs (maxSteps := 300000) (disch := omega) [-getElem?_pos, -getElem?_neg, hπ4, qb]
  try (with_reducible refine Run.ret ?_)
  apply zz
  refine Cd.inv (fun z f s2 => ∃ (k : Nat) (R : Int → Bool) (B : Nat → Mass) (left : Mass), k ≤ fs.length ∧ z = fs.length - k ∧ f.marks = [] ∧ f.get 25 = .int .i64 k ∧ f.get 24 = .int .i64 fs.length ∧ f.get 23 = .slice a fs.length c ∧ f.get 0 = .int .i64 e ∧ f.get 1 = .int .i64 b ∧ f.get 4 = .pointer (some ⟨φv, 0, none⟩) ∧ f.get 5 = .pointer (some ⟨γ, 0, none⟩) ∧ f.get 6 = .pointer (some ⟨βv, 0, none⟩) ∧ f.get 9 = .pointer (some ⟨s.next, 0, none⟩) ∧ f.get 10 = .pointer (some ⟨wq.next, 0, none⟩) ∧
    wq.next < s2.next ∧ (∀ i, i < s.next → i ≠ ρ → i ≠ β → s2.heap.get i = s.heap.get i) ∧ s2.heap.get s.next = some (.cells Mass.zero.cs none) ∧ s2.heap.get wq.next = some (.cells left.cs none) ∧ s2.heap.get ρ = some (.cells (reachL R) none) ∧ s2.heap.get β = some (.cells (balL B fs.length) none) ∧ GInv fs n K W e b k R0 B0 R B left) fs.length ?_ ?_
  · refine ⟨0, _, B0, l0, by omega, rfl, by simp, by simp, by simp, by simp, by simp, by simp, by simp, by simp, by simp, by simp, by simp, by simp, fun i h1 h2 h3 => ?_, ?_, ?_, ?_, ?_, hst⟩
    · simp -implicitDefEqProofs (disch := omega) [qb]
    · simp -implicitDefEqProofs (disch := omega) [qb, Mass.zero, Mass.cs]
    · simp -implicitDefEqProofs (disch := omega) [Mass.cs]
    · simp -implicitDefEqProofs (disch := omega) [qb]
    · simp -implicitDefEqProofs (disch := omega) [qb, hβ]
  rintro z f s2 ⟨k, R, B, left, hk, rfl, hmk, g25, g24, g23, g0, g1, g4, g5, g6, g9, g10, hnx, hold, hz9, hz10, hzρ, hzβ, hI⟩
  have hC2 := hC.keep (s' := s2) (by omega) hold
  obtain ⟨-, -, -, -, -, ⟨hπ1', -, -, hπ4'⟩, ⟨hv1', -, -, hv4'⟩, ⟨hφ1', -, -, hφ4'⟩, ⟨hγ1', -, -, hγ4'⟩, ⟨hw1', -, -, hw4'⟩⟩ := id hC2
  by_cases hlt : k < fs.length
  · obtain ⟨g, hg⟩ : ∃ g, fs[k]? = some g := ⟨fs[k], by simp [hlt]⟩
    obtain ⟨b', off, o, cs, gg, rfl, hb', ho, hc, ht⟩ := FlAt.at (hf0.keep ⟨hC2.base, hC2.old⟩) hg
    have hgm := List.mem_of_getElem? hg
    have hgne := hne g hgm
    obtain ⟨hV1, hV2⟩ := hends g hgm
    have hskip := fun h => GInv.skip (n := n) (K := K) (W := W) (R0 := R0) (B0 := B0) (R := R) (B := B) (left := left) hg h hI
    have hchk : ((List.range fs.length).map fun j => Value.bool (chB fs j))[k]? = some (.bool (chB fs k)) := by rw [List.getElem?_map, List.getElem?_range hlt]; rfl
    obtain ⟨f0, f1, fm, mm⟩ := g
    rw [FlowD.cs] at ht
    simp only [] at ht hgne hV1 hV2 hskip
    simp only [Mass.cs] at hz9 hz10
    apply zz
    refine Cd.ra (h := ?_)
    apply Run.by_eq
    · intro self
      conv => lhs; simp -implicitDefEqProofs (maxSteps := 300000) (disch := omega) [-getElem?_pos, -getElem?_neg, g25, g24]
    try (with_reducible refine Run.ret ?_)
    apply zz
    apply Cd.ite rfl
    · conv => lhs; simp -implicitDefEqProofs (maxSteps := 300000) (disch := omega) [-getElem?_pos, -getElem?_neg]
    all_goals intro c0
    all_goals try (cases c0; done)
    all_goals try simp only [Bool.not_eq_true', Bool.not_eq_false', decide_eq_true_eq, decide_eq_false_iff_not] at c0
    all_goals apply zz
    · apply zz
      refine Cd.ra (h := ?_)
      apply Run.by_eq
      · intro self
        conv => lhs; simp -implicitDefEqProofs (maxSteps := 300000) (disch := omega) [-getElem?_pos, -getElem?_neg, g25, g23, ho, hc, ht, hlt]
      try (with_reducible refine Run.ret ?_)
      apply zz
      cases hch : chB fs k with
      | false =>
        rw [hch] at hchk
        apply zz
        refine Cd.ra (h := ?_)
        apply Run.by_eq
        · intro self
          conv => lhs; simp -implicitDefEqProofs (maxSteps := 300000) (disch := omega) [-getElem?_pos, -getElem?_neg, g4, hv4', hφ4', hchk, hlt]
        try (with_reducible refine Run.ret ?_)
        apply zz
        apply Cd.ite rfl
        · conv => lhs; simp -implicitDefEqProofs (maxSteps := 300000) (disch := omega) [-getElem?_pos, -getElem?_neg]
        all_goals intro c1
        all_goals try (cases c1; done)
        all_goals try simp only [Bool.not_eq_true', Bool.not_eq_false', decide_eq_true_eq, decide_eq_false_iff_not] at c1
        all_goals apply zz
        apply zz
        refine Cd.ra (h := ?_)
        apply Run.by_eq
        · intro self
          conv => lhs; simp -implicitDefEqProofs (maxSteps := 300000) (disch := omega) [-getElem?_pos, -getElem?_neg, g25]
        try (with_reducible refine Run.ret ?_)
        apply zz
        refine LoopK.nm (fs.length - (k + 1)) (by omega) ⟨k + 1, R, B, left, by omega, rfl, by simp [hmk], by simp, by simp [g24], by simp [g23], by simp [g0], by simp [g1], by simp [g4], by simp [g5], by simp [g6], by simp [g9], by simp [g10], by (try simp only [pushed_next', upded_next']); omega, fun i h1 h2 h3 => ?_, ?_, ?_, ?_, ?_, hskip (.inl hch)⟩
        · simp -implicitDefEqProofs (disch := omega) [hold]
        · simp -implicitDefEqProofs (disch := omega) [hz9, Mass.cs, Mass.zero]
        · simp -implicitDefEqProofs (disch := omega) [hz10, Mass.cs]
        · simp -implicitDefEqProofs (disch := omega) [hzρ]
        · simp -implicitDefEqProofs (disch := omega) [hzβ]
      | true =>
      rw [hch] at hchk
      by_cases hkb : (k : Int) = b
      · have hkd : decide ((k : Int) = b) = true := decide_eq_true hkb
        apply zz
        refine Cd.ra (h := ?_)
        apply Run.by_eq
        · intro self
          conv => lhs; simp -implicitDefEqProofs (maxSteps := 300000) (disch := omega) [-getElem?_pos, -getElem?_neg, g1, g4, hv4', hφ4', hchk, hlt, hkd]
        try (with_reducible refine Run.ret ?_)
        apply zz
        apply Cd.ite rfl
        · conv => lhs; simp -implicitDefEqProofs (maxSteps := 300000) (disch := omega) [-getElem?_pos, -getElem?_neg]
        all_goals intro c1
        all_goals try (cases c1; done)
        all_goals try simp only [Bool.not_eq_true', Bool.not_eq_false', decide_eq_true_eq, decide_eq_false_iff_not] at c1
        all_goals apply zz
        apply zz
        refine Cd.ra (h := ?_)
        apply Run.by_eq
        · intro self
          conv => lhs; simp -implicitDefEqProofs (maxSteps := 300000) (disch := omega) [-getElem?_pos, -getElem?_neg, g25]
        try (with_reducible refine Run.ret ?_)
        apply zz
        refine LoopK.nm (fs.length - (k + 1)) (by omega) ⟨k + 1, R, B, left, by omega, rfl, by simp [hmk], by simp, by simp [g24], by simp [g23], by simp [g0], by simp [g1], by simp [g4], by simp [g5], by simp [g6], by simp [g9], by simp [g10], by (try simp only [pushed_next', upded_next']); omega, fun i h1 h2 h3 => ?_, ?_, ?_, ?_, ?_, hskip (.inr (.inl hkb))⟩
        · simp -implicitDefEqProofs (disch := omega) [hold]
        · simp -implicitDefEqProofs (disch := omega) [hz9, Mass.cs, Mass.zero]
        · simp -implicitDefEqProofs (disch := omega) [hz10, Mass.cs]
        · simp -implicitDefEqProofs (disch := omega) [hzρ]
        · simp -implicitDefEqProofs (disch := omega) [hzβ]
      apply zz
      refine Cd.ra (h := ?_)
      apply Run.by_eq
      · intro self
        conv => lhs; simp -implicitDefEqProofs (maxSteps := 300000) (disch := omega) [-getElem?_pos, -getElem?_neg, g1, g4, hv4', hφ4', hchk, hlt, hkb]
      try (with_reducible refine Run.ret ?_)
      apply zz
      apply Cd.ite rfl
      · conv => lhs; simp -implicitDefEqProofs (maxSteps := 300000) (disch := omega) [-getElem?_pos, -getElem?_neg]
      all_goals intro c1
      all_goals try (cases c1; done)
      all_goals try simp only [Bool.not_eq_true', Bool.not_eq_false', decide_eq_true_eq, decide_eq_false_iff_not] at c1
      all_goals apply zz
      apply zz
      refine Cd.ra (h := ?_)
      apply Run.by_eq
      · intro self
        conv => lhs; simp -implicitDefEqProofs (maxSteps := 300000) (disch := omega) [-getElem?_pos, -getElem?_neg, g0]
      try (with_reducible refine Run.ret ?_)
      apply zz
      by_cases hto : e = f1
      · subst hto
        have hE : Ends ⟨f0, e, fm, mm⟩ e f0 := .inr ⟨rfl, rfl⟩
        have hsl := sub_lt (n := n) hg hch hkb hE hinc ⟨he1, he2⟩
        have hinc' : ∀ (j : Nat) (g : FlowD), (j : Int) = (k : Int) → fs[j]? = some g → g.fr = f0 ∨ g.to = f0 := fun j g hj hgj => by
          obtain rfl : j = k := by omega
          rw [hg] at hgj; cases hgj
          exact .inl rfl
        apply zz
        refine Cd.ra (h := ?_)
        apply Run.by_eq
        · intro self
          conv => lhs; simp -implicitDefEqProofs (maxSteps := 300000) (disch := omega) [-getElem?_pos, -getElem?_neg]
        try (with_reducible refine Run.ret ?_)
        apply zz
        apply Cd.ite rfl
        · conv => lhs; simp -implicitDefEqProofs (maxSteps := 300000) (disch := omega) [-getElem?_pos, -getElem?_neg]
        all_goals intro c2
        all_goals try (cases c2; done)
        all_goals try simp only [Bool.not_eq_true', Bool.not_eq_false', decide_eq_true_eq, decide_eq_false_iff_not] at c2
        all_goals apply zz
        apply zz
        refine Cd.ra (h := ?_)
        apply Run.by_eq
        · intro self
          conv => lhs; simp -implicitDefEqProofs (maxSteps := 300000) (disch := omega) [-getElem?_pos, -getElem?_neg, g5, hγ4']
        try (with_reducible refine Run.ret ?_)
        apply zz
        refine Run.call ((ih _ (by omega) f0 k R B _ (Nat.le_refl _) hV1.1 hV1.2 hinc' (hC2.keep (by (try simp only [pushed_next', upded_next']); omega) (fun i h1 h2 h3 => by simp -implicitDefEqProofs (disch := omega))) (by simp -implicitDefEqProofs (disch := omega) [hzρ]) (by simp -implicitDefEqProofs (disch := omega) [hzβ]) hI.bound).mono fun r s3 hv => ?_)
        obtain ⟨R', B', rest, rfl, hD, d1, d2, d3, d4⟩ := hv
        simp only [pushed_next', upded_next'] at d1 d2
        have hS := GInv.sub (m := rest) hg hch hkb hgne hE hinc hW hK (by rw [if_pos rfl]) hI hD
        have hputB := balL_put B' hlt rest
        have hadd : (left.add rest).le 4611686018427387904 := hS.le.mono (by
          have h1 := cntP_le n (Tk fs e b (k + 1))
          have h2 : ((cntP n (Tk fs e b (k + 1)) : Nat) : Int) * K ≤ ((n : Int) + 1) * K := Int.mul_le_mul_of_nonneg_right (by omega) hK
          omega)
        apply Run.by_eq
        · intro self
          conv => lhs; simp -implicitDefEqProofs (maxSteps := 300000) (disch := omega) [-getElem?_pos, -getElem?_neg, Mass.v]
        try (with_reducible refine Run.ret ?_)
        apply zz
        refine Cd.ra (h := ?_)
        apply Run.by_eq
        · intro self
          conv => lhs; simp -implicitDefEqProofs (maxSteps := 300000) (disch := omega) [-getElem?_pos, -getElem?_neg, g6, d2, hw4', d4, hlt, hputB]
        try (with_reducible refine Run.ret ?_)
        apply zz
        refine Cd.ra (h := ?_)
        apply Run.by_eq
        · intro self
          conv => lhs; simp -implicitDefEqProofs (maxSteps := 300000) (disch := omega) [-getElem?_pos, -getElem?_neg, g10, d2, hz10]
        try (with_reducible refine Run.ret ?_)
        apply zz
        refine Run.call ((plus_ev left rest _ hadd).mono fun v wy hv => ?_)
        obtain ⟨rfl, y⟩ := hv
        have ya := y.1
        have yb := y.2
        try simp only [pushed_next', upded_next'] at ya yb
        apply Run.by_eq
        · intro self
          conv => lhs; simp -implicitDefEqProofs (maxSteps := 300000) (disch := omega) [-getElem?_pos, -getElem?_neg, yb, d2, g10, hz10, Mass.v]
        try (with_reducible refine Run.ret ?_)
        apply zz
        refine Cd.ra (h := ?_)
        apply Run.by_eq
        · intro self
          conv => lhs; simp -implicitDefEqProofs (maxSteps := 300000) (disch := omega) [-getElem?_pos, -getElem?_neg, g25]
        try (with_reducible refine Run.ret ?_)
        apply zz
        refine LoopK.nm (fs.length - (k + 1)) (by omega) ⟨k + 1, R', fun j => if j = k then rest else B' j, left.add rest, by omega, rfl, by simp [hmk], by simp, by simp [g24], by simp [g23], by simp [g0], by simp [g1], by simp [g4], by simp [g5], by simp [g6], by simp [g9], by simp [g10], by (try simp only [pushed_next', upded_next']); omega, fun i h1 h2 h3 => ?_, ?_, ?_, ?_, ?_, hS⟩
        · simp -implicitDefEqProofs (disch := omega) [yb, d2, hold]
        · simp -implicitDefEqProofs (disch := omega) [yb, d2, hz9, Mass.cs, Mass.zero]
        · simp -implicitDefEqProofs (disch := omega) [Mass.cs]
        · simp -implicitDefEqProofs (disch := omega) [yb, d3]
        · simp -implicitDefEqProofs (disch := omega) [yb]
      · have htd : decide (e = f1) = false := decide_eq_false hto
        by_cases hfr : e = f0
        · have hE : Ends ⟨f0, f1, fm, mm⟩ e f1 := .inl ⟨hfr.symm, rfl⟩
          have hsl := sub_lt (n := n) hg hch hkb hE hinc ⟨he1, he2⟩
          have hinc' : ∀ (j : Nat) (g : FlowD), (j : Int) = (k : Int) → fs[j]? = some g → g.fr = f1 ∨ g.to = f1 := fun j g hj hgj => by
            obtain rfl : j = k := by omega
            rw [hg] at hgj; cases hgj
            exact .inr rfl
          have hfd : decide (e = f0) = true := decide_eq_true hfr
          apply zz
          refine Cd.ra (h := ?_)
          apply Run.by_eq
          · intro self
            conv => lhs; simp -implicitDefEqProofs (maxSteps := 300000) (disch := omega) [-getElem?_pos, -getElem?_neg, htd]
          try (with_reducible refine Run.ret ?_)
          apply zz
          apply Cd.ite rfl
          · conv => lhs; simp -implicitDefEqProofs (maxSteps := 300000) (disch := omega) [-getElem?_pos, -getElem?_neg]
          all_goals intro c2
          all_goals try (cases c2; done)
          all_goals try simp only [Bool.not_eq_true', Bool.not_eq_false', decide_eq_true_eq, decide_eq_false_iff_not] at c2
          all_goals apply zz
          apply zz
          refine Cd.ra (h := ?_)
          apply Run.by_eq
          · intro self
            conv => lhs; simp -implicitDefEqProofs (maxSteps := 300000) (disch := omega) [-getElem?_pos, -getElem?_neg, hfd]
          try (with_reducible refine Run.ret ?_)
          apply zz
          apply Cd.ite rfl
          · conv => lhs; simp -implicitDefEqProofs (maxSteps := 300000) (disch := omega) [-getElem?_pos, -getElem?_neg]
          all_goals intro c3
          all_goals try (cases c3; done)
          all_goals try simp only [Bool.not_eq_true', Bool.not_eq_false', decide_eq_true_eq, decide_eq_false_iff_not] at c3
          all_goals apply zz
          apply zz
          refine Cd.ra (h := ?_)
          apply Run.by_eq
          · intro self
            conv => lhs; simp -implicitDefEqProofs (maxSteps := 300000) (disch := omega) [-getElem?_pos, -getElem?_neg, g5, hγ4']
          try (with_reducible refine Run.ret ?_)
          apply zz
          refine Run.call ((ih _ (by omega) f1 k R B _ (Nat.le_refl _) hV2.1 hV2.2 hinc' (hC2.keep (by (try simp only [pushed_next', upded_next']); omega) (fun i h1 h2 h3 => by simp -implicitDefEqProofs (disch := omega))) (by simp -implicitDefEqProofs (disch := omega) [hzρ]) (by simp -implicitDefEqProofs (disch := omega) [hzβ]) hI.bound).mono fun r s3 hv => ?_)
          obtain ⟨R', B', rest, rfl, hD, d1, d2, d3, d4⟩ := hv
          simp only [pushed_next', upded_next'] at d1 d2
          have hS := GInv.sub (m := Mass.zero.sub rest) hg hch hkb hgne hE hinc hW hK (by rw [if_neg (fun q => hto q.symm)]) hI hD
          have hputB := balL_put B' hlt (Mass.zero.sub rest)
          have hadd : (left.add rest).le 4611686018427387904 := hS.le.mono (by
            have h1 := cntP_le n (Tk fs e b (k + 1))
            have h2 : ((cntP n (Tk fs e b (k + 1)) : Nat) : Int) * K ≤ ((n : Int) + 1) * K := Int.mul_le_mul_of_nonneg_right (by omega) hK
            omega)
          have hneg : (Mass.zero.sub rest).le 4611686018427387904 := Mass.le_neg (hD.le.mono (by
            have h1 := cntP_le n (Path fs (FE fs k) f1)
            have h2 : ((cntP n (Path fs (FE fs k) f1) : Nat) : Int) * K ≤ ((n : Int) + 1) * K := Int.mul_le_mul_of_nonneg_right (by omega) hK
            omega))
          have veβ : veq 5 (Value.slice (some ⟨β, 0, none⟩) fs.length fs.length) (Value.slice (some ⟨β, 0, none⟩) fs.length fs.length) = true := veq_slice _ _ _ _ _
          apply Run.by_eq
          · intro self
            conv => lhs; simp -implicitDefEqProofs (maxSteps := 300000) (disch := omega) [-getElem?_pos, -getElem?_neg, Mass.v]
          try (with_reducible refine Run.ret ?_)
          apply zz
          refine Cd.drawnH (pl := [(0, 0, false, false), (1, 0, false, false), (2, 0, false, false), (3, 0, false, false), (4, 12, true, false), (5, 31, false, false), (6, 63, true, false)]) [true, true, false, false, false, false, false] (by kernel_rfl) (by decide) (by decide) (by conv => lhs; simp only [List.map_cons, List.map_nil]) (by conv => lhs; simp [strip, orderedG, flagH]) ?_
          apply Run.by_eq
          · intro self
            conv => lhs; simp -implicitDefEqProofs (maxSteps := 300000) (disch := omega) [-getElem?_pos, -getElem?_neg, g6, d2, hw4', d4, hlt, veβ]
          try (with_reducible refine Run.ret ?_)
          apply zz
          refine Run.call ((minus_ev Mass.zero rest _ hneg).mono fun v wx hv => ?_)
          obtain ⟨rfl, x⟩ := hv
          have xa := x.1
          have xb := x.2
          try simp only [pushed_next', upded_next'] at xa xb
          apply Run.by_eq
          · intro self
            conv => lhs; simp -implicitDefEqProofs (maxSteps := 300000) (disch := omega) [-getElem?_pos, -getElem?_neg, xb, d2, hw4', d4, hlt, veβ, hputB, Mass.v]
          try (with_reducible refine Run.ret ?_)
          apply zz
          refine Cd.ra (h := ?_)
          apply Run.by_eq
          · intro self
            conv => lhs; simp -implicitDefEqProofs (maxSteps := 300000) (disch := omega) [-getElem?_pos, -getElem?_neg, g10, xb, d2, hz10]
          try (with_reducible refine Run.ret ?_)
          apply zz
          refine Run.call ((plus_ev left rest _ hadd).mono fun v wy hv => ?_)
          obtain ⟨rfl, y⟩ := hv
          have ya := y.1
          have yb := y.2
          try simp only [pushed_next', upded_next'] at ya yb
          apply Run.by_eq
          · intro self
            conv => lhs; simp -implicitDefEqProofs (maxSteps := 300000) (disch := omega) [-getElem?_pos, -getElem?_neg, yb, xb, d2, g10, hz10, Mass.v]
          try (with_reducible refine Run.ret ?_)
          apply zz
          refine Cd.ra (h := ?_)
          apply Run.by_eq
          · intro self
            conv => lhs; simp -implicitDefEqProofs (maxSteps := 300000) (disch := omega) [-getElem?_pos, -getElem?_neg, g25]
          try (with_reducible refine Run.ret ?_)
          apply zz
          refine LoopK.nm (fs.length - (k + 1)) (by omega) ⟨k + 1, R', fun j => if j = k then Mass.zero.sub rest else B' j, left.add rest, by omega, rfl, by simp [hmk], by simp, by simp [g24], by simp [g23], by simp [g0], by simp [g1], by simp [g4], by simp [g5], by simp [g6], by simp [g9], by simp [g10], by (try simp only [pushed_next', upded_next']); omega, fun i h1 h2 h3 => ?_, ?_, ?_, ?_, ?_, hS⟩
          · simp -implicitDefEqProofs (disch := omega) [yb, xb, d2, hold]
          · simp -implicitDefEqProofs (disch := omega) [yb, xb, d2, hz9, Mass.cs, Mass.zero]
          · simp -implicitDefEqProofs (disch := omega) [Mass.cs]
          · simp -implicitDefEqProofs (disch := omega) [yb, xb, d3]
          · simp -implicitDefEqProofs (disch := omega) [yb, xb]
        · have hfd : decide (e = f0) = false := decide_eq_false hfr
          apply zz
          refine Cd.ra (h := ?_)
          apply Run.by_eq
          · intro self
            conv => lhs; simp -implicitDefEqProofs (maxSteps := 300000) (disch := omega) [-getElem?_pos, -getElem?_neg, htd]
          try (with_reducible refine Run.ret ?_)
          apply zz
          apply Cd.ite rfl
          · conv => lhs; simp -implicitDefEqProofs (maxSteps := 300000) (disch := omega) [-getElem?_pos, -getElem?_neg]
          all_goals intro c2
          all_goals try (cases c2; done)
          all_goals try simp only [Bool.not_eq_true', Bool.not_eq_false', decide_eq_true_eq, decide_eq_false_iff_not] at c2
          all_goals apply zz
          apply zz
          refine Cd.ra (h := ?_)
          apply Run.by_eq
          · intro self
            conv => lhs; simp -implicitDefEqProofs (maxSteps := 300000) (disch := omega) [-getElem?_pos, -getElem?_neg, hfd]
          try (with_reducible refine Run.ret ?_)
          apply zz
          apply Cd.ite rfl
          · conv => lhs; simp -implicitDefEqProofs (maxSteps := 300000) (disch := omega) [-getElem?_pos, -getElem?_neg]
          all_goals intro c3
          all_goals try (cases c3; done)
          all_goals try simp only [Bool.not_eq_true', Bool.not_eq_false', decide_eq_true_eq, decide_eq_false_iff_not] at c3
          all_goals apply zz
          apply zz
          refine Cd.ra (h := ?_)
          apply Run.by_eq
          · intro self
            conv => lhs; simp -implicitDefEqProofs (maxSteps := 300000) (disch := omega) [-getElem?_pos, -getElem?_neg, g25]
          try (with_reducible refine Run.ret ?_)
          apply zz
          refine LoopK.nm (fs.length - (k + 1)) (by omega) ⟨k + 1, R, B, left, by omega, rfl, by simp [hmk], by simp, by simp [g24], by simp [g23], by simp [g0], by simp [g1], by simp [g4], by simp [g5], by simp [g6], by simp [g9], by simp [g10], by (try simp only [pushed_next', upded_next']); omega, fun i h1 h2 h3 => ?_, ?_, ?_, ?_, ?_, hskip (.inr (.inr ⟨fun q => hfr q.symm, fun q => hto q.symm⟩))⟩
          · simp -implicitDefEqProofs (disch := omega) [hold]
          · simp -implicitDefEqProofs (disch := omega) [hz9, Mass.cs, Mass.zero]
          · simp -implicitDefEqProofs (disch := omega) [hz10, Mass.cs]
          · simp -implicitDefEqProofs (disch := omega) [hzρ]
          · simp -implicitDefEqProofs (disch := omega) [hzβ]
    · simp at c0; omega
  · obtain rfl : k = fs.length := by omega
    apply zz
    refine Cd.ra (h := ?_)
    apply Run.by_eq
    · intro self
      conv => lhs; simp -implicitDefEqProofs (maxSteps := 300000) (disch := omega) [-getElem?_pos, -getElem?_neg, g25, g24]
    try (with_reducible refine Run.ret ?_)
    apply zz
    apply Cd.ite rfl
    · conv => lhs; simp -implicitDefEqProofs (maxSteps := 300000) (disch := omega) [-getElem?_pos, -getElem?_neg]
    all_goals intro c0
    all_goals try (cases c0; done)
    all_goals try simp only [Bool.not_eq_true', Bool.not_eq_false', decide_eq_true_eq, decide_eq_false_iff_not] at c0
    all_goals apply zz
    simp only [Mass.cs] at hz9 hz10
    apply zz
    refine Cd.ra (h := ?_)
    apply Run.by_eq
    · intro self
      conv => lhs; simp -implicitDefEqProofs (maxSteps := 300000) (disch := omega) [-getElem?_pos, -getElem?_neg, g9, g10, hz9, hz10]
    try (with_reducible refine Run.ret ?_)
    apply zz
    apply Leave.mk (by first | exact .inl rfl | exact .inr rfl) (by simp only [Fr.marks_put, fr0_marks, hmk, g9])
    · conv => lhs; simp -implicitDefEqProofs (disch := omega) [Try.results65, hmk, g9]
    refine ⟨R, B, left, rfl, hI.done hinc, by (try simp only [upded_next']); omega, fun i h1 h2 h3 => ?_, ?_, ?_⟩
    · simp -implicitDefEqProofs (disch := omega) [hold]
    · simp -implicitDefEqProofs (disch := omega) [hzρ]
    · simp -implicitDefEqProofs (disch := omega) [hzβ]
end Go.Proofs.Ytjehpgflhgpalaa
namespace Go.Proofs.Ytjehpgflhgpalaa
open Go Kern
/-- What a balance holds ahead of the trees. -/
def bal0 (fs : List FlowD) (k : Nat) (j : Nat) : Mass := if j < k then (match fs[j]? with | some f => if f.me = true then f.m else Mass.zero | none => Mass.zero) else Mass.zero
theorem bal0_succ {fs : List FlowD} {k : Nat} {f : FlowD} (hf : fs[k]? = some f) : bal0 fs (k + 1) = fun j => if j = k then (if f.me = true then f.m else Mass.zero) else bal0 fs k j := by
  funext j
  unfold bal0
  by_cases e : j = k
  · subst e; rw [if_pos (by omega), if_pos rfl, hf]
  · rw [if_neg e]
    by_cases h : j < k
    · rw [if_pos (by omega), if_pos h]
    · rw [if_neg (by omega), if_neg h]
theorem balL_congr {B B' : Nat → Mass} {len : Nat} (h : ∀ j, j < len → B j = B' j) : balL B len = balL B' len := by
  unfold balL
  congr 1
  apply List.map_congr_left
  intro j hj
  rw [h j (by simpa using hj)]
theorem balL_zero : ∀ len, balL (fun _ => Mass.zero) len = repeatL [.int .i64 0, .int .i64 0, .int .i64 0, .int .i64 0] len
  | 0 => rfl
  | k + 1 => by
    rw [balL_succ, balL_zero k]
    have : ∀ (z : List Value) (q : Nat), repeatL z q ++ z = repeatL z (q + 1) := fun z q => by
      induction q with
      | zero => show [] ++ z = z ++ []; simp
      | succ q ih =>
        show (z ++ repeatL z q) ++ z = z ++ repeatL z (q + 1)
        rw [List.append_assoc, ih]
    exact this _ _
@[simp] theorem cells_nilFunc : (Value.nilFunc).cells = #[Value.nilFunc] := rfl
structure Settled (fs : List FlowD) (n : Nat) (W : Int) (B : Nat → Mass) : Prop where
  meas : ∀ (j : Nat) (f : FlowD), fs[j]? = some f → f.me = true → B j = f.m
  rest : ∀ (j : Nat) (f : FlowD), fs[j]? = some f → f.me = false → chB fs j = false → B j = Mass.zero
  nets : ∀ v : Int, -1 ≤ v → v < n → (∀ y : Int, -1 ≤ y → Path fs (FE fs (-1)) y v → v ≤ y) ∨ netB fs B v = Mass.zero
  bound : ∀ j, (B j).le W
theorem hang_all {fs : List FlowD} {j : Nat} {f : FlowD} {e : Int} (hf : fs[j]? = some f) (hc : chB fs j = true) (h : Path fs (FE fs (-1)) e f.fr) {v : Int} (hv : f.fr = v ∨ f.to = v) : Path fs (FE fs (-1)) e v := by
  rcases hv with rfl | rfl
  · exact h
  · exact .step j f h hf ⟨hc, by omega⟩ (.inl ⟨rfl, rfl⟩)
structure SInv (fs : List FlowD) (n : Nat) (W : Int) (k : Nat) (R : Int → Bool) (B : Nat → Mass) : Prop where
  reach : ∀ x : Int, -1 ≤ x → x < n → (R x = true ↔ ∃ y : Int, -1 ≤ y ∧ y < (k : Int) - 1 ∧ Path fs (FE fs (-1)) y x)
  nets : ∀ v : Int, -1 ≤ v → v < n → R v = true → (∀ y : Int, -1 ≤ y → Path fs (FE fs (-1)) y v → v ≤ y) ∨ netB fs B v = Mass.zero
  touch : ∀ j, B j ≠ bal0 fs fs.length j → chB fs j = true
  bound : ∀ j, (B j).le W
theorem SInv.start {fs : List FlowD} {n : Nat} {W : Int} (hW : 0 ≤ W) (hB : ∀ f ∈ fs, f.me = true → f.m.le W) : SInv fs n W 0 (fun _ => false) (bal0 fs fs.length) where
  reach := fun x h1 h2 => by
    constructor
    · intro h; cases h
    · rintro ⟨y, a, b, _⟩; omega
  nets := fun v _ _ h => by cases h
  touch := fun j h => absurd rfl h
  bound := fun j => by
    unfold bal0
    split
    · cases hj : fs[j]? with
      | none => exact Mass.le_zero hW
      | some f =>
        simp only []
        by_cases hm : f.me = true
        · rw [if_pos hm]; exact hB f (List.mem_of_getElem? hj) hm
        · rw [if_neg hm]; exact Mass.le_zero hW
    · exact Mass.le_zero hW
theorem SInv.skip {fs : List FlowD} {n : Nat} {W : Int} {k : Nat} {R : Int → Bool} {B : Nat → Mass} (h : SInv fs n W k R B) (hk : k < n + 1) (hr : R ((k : Int) - 1) = true) : SInv fs n W (k + 1) R B where
  reach := fun x h1 h2 => by
    rw [h.reach x h1 h2]
    constructor
    · rintro ⟨y, a, b, c⟩; exact ⟨y, a, by omega, c⟩
    · rintro ⟨y, a, b, c⟩
      by_cases e : y = (k : Int) - 1
      · subst e
        obtain ⟨z, a', b', c'⟩ := (h.reach _ (by omega) (by omega)).1 hr
        exact ⟨z, a', b', c'.trans c⟩
      · exact ⟨y, a, by omega, c⟩
  nets := h.nets
  touch := h.touch
  bound := h.bound
theorem SInv.step {fs : List FlowD} {n : Nat} {K W : Int} {k : Nat} {R R' : Int → Bool} {B B' : Nat → Mass} {left : Mass} (h : SInv fs n W k R B) (hk : k < n + 1) (hr : R ((k : Int) - 1) = false) (hd : GDone fs n K W ((k : Int) - 1) (-1) R B R' B' left) : SInv fs n W (k + 1) R' B' where
  reach := fun x h1 h2 => by
    rw [hd.reach x h1 h2, h.reach x h1 h2]
    constructor
    · rintro (⟨y, a, b, c⟩ | c)
      · exact ⟨y, a, by omega, c⟩
      · exact ⟨(k : Int) - 1, by omega, by omega, c⟩
    · rintro ⟨y, a, b, c⟩
      by_cases e : y = (k : Int) - 1
      · subst e; exact .inr c
      · exact .inl ⟨y, a, by omega, c⟩
  nets := fun v h1 h2 hv => by
    by_cases hp : Path fs (FE fs (-1)) ((k : Int) - 1) v
    · by_cases e : v = (k : Int) - 1
      · subst e
        refine .inl fun y hy hyv => ?_
        refine Classical.byContradiction fun hlt => ?_
        have := (h.reach ((k : Int) - 1) (by omega) (by omega)).2 ⟨y, hy, by omega, hyv⟩
        rw [hr] at this; cases this
      · exact .inr (hd.nets v hp e)
    · have hR : R v = true := by
        rcases (hd.reach v h1 h2).1 hv with h | h
        · exact h
        · exact absurd h hp
      rcases h.nets v h1 h2 hR with h' | h'
      · exact .inl h'
      · refine .inr (h' ▸ netx_congr fun j g _ _ hg hc hv => ?_)
        refine Classical.byContradiction fun hne => ?_
        obtain ⟨g', hg', _, _, hpg⟩ := hd.touch j hne
        rw [hg] at hg'; cases hg'
        exact hp (hang_all hg hc hpg hv)
  touch := fun j hj => by
    by_cases e : B' j = B j
    · exact h.touch j (by rw [← e]; exact hj)
    · obtain ⟨g, _, hc, _⟩ := hd.touch j e
      exact hc
  bound := hd.bound
theorem SInv.done {fs : List FlowD} {n : Nat} {W : Int} {R : Int → Bool} {B : Nat → Mass} (h : SInv fs n W (n + 1) R B) : Settled fs n W B where
  meas := fun j f hf hm => by
    have hc : chB fs j = false := by rw [chB_some hf, hm]; rfl
    have hB : B j = bal0 fs fs.length j := Classical.byContradiction fun hne => by rw [h.touch j hne] at hc; cases hc
    rw [hB]
    unfold bal0
    rw [if_pos (List.getElem?_eq_some_iff.1 hf).1, hf]
    simp only [hm, if_true]
  rest := fun j f hf hm hc => by
    have hB : B j = bal0 fs fs.length j := Classical.byContradiction fun hne => by rw [h.touch j hne] at hc; cases hc
    rw [hB]
    unfold bal0
    rw [if_pos (List.getElem?_eq_some_iff.1 hf).1, hf]
    simp [hm]
  nets := fun v h1 h2 => h.nets v h1 h2 ((h.reach v h1 h2).2 ⟨v, h1, by omega, .refl⟩)
  bound := h.bound
set_option maxRecDepth 100000 in
set_option maxHeartbeats 4000000 in
theorem settle_ev (n : Nat) (v : Value) (fs : List FlowD) (s : St) (K W : Int) (hn : n ≤ 8) (hf : FlAt s v fs) (hl : fs.length ≤ 1000) (hends : ∀ f ∈ fs, (-1 ≤ f.fr ∧ f.fr < n) ∧ (-1 ≤ f.to ∧ f.to < n)) (hne : ∀ f ∈ fs, f.fr ≠ f.to)
    (hB12 : ∀ f ∈ fs, f.me = true → f.m.le 1000000000000) (hBW : ∀ f ∈ fs, f.me = true → f.m.le W) (hK : 0 ≤ K) (hexc : ∀ e : Int, (excM [e] fs).le K) (hW : ((n : Int) + 1) * K ≤ W) (hW0 : 0 ≤ W) (hW62 : W ≤ 4611686018427387904) :
    Ev TT 48 [plantV n v] s fun r s' => Keep s s' ∧ ∃ β B, r = .slice (some ⟨β, 0, none⟩) fs.length fs.length ∧ s.next ≤ β ∧ β < s'.next ∧ s'.heap.get β = some (.cells (balL B fs.length) none) ∧ Settled fs n W B := by
  obtain ⟨a, c, rfl⟩ := hf.shape
  rw [List.length_map] at hf ⊢
  unfold plantV
  have nl := natOf_cast .i64 fs.length
  refine Ev.intro (fn := Try.f48) rfl (by kernel_rfl) rfl rfl ?_
  apply zz
  refine Cd.ra (h := ?_)
  apply Run.by_eq
  · intro self
    conv => lhs; simp -implicitDefEqProofs (maxSteps := 300000) (disch := omega) [-getElem?_pos, -getElem?_neg]
  try (with_reducible refine Run.ret ?_)
  apply zz
  refine Cd.ra (h := ?_)
  apply Run.by_eq
  · intro self
    conv => lhs; simp -implicitDefEqProofs (maxSteps := 300000) (disch := omega) [-getElem?_pos, -getElem?_neg, nl]
  try (with_reducible refine Run.ret ?_)
  apply zz
  refine Cd.ra (h := ?_)
  apply Run.by_eq
  · intro self
    conv => lhs; simp -implicitDefEqProofs (maxSteps := 300000) (disch := omega) [-getElem?_pos, -getElem?_neg]
  try (with_reducible refine Run.ret ?_)
  apply zz
  refine Cd.inv (fun z f s' => ∃ k : Nat, k ≤ fs.length ∧ z = fs.length - k ∧ f.marks = [] ∧ f.get 17 = .int .i64 k ∧ f.get 16 = .int .i64 fs.length ∧ f.get 15 = .slice a fs.length c ∧ f.get 1 = .pointer (some ⟨s.next, 0, none⟩) ∧ f.get 3 = .pointer (some ⟨s.next + 1 + 1, 0, none⟩) ∧ Keep s s' ∧ s.next + 1 + 1 < s'.next ∧
    s'.heap.get s.next = some (.cells [.int .i64 n, .slice a fs.length c] none) ∧ s'.heap.get (s.next + 1) = some (.cells (balL (bal0 fs k) fs.length) none) ∧ s'.heap.get (s.next + 1 + 1) = some (.cells [.slice (some ⟨s.next + 1, 0, none⟩) fs.length fs.length] none)) fs.length ?_ ?_
  · refine ⟨0, by omega, rfl, by simp, by simp, by simp, by simp, by simp, by simp, ⟨by (try simp only [pushed_next', upded_next']); omega, fun i hi => by simp -implicitDefEqProofs (disch := omega) []⟩, by simp, by simp -implicitDefEqProofs (disch := omega), ?_, by simp -implicitDefEqProofs (disch := omega)⟩
    rw [show bal0 fs 0 = fun _ => Mass.zero from by funext j; unfold bal0; rw [if_neg (by omega)], balL_zero]
    simp -implicitDefEqProofs (disch := omega)
  rintro z f s' ⟨k, hk, rfl, hm, h17, h16, h15, h1, h3, hkp, hnx, hg0, hg1, hg2⟩
  have hkpa := hkp.1
  have hkpb := hkp.2
  by_cases hlt : k < fs.length
  · obtain ⟨g, hg⟩ : ∃ g, fs[k]? = some g := ⟨fs[k], by simp [hlt]⟩
    have hb0 := bal0_succ hg
    obtain ⟨b, off, o, cs, gg, rfl, hb, ho, hc, ht⟩ := FlAt.at (hf.keep hkp) hg
    obtain ⟨g0, g1, gm, m⟩ := g
    rw [FlowD.cs] at ht
    simp only [] at ht hb0
    apply zz
    refine Cd.ra (h := ?_)
    apply Run.by_eq
    · intro self
      conv => lhs; simp -implicitDefEqProofs (maxSteps := 300000) (disch := omega) [-getElem?_pos, -getElem?_neg, h17, h16]
    try (with_reducible refine Run.ret ?_)
    apply zz
    apply Cd.ite rfl
    · conv => lhs; simp -implicitDefEqProofs (maxSteps := 300000) (disch := omega) [-getElem?_pos, -getElem?_neg]
    all_goals intro c0
    all_goals try (cases c0; done)
    all_goals try simp only [Bool.not_eq_true', Bool.not_eq_false', decide_eq_true_eq, decide_eq_false_iff_not] at c0
    all_goals apply zz
    · apply zz
      refine Cd.ra (h := ?_)
      apply Run.by_eq
      · intro self
        conv => lhs; simp -implicitDefEqProofs (maxSteps := 300000) (disch := omega) [-getElem?_pos, -getElem?_neg, h17, h15, ho, hc, ht, hlt]
      try (with_reducible refine Run.ret ?_)
      apply zz
      refine Cd.ra (h := ?_)
      apply Run.by_eq
      · intro self
        conv => lhs; simp -implicitDefEqProofs (maxSteps := 300000) (disch := omega) [-getElem?_pos, -getElem?_neg]
      try (with_reducible refine Run.ret ?_)
      apply zz
      cases gm with
      | true =>
        have hput := balL_put (bal0 fs k) hlt m
        rw [show (fun j => if j = k then m else bal0 fs k j) = bal0 fs (k + 1) from by rw [hb0]; rfl] at hput
        apply zz
        apply Cd.ite rfl
        · conv => lhs; simp -implicitDefEqProofs (maxSteps := 300000) (disch := omega) [-getElem?_pos, -getElem?_neg]
        all_goals intro c1
        all_goals try (cases c1; done)
        all_goals try simp only [Bool.not_eq_true', Bool.not_eq_false', decide_eq_true_eq, decide_eq_false_iff_not] at c1
        all_goals apply zz
        apply zz
        refine Cd.ra (h := ?_)
        apply Run.by_eq
        · intro self
          conv => lhs; simp -implicitDefEqProofs (maxSteps := 300000) (disch := omega) [-getElem?_pos, -getElem?_neg, h3, hg1, hg2, hlt, hput]
        try (with_reducible refine Run.ret ?_)
        apply zz
        refine Cd.ra (h := ?_)
        apply Run.by_eq
        · intro self
          conv => lhs; simp -implicitDefEqProofs (maxSteps := 300000) (disch := omega) [-getElem?_pos, -getElem?_neg, h17]
        try (with_reducible refine Run.ret ?_)
        apply zz
        refine LoopK.nm (fs.length - (k + 1)) (by omega) ⟨k + 1, by omega, rfl, by simp [hm], by simp, by simp [h16], by simp [h15], by simp [h1], by simp [h3], ⟨by (try simp only [pushed_next', upded_next']); omega, fun i hi => by simp -implicitDefEqProofs (disch := omega) [hkpb]⟩, by (try simp only [pushed_next', upded_next']); omega, ?_, ?_, ?_⟩
        · simp -implicitDefEqProofs (disch := omega) [hg0]
        · simp -implicitDefEqProofs (disch := omega)
        · simp -implicitDefEqProofs (disch := omega) [hg2]
      | false =>
        have hsame : balL (bal0 fs (k + 1)) fs.length = balL (bal0 fs k) fs.length := balL_congr fun j _ => by
          rw [hb0]
          show (if j = k then (if false = true then m else Mass.zero) else bal0 fs k j) = _
          by_cases e : j = k
          · subst e; rw [if_pos rfl, if_neg (by decide)]; unfold bal0; rw [if_neg (by omega)]
          · rw [if_neg e]
        apply zz
        apply Cd.ite rfl
        · conv => lhs; simp -implicitDefEqProofs (maxSteps := 300000) (disch := omega) [-getElem?_pos, -getElem?_neg]
        all_goals intro c1
        all_goals try (cases c1; done)
        all_goals try simp only [Bool.not_eq_true', Bool.not_eq_false', decide_eq_true_eq, decide_eq_false_iff_not] at c1
        all_goals apply zz
        apply zz
        refine Cd.ra (h := ?_)
        apply Run.by_eq
        · intro self
          conv => lhs; simp -implicitDefEqProofs (maxSteps := 300000) (disch := omega) [-getElem?_pos, -getElem?_neg, h17]
        try (with_reducible refine Run.ret ?_)
        apply zz
        refine LoopK.nm (fs.length - (k + 1)) (by omega) ⟨k + 1, by omega, rfl, by simp [hm], by simp, by simp [h16], by simp [h15], by simp [h1], by simp [h3], ⟨by (try simp only [pushed_next', upded_next']); omega, fun i hi => by simp -implicitDefEqProofs (disch := omega) [hkpb]⟩, by (try simp only [pushed_next', upded_next']); omega, ?_, ?_, ?_⟩
        · simp -implicitDefEqProofs (disch := omega) [hg0]
        · rw [hsame]; simp -implicitDefEqProofs (disch := omega) [hg1]
        · simp -implicitDefEqProofs (disch := omega) [hg2]
    · simp at c0; omega
  obtain rfl : k = fs.length := by omega
  apply zz
  refine Cd.ra (h := ?_)
  apply Run.by_eq
  · intro self
    conv => lhs; simp -implicitDefEqProofs (maxSteps := 300000) (disch := omega) [-getElem?_pos, -getElem?_neg, h17, h16]
  try (with_reducible refine Run.ret ?_)
  apply zz
  apply Cd.ite rfl
  · conv => lhs; simp -implicitDefEqProofs (maxSteps := 300000) (disch := omega) [-getElem?_pos, -getElem?_neg]
  all_goals intro c0
  all_goals try (cases c0; done)
  all_goals try simp only [Bool.not_eq_true', Bool.not_eq_false', decide_eq_true_eq, decide_eq_false_iff_not] at c0
  all_goals apply zz
  apply zz
  refine Cd.ra (h := ?_)
  apply Run.by_eq
  · intro self
    conv => lhs; simp -implicitDefEqProofs (maxSteps := 300000) (disch := omega) [-getElem?_pos, -getElem?_neg, h1, hg0]
  try (with_reducible refine Run.ret ?_)
  apply zz
  refine Run.call ((forestOf_ev n _ fs _ (hf.keep hkp) hl).mono fun r w1 hv => ?_)
  obtain ⟨k1, φ, rfl, hφ1, hφ2, hφ3⟩ := hv
  have k1a := k1.1
  have k1b := k1.2
  have hold1 : ∀ i, i < s.next → w1.heap.get i = s.heap.get i := fun i hi => by rw [k1b i (by omega), hkpb i hi]
  have hw0 := (k1b s.next (by omega)).trans hg0
  have hw1 := (k1b (s.next + 1) (by omega)).trans hg1
  have hw2 := (k1b (s.next + 1 + 1) (by omega)).trans hg2
  apply Run.by_eq
  · intro self
    conv => lhs; simp -implicitDefEqProofs (maxSteps := 300000) (disch := omega) [-getElem?_pos, -getElem?_neg]
  try (with_reducible refine Run.ret ?_)
  apply zz
  refine Cd.ra (h := ?_)
  apply Run.by_eq
  · intro self
    conv => lhs; simp -implicitDefEqProofs (maxSteps := 300000) (disch := omega) [-getElem?_pos, -getElem?_neg]
  try (with_reducible refine Run.ret ?_)
  apply zz
  refine Cd.ra (h := ?_)
  apply Run.by_eq
  · intro self
    conv => lhs; simp -implicitDefEqProofs (maxSteps := 300000) (disch := omega) [-getElem?_pos, -getElem?_neg]
  try (with_reducible refine Run.ret ?_)
  apply zz
  refine Cd.ra (h := ?_)
  apply Run.by_eq
  · intro self
    conv => lhs; simp -implicitDefEqProofs (maxSteps := 300000) (disch := omega) [-getElem?_pos, -getElem?_neg, h1, h3]
  try (with_reducible refine Run.ret ?_)
  apply zz
  refine Cd.ra (h := ?_)
  apply Run.by_eq
  · intro self
    conv => lhs; simp -implicitDefEqProofs (maxSteps := 300000) (disch := omega) [-getElem?_pos, -getElem?_neg]
  try (with_reducible refine Run.ret ?_)
  apply zz
  have hR0 : reachL (fun _ => false) = [.bool false, .bool false, .bool false, .bool false, .bool false, .bool false, .bool false, .bool false, .bool false] := rfl
  refine Cd.inv (fun z f s' => ∃ (k : Nat) (R : Int → Bool) (B : Nat → Mass), k ≤ n + 1 ∧ z = n + 1 - k ∧ f.marks = [] ∧ f.get 9 = .int .i64 ((k : Int) - 1) ∧ f.get 1 = .pointer (some ⟨s.next, 0, none⟩) ∧ f.get 3 = .pointer (some ⟨s.next + 1 + 1, 0, none⟩) ∧ f.get 7 = .pointer (some ⟨w1.next + 1, 0, none⟩) ∧ f.get 8 = .pointer (some ⟨w1.next + 1 + 1, 0, none⟩) ∧
    GC s s' n (.slice a fs.length c) fs (w1.next + 1) s.next w1.next φ (w1.next + 1 + 1) (s.next + 1 + 1) (s.next + 1) ∧ s'.heap.get (w1.next + 1) = some (.cells (reachL R) none) ∧ s'.heap.get (s.next + 1) = some (.cells (balL B fs.length) none) ∧ SInv fs n W k R B) (n + 1) ?_ ?_
  · refine ⟨0, fun _ => false, bal0 fs fs.length, by omega, rfl, by simp [hm], by simp, by simp [h1], by simp [h3], by simp, by simp, ?_, ?_, ?_, SInv.start hW0 hBW⟩
    · refine ⟨by (try simp only [pushed_next', upded_next']); omega, fun i hi => ?_, ⟨by omega, by (try simp only [pushed_next', upded_next']); omega⟩, ⟨by omega, by (try simp only [pushed_next', upded_next']); omega⟩, by omega, ⟨by (try simp only [pushed_next', upded_next']); omega, by omega, by omega, ?_⟩, ⟨by (try simp only [pushed_next', upded_next']); omega, by omega, by omega, ?_⟩, ⟨by (try simp only [pushed_next', upded_next']); omega, by omega, by omega, ?_⟩, ⟨by (try simp only [pushed_next', upded_next']); omega, by omega, by omega, ?_⟩, ⟨by (try simp only [pushed_next', upded_next']); omega, by omega, by omega, ?_⟩⟩
      · simp -implicitDefEqProofs (disch := omega) [hold1]
      · simp -implicitDefEqProofs (disch := omega) [hw0]
      · simp -implicitDefEqProofs (disch := omega)
      · simp -implicitDefEqProofs (disch := omega) [hφ3]
      · simp -implicitDefEqProofs (disch := omega)
      · simp -implicitDefEqProofs (disch := omega) [hw2]
    · rw [hR0]; simp -implicitDefEqProofs (disch := omega)
    · simp -implicitDefEqProofs (disch := omega) [hw1]
  rintro z f2 s2 ⟨k, R, B, hk, rfl, gm, g9, g1, g3, g7, g8, hC, hρ, hβ, hS⟩
  obtain ⟨hb1, hb2, ⟨hρ1, hρ2⟩, ⟨hβ1, hβ2⟩, hρβ, ⟨hπ1, hπ2, hπ3, hπ4⟩, ⟨hv1, hv2, hv3, hv4⟩, ⟨hx1, hx2, hx3, hx4⟩, ⟨hγ1, hγ2, hγ3, hγ4⟩, ⟨hy1, hy2, hy3, hy4⟩⟩ := id hC
  by_cases hkn : k < n + 1
  · have hkd : ((k : Int) - 1 < n) := by omega
    have hge := reachL_get R (e := (k : Int) - 1) (by omega)
    have nk := natOf_cast .i64 k
    have hkk : (k : Int) - 1 - -1 = k := by omega
    rw [show ((k : Int) - 1 + 1).toNat = k by omega] at hge
    have hk9 : k < 9 := by omega
    apply zz
    refine Cd.ra (h := ?_)
    apply Run.by_eq
    · intro self
      conv => lhs; simp -implicitDefEqProofs (maxSteps := 300000) (disch := omega) [-getElem?_pos, -getElem?_neg, g9, g1, hπ4, hkd]
    try (with_reducible refine Run.ret ?_)
    apply zz
    apply Cd.ite rfl
    · conv => lhs; simp -implicitDefEqProofs (maxSteps := 300000) (disch := omega) [-getElem?_pos, -getElem?_neg]
    all_goals intro d0
    all_goals try (cases d0; done)
    all_goals try simp only [Bool.not_eq_true', Bool.not_eq_false', decide_eq_true_eq, decide_eq_false_iff_not] at d0
    all_goals apply zz
    cases hR : R ((k : Int) - 1) with
    | true =>
      rw [hR] at hge
      apply zz
      refine Cd.ra (h := ?_)
      apply Run.by_eq
      · intro self
        conv => lhs; simp -implicitDefEqProofs (maxSteps := 300000) (disch := omega) [-getElem?_pos, -getElem?_neg, g9, g7, hkk, nk, hk9, hρ, hge]
      try (with_reducible refine Run.ret ?_)
      apply zz
      apply Cd.ite rfl
      · conv => lhs; simp -implicitDefEqProofs (maxSteps := 300000) (disch := omega) [-getElem?_pos, -getElem?_neg]
      all_goals intro d1
      all_goals try (cases d1; done)
      all_goals try simp only [Bool.not_eq_true', Bool.not_eq_false', decide_eq_true_eq, decide_eq_false_iff_not] at d1
      all_goals apply zz
      apply zz
      refine Cd.ra (h := ?_)
      apply Run.by_eq
      · intro self
        conv => lhs; simp -implicitDefEqProofs (maxSteps := 300000) (disch := omega) [-getElem?_pos, -getElem?_neg, g9]
      try (with_reducible refine Run.ret ?_)
      apply zz
      refine LoopK.nm (n + 1 - (k + 1)) (by omega) ⟨k + 1, R, B, by omega, rfl, by simp [gm], ?_, by simp [g1], by simp [g3], by simp [g7], by simp [g8], hC, hρ, hβ, hS.skip hkn hR⟩
      simp
    | false =>
      rw [hR] at hge
      apply zz
      refine Cd.ra (h := ?_)
      apply Run.by_eq
      · intro self
        conv => lhs; simp -implicitDefEqProofs (maxSteps := 300000) (disch := omega) [-getElem?_pos, -getElem?_neg, g9, g7, hkk, nk, hk9, hρ, hge]
      try (with_reducible refine Run.ret ?_)
      apply zz
      apply Cd.ite rfl
      · conv => lhs; simp -implicitDefEqProofs (maxSteps := 300000) (disch := omega) [-getElem?_pos, -getElem?_neg]
      all_goals intro d1
      all_goals try (cases d1; done)
      all_goals try simp only [Bool.not_eq_true', Bool.not_eq_false', decide_eq_true_eq, decide_eq_false_iff_not] at d1
      all_goals apply zz
      apply zz
      refine Cd.ra (h := ?_)
      apply Run.by_eq
      · intro self
        conv => lhs; simp -implicitDefEqProofs (maxSteps := 300000) (disch := omega) [-getElem?_pos, -getElem?_neg, g8, g9, hγ4]
      try (with_reducible refine Run.ret ?_)
      apply zz
      refine Run.call ((gather_ev n _ fs s (w1.next + 1) s.next w1.next φ (w1.next + 1 + 1) (s.next + 1 + 1) (s.next + 1) K W hn hf hl hends hne hB12 hK hexc hW hW62 _ ((k : Int) - 1) (-1) R B s2 (Nat.le_refl _) (by omega) (by omega) (fun j g hj _ => absurd hj (by omega)) hC hρ hβ hS.bound).mono fun r s3 hv => ?_)
      obtain ⟨R', B', rest, rfl, hD, d1', d2, d3, d4⟩ := hv
      apply Run.by_eq
      · intro self
        conv => lhs; simp -implicitDefEqProofs (maxSteps := 300000) (disch := omega) [-getElem?_pos, -getElem?_neg]
      try (with_reducible refine Run.ret ?_)
      apply zz
      refine Cd.ra (h := ?_)
      apply Run.by_eq
      · intro self
        conv => lhs; simp -implicitDefEqProofs (maxSteps := 300000) (disch := omega) [-getElem?_pos, -getElem?_neg, g9]
      try (with_reducible refine Run.ret ?_)
      apply zz
      refine LoopK.nm (n + 1 - (k + 1)) (by omega) ⟨k + 1, R', B', by omega, rfl, by simp [gm], ?_, by simp [g1], by simp [g3], by simp [g7], by simp [g8], hC.keep d1' d2, d3, d4, hS.step hkn hR hD⟩
      simp
  · obtain rfl : k = n + 1 := by omega
    have hkd : ¬ (((n + 1 : Nat) : Int) - 1 < n) := by omega
    apply zz
    refine Cd.ra (h := ?_)
    apply Run.by_eq
    · intro self
      conv => lhs; simp -implicitDefEqProofs (maxSteps := 300000) (disch := omega) [-getElem?_pos, -getElem?_neg, g9, g1, hπ4, hkd]
    try (with_reducible refine Run.ret ?_)
    apply zz
    apply Cd.ite rfl
    · conv => lhs; simp -implicitDefEqProofs (maxSteps := 300000) (disch := omega) [-getElem?_pos, -getElem?_neg]
    all_goals intro d0
    all_goals try (cases d0; done)
    all_goals try simp only [Bool.not_eq_true', Bool.not_eq_false', decide_eq_true_eq, decide_eq_false_iff_not] at d0
    all_goals apply zz
    apply zz
    refine Cd.ra (h := ?_)
    apply Run.by_eq
    · intro self
      conv => lhs; simp -implicitDefEqProofs (maxSteps := 300000) (disch := omega) [-getElem?_pos, -getElem?_neg, g3, hy4]
    try (with_reducible refine Run.ret ?_)
    apply zz
    apply Leave.mk (by first | exact .inl rfl | exact .inr rfl) (by simp only [Fr.marks_put, fr0_marks, gm])
    · conv => lhs; simp -implicitDefEqProofs (disch := omega) [Try.results48, gm]
    exact ⟨⟨hC.base, hC.old⟩, s.next + 1, B, rfl, by omega, by omega, hβ, hS.done⟩
end Go.Proofs.Ytjehpgflhgpalaa
namespace Go.Proofs.Ytjehpgflhgpalaa
open Go Kern
/-! Sums over ends -/
def sumL (g : Int → Mass) : List Int → Mass
  | [] => Mass.zero
  | x :: r => (g x).add (sumL g r)
theorem sumL_zero {g : Int → Mass} : ∀ {xs : List Int}, (∀ x ∈ xs, g x = Mass.zero) → sumL g xs = Mass.zero
  | [], _ => rfl
  | x :: r, h => by unfold sumL; rw [h x (.head _), sumL_zero fun y hy => h y (.tail _ hy), Mass.add_zero]
theorem sumL_congr {g h : Int → Mass} : ∀ {xs : List Int}, (∀ x ∈ xs, g x = h x) → sumL g xs = sumL h xs
  | [], _ => rfl
  | x :: r, hc => by unfold sumL; rw [hc x (.head _), sumL_congr fun y hy => hc y (.tail _ hy)]
theorem sumL_one {g : Int → Mass} {u : Int} : ∀ {xs : List Int}, xs.Nodup → u ∈ xs → (∀ x ∈ xs, x ≠ u → g x = Mass.zero) → sumL g xs = g u
  | [], _, h, _ => by cases h
  | x :: r, hn, h, hz => by
    unfold sumL
    obtain ⟨h1, h2⟩ := List.nodup_cons.1 hn
    by_cases e : x = u
    · subst e
      rw [sumL_zero fun y hy => hz y (.tail _ hy) fun q => h1 (q ▸ hy), Mass.add_zero]
    · rw [hz x (.head _) e, Mass.zero_add]
      refine sumL_one h2 ?_ fun y hy => hz y (.tail _ hy)
      cases h with
      | head => exact absurd rfl e
      | tail _ h => exact h
theorem sumL_add (g h : Int → Mass) : ∀ xs, sumL (fun x => (g x).add (h x)) xs = (sumL g xs).add (sumL h xs)
  | [] => (Mass.add_zero _).symm
  | x :: r => by unfold sumL; rw [sumL_add g h r, Mass.add_swap]
theorem sumL_sumN (g : Int → Nat → Mass) (xs : List Int) : ∀ k, sumL (fun x => sumN (g x) k) xs = sumN (fun j => sumL (fun x => g x j) xs) k
  | 0 => sumL_zero fun _ _ => rfl
  | k + 1 => by
    unfold sumN
    rw [sumL_add, sumL_sumN g xs k]
theorem sumL_brings {f : FlowD} (hne : f.fr ≠ f.to) (m : Mass) : ∀ {xs : List Int}, xs.Nodup → sumL (fun v => brings f v m) xs = bringsL f xs m
  | [], _ => by simp [sumL, bringsL]
  | x :: r, hn => by
    obtain ⟨h1, h2⟩ := List.nodup_cons.1 hn
    unfold sumL
    rw [sumL_brings hne m h2]
    unfold brings bringsL
    by_cases e1 : f.to = x
    · have e2 : ¬ f.fr = x := fun q => hne (q.trans e1.symm)
      have e3 : ¬ f.to ∈ r := fun q => h1 (e1 ▸ q)
      by_cases e4 : f.fr ∈ r
      · simp [e1, e2, e4, e1 ▸ e3, Mass.add_neg]
      · simp [e1, e2, e4, e1 ▸ e3, Mass.add_zero]
    · by_cases e2 : f.fr = x
      · have e4 : ¬ f.fr ∈ r := fun q => h1 (e2 ▸ q)
        by_cases e3 : f.to ∈ r
        · have e5 : ¬ x ∈ r := h1
          simp [e1, e2, e3, e5, Mass.add_comm, Mass.add_neg]
        · have e5 : ¬ x ∈ r := h1
          simp [e1, e2, e3, e5, Mass.add_zero]
      · simp [e1, e2, Mass.zero_add]
/-- What comes to a set of ends, by measured flows and by those of the forest. -/
theorem sum_net {fs : List FlowD} (B : Nat → Mass) (hne : ∀ f ∈ fs, f.fr ≠ f.to) {xs : List Int} (hn : xs.Nodup) :
    sumL (netB fs B) xs = (excM xs fs).add (sumN (fun j => match fs[j]? with | some f => (if chB fs j = true then bringsL f xs (B j) else Mass.zero) | none => Mass.zero) fs.length) := by
  have h1 : ∀ v, netB fs B v = (sumN (fun j => match fs[j]? with | some f => (if f.me = true then brings f v f.m else Mass.zero) | none => Mass.zero) fs.length).add (sumN (fun j => contr fs B v j) fs.length) := fun v => by
    unfold netB netx
    have e1 : excM [v] fs = sumN (fun j => match fs[j]? with | some f => (if f.me = true then brings f v f.m else Mass.zero) | none => Mass.zero) fs.length := by
      rw [excM_sum]
      refine sumN_congr fun j hj => ?_
      have hg : fs[j]? = some fs[j] := List.getElem?_eq_getElem hj
      rw [hg]
      simp only []
      rw [bringsL_one (hne _ (List.getElem_mem hj))]
    rw [e1]
    congr 1
  rw [sumL_congr fun v _ => h1 v, sumL_add, sumL_sumN, sumL_sumN, excM_sum]
  congr 1
  · refine sumN_congr fun j hj => ?_
    have hg : fs[j]? = some fs[j] := List.getElem?_eq_getElem hj
    rw [hg]
    simp only []
    by_cases hm : fs[j].me = true
    · simp only [hm, if_true]
      exact sumL_brings (hne _ (List.getElem_mem hj)) _ hn
    · rw [if_neg hm]
      exact sumL_zero fun _ _ => if_neg hm
  · refine sumN_congr fun j hj => ?_
    have hg : fs[j]? = some fs[j] := List.getElem?_eq_getElem hj
    unfold contr
    rw [hg]
    simp only []
    by_cases hc : chB fs j = true
    · simp only [hc, if_true]
      exact sumL_brings (hne _ (List.getElem_mem hj)) _ hn
    · rw [if_neg hc]
      exact sumL_zero fun _ _ => if_neg hc
theorem bringsL_in {f : FlowD} {xs : List Int} (h : f.fr ∈ xs ↔ f.to ∈ xs) (m : Mass) : bringsL f xs m = Mass.zero := by
  unfold bringsL
  by_cases h1 : f.to ∈ xs
  · rw [if_pos h1, if_pos (h.2 h1)]
  · rw [if_neg h1, if_neg (fun q => h1 (h.1 q))]
theorem clsN_nodup (rt : Int → Int) (k n : Nat) : (clsN rt k n).Nodup := (clsN_sorted rt k n).imp fun h => by omega
theorem mem_cls' {rt : Int → Int} {n k : Nat} (ho : rt k ≠ rt (-1)) {x : Int} (h1 : -1 ≤ x) (h2 : x < n) : x ∈ clsN rt k n ↔ rt x = rt k := by
  by_cases h0 : x = -1
  · subst h0
    constructor
    · intro h
      unfold clsN at h
      obtain ⟨y, _, e⟩ := List.mem_map.1 h
      omega
    · intro h; exact absurd h.symm ho
  · obtain ⟨y, rfl⟩ : ∃ y : Nat, x = y := ⟨x.toNat, by omega⟩
    exact mem_cls (by omega)
theorem rt_FE (fs : List FlowD) (x y : Int) : rtF (-1) fs 0 id x = rtF (-1) fs 0 id y ↔ Path fs (FE fs (-1)) x y := by
  rw [forest_all]
  constructor <;> refine fun h => h.mono fun j f _ he => ?_
  · exact ⟨he, by omega⟩
  · exact he.1
/-- If no part has an excess, as much comes to each unit as goes from it. -/
theorem settled_zero {fs : List FlowD} {n : Nat} {W : Int} {B : Nat → Mass} (h : Settled fs n W B) (hends : ∀ f ∈ fs, (-1 ≤ f.fr ∧ f.fr < n) ∧ (-1 ≤ f.to ∧ f.to < n)) (hne : ∀ f ∈ fs, f.fr ≠ f.to)
    (hz : ∀ k : Nat, k < n → isLead (rtF (-1) fs 0 id) n k = true → excM (clsN (rtF (-1) fs 0 id) k n) fs = Mass.zero) {u : Nat} (hu : u < n) : netB fs B u = Mass.zero := by
  rcases h.nets u (by omega) (by omega) with hl | hl
  · have hL : isLead (rtF (-1) fs 0 id) n u = true := isLead_of hu (fun l hlu e => by
      have := hl l (by omega) ((rt_FE fs _ _).1 e)
      omega) (fun e => by
      have := hl (-1) (by omega) ((rt_FE fs _ _).1 e.symm)
      omega)
    have hex := hz u hu hL
    have ho : rtF (-1) fs 0 id u ≠ rtF (-1) fs 0 id (-1) := by
      simp only [isLead, Bool.and_eq_true, Bool.not_eq_true', decide_eq_false_iff_not] at hL
      exact hL.2
    have hsum := sum_net B hne (clsN_nodup (rtF (-1) fs 0 id) u n)
    rw [hex, Mass.zero_add] at hsum
    have hin : sumN (fun j => match fs[j]? with | some f => (if chB fs j = true then bringsL f (clsN (rtF (-1) fs 0 id) u n) (B j) else Mass.zero) | none => Mass.zero) fs.length = Mass.zero := by
      rw [sumN_congr (h := fun _ => Mass.zero) fun j hj => ?_, sumN_zero]
      have hg : fs[j]? = some fs[j] := List.getElem?_eq_getElem hj
      rw [hg]
      simp only []
      split
      · rename_i hc
        obtain ⟨⟨a, b⟩, c, d⟩ := hends _ (List.getElem_mem hj)
        refine bringsL_in ?_ _
        rw [mem_cls' ho a b, mem_cls' ho c d, (rt_FE fs fs[j].fr fs[j].to).2 (Path.one hg ⟨hc, by omega⟩)]
      · rfl
    rw [hin] at hsum
    have hmem : (u : Int) ∈ clsN (rtF (-1) fs 0 id) u n := (mem_cls hu).2 rfl
    rw [sumL_one (clsN_nodup _ _ _) hmem fun x hx hxu => ?_] at hsum
    · exact hsum
    · unfold clsN at hx
      obtain ⟨y, hy, rfl⟩ := List.mem_map.1 hx
      obtain ⟨hy1, hy2⟩ := List.mem_filter.1 hy
      have hyn : y < n := by simpa using hy1
      have hyu : rtF (-1) fs 0 id y = rtF (-1) fs 0 id u := by simpa using hy2
      rcases h.nets y (by omega) (by omega) with h' | h'
      · have h1 := h' u (by omega) ((rt_FE fs _ _).1 hyu.symm)
        have h2 := hl y (by omega) ((rt_FE fs _ _).1 hyu)
        exact absurd (by omega) hxu
      · exact h'
  · exact hl
/-- What a flow carries that is the only one, of those that are not measured, between a set of units and the rest. -/
theorem cut_value {fs : List FlowD} {n : Nat} {B : Nat → Mass} (hne : ∀ f ∈ fs, f.fr ≠ f.to) (hnet : ∀ u : Nat, u < n → netB fs B u = Mass.zero) {xs : List Int} (hn : xs.Nodup) (hxs : ∀ x ∈ xs, 0 ≤ x ∧ x < n)
    {i : Nat} {f : FlowD} (hf : fs[i]? = some f) (hc : chB fs i = true) (hin : ∀ (j : Nat) (g : FlowD), fs[j]? = some g → g.me = false → j ≠ i → (g.fr ∈ xs ↔ g.to ∈ xs)) : (excM xs fs).add (bringsL f xs (B i)) = Mass.zero := by
  have h1 := sum_net B hne hn
  rw [sumL_zero fun x hx => ?_] at h1
  · rw [sumN_one (i := i) (List.getElem?_eq_some_iff.1 hf).1 fun j hj hji => ?_] at h1
    · rw [hf] at h1
      simp only [hc, if_true] at h1
      exact h1.symm
    · have hg : fs[j]? = some fs[j] := List.getElem?_eq_getElem hj
      rw [hg]
      simp only []
      split
      · rename_i hcj
        obtain ⟨⟨g, hg', hm⟩, _⟩ := chB_unm hcj
        rw [hg] at hg'; cases hg'
        exact bringsL_in (hin j _ hg hm hji) _
      · rfl
  · obtain ⟨a, b⟩ := hxs x hx
    obtain ⟨y, rfl⟩ : ∃ y : Nat, x = y := ⟨x.toNat, by omega⟩
    exact hnet y (by omega)
end Go.Proofs.Ytjehpgflhgpalaa
namespace Go.Proofs.Ytjehpgflhgpalaa
open Go Kern
/-! Lists of cells of one length in memory -/
def flatG (g : Nat → List Value) (len : Nat) : List Value := ((List.range len).map g).flatten
theorem flatG_succ (g : Nat → List Value) (k : Nat) : flatG g (k + 1) = flatG g k ++ g k := by
  unfold flatG
  rw [List.range_succ, List.map_append, List.flatten_append]; simp
theorem flatG_length {g : Nat → List Value} {N : Nat} (h : ∀ j, (g j).length = N) : ∀ len, (flatG g len).length = len * N
  | 0 => by simp [flatG]
  | k + 1 => by rw [flatG_succ, List.length_append, flatG_length h k, h k, Nat.add_mul]; omega
theorem flatG_congr {g h : Nat → List Value} {len : Nat} (hc : ∀ j, j < len → g j = h j) : flatG g len = flatG h len := by
  unfold flatG
  congr 1
  apply List.map_congr_left
  intro j hj
  exact hc j (by simpa using hj)
theorem flatG_cut (g : Nat → List Value) {i : Nat} : ∀ {len : Nat}, i < len → ∃ r, flatG g len = flatG g i ++ (g i ++ r) ∧ ∀ vs, flatG (fun j => if j = i then vs else g j) len = flatG g i ++ (vs ++ r)
  | 0, h => by omega
  | k + 1, h => by
    have hpre : ∀ vs, flatG (fun j => if j = i then vs else g j) i = flatG g i := fun vs => flatG_congr fun j hj => if_neg (by omega)
    by_cases e : i = k
    · subst e
      refine ⟨[], by rw [flatG_succ, List.append_nil], fun vs => ?_⟩
      rw [flatG_succ, hpre vs, if_pos rfl, List.append_nil]
    · obtain ⟨r, h1, h2⟩ := flatG_cut g (i := i) (len := k) (by omega)
      refine ⟨r ++ g k, by rw [flatG_succ, h1]; simp, fun vs => ?_⟩
      rw [flatG_succ, h2 vs, if_neg (fun q => e q.symm)]; simp
theorem flatG_put {g : Nat → List Value} {N : Nat} (hN : ∀ j, (g j).length = N) {vs : List Value} (hv : vs.length = N) {i len : Nat} (h : i < len) : putL (i * N) vs (flatG g len) = some (flatG (fun j => if j = i then vs else g j) len) := by
  obtain ⟨r, h1, h2⟩ := flatG_cut g h
  rw [h1, h2 vs, ← flatG_length hN i, putL_append, overL_same vs (g i) r (by rw [hv, hN])]; rfl
theorem flatG_get {g : Nat → List Value} {N : Nat} (hN : ∀ j, (g j).length = N) {i len : Nat} (h : i < len) : takeL N ((flatG g len).drop (i * N)) = some (g i) := by
  unfold flatG
  exact drop_flat (fun x hx => by obtain ⟨j, _, rfl⟩ := List.mem_map.1 hx; exact hN j) (by rw [List.getElem?_map, List.getElem?_range h]; rfl)
theorem repeatL_snoc (z : List Value) : ∀ q : Nat, repeatL z q ++ z = repeatL z (q + 1)
  | 0 => by show [] ++ z = z ++ []; simp
  | q + 1 => by
    show (z ++ repeatL z q) ++ z = z ++ repeatL z (q + 1)
    rw [List.append_assoc, repeatL_snoc z q]
theorem flatG_same (z : List Value) : ∀ len, flatG (fun _ => z) len = repeatL z len
  | 0 => by simp [flatG]
  | k + 1 => by rw [flatG_succ, flatG_same z k, repeatL_snoc]
theorem sl_of_flat {N : Nat} {s : St} {b c len : Nat} {g : Nat → List Value} {o : Option Nat} (h2 : b < s.next) (hN : ∀ j, (g j).length = N) (h3 : s.heap.get b = some (.cells (flatG g len) o)) : SlAt N s (.slice (some ⟨b, 0, none⟩) len c) ((List.range len).map g) := by
  have := sl_of_cells (n := N) (c := c) (l := (List.range len).map g) h2 (fun x hx => by obtain ⟨j, _, rfl⟩ := List.mem_map.1 hx; exact hN j) h3
  rw [List.length_map, List.length_range] at this
  exact this
/-! Comparison of masses -/
theorem unA36 : Try.prog.underlying 36 = some (.array 4 3) := by kernel_rfl
theorem unA3 : Try.prog.underlying 3 = some (.int .i64) := by kernel_rfl
theorem ceA36 : Try.prog.cellsOf 36 = 4 := by kernel_rfl
theorem ceA3 : Try.prog.cellsOf 3 = 1 := by kernel_rfl
theorem keyLitA3 {d : Nat} {a : Int} (h : (Lit.int .i64 a).wf = true) : Try.prog.keyLits (d + 1) 3 [.int .i64 a] = some [.int .i64 a] := by
  unfold Program.keyLits; rw [unA3]; simp [h]
theorem wfA_of {a : Int} (h : -4611686018427387904 ≤ a ∧ a ≤ 4611686018427387904) : (Lit.int .i64 a).wf = true := by
  simp [Lit.wf, IntKind.min, IntKind.max, IntKind.bits, IntKind.signed]
  omega
theorem keyLitsA {t : TypeId} (hu : Try.prog.underlying t = some (.array 4 3)) (hc : Try.prog.cellsOf t = 4) {m : Mass} (h : m.le 4611686018427387904) : Try.prog.keyLits 21 t m.cs = some [.int .i64 m.a, .int .i64 m.b, .int .i64 m.c, .int .i64 m.d] := by
  obtain ⟨h1, h2, h3, h4⟩ : (Lit.int .i64 m.a).wf = true ∧ (Lit.int .i64 m.b).wf = true ∧ (Lit.int .i64 m.c).wf = true ∧ (Lit.int .i64 m.d).wf = true := by
    unfold Mass.le at h; exact ⟨wfA_of (by omega), wfA_of (by omega), wfA_of (by omega), wfA_of (by omega)⟩
  unfold Program.keyLits; rw [hu]
  simp [hc, ceA3, Mass.cs, List.range, List.range.loop, keyLitA3 h1, keyLitA3 h2, keyLitA3 h3, keyLitA3 h4]
theorem formedA {t : TypeId} (hu : Try.prog.underlying t = some (.array 4 3)) (hc : Try.prog.cellsOf t = 4) (x y z w : Value) : Value.formed Try.prog t (.agg #[x, y, z, w]) = true := by
  simp [Value.formed, hu, hc]
theorem litsEq_mass (m p : Mass) : litsEq [.int .i64 m.a, .int .i64 m.b, .int .i64 m.c, .int .i64 m.d] [.int .i64 p.a, .int .i64 p.b, .int .i64 p.c, .int .i64 p.d] = decide (m = p) := by
  rw [Bool.eq_iff_iff, litsEq_iff, decide_eq_true_eq]
  constructor
  · intro h
    simp at h
    exact Mass.ext' h.1 h.2.1 h.2.2.1 h.2.2.2
  · intro h; subst h; rfl
theorem aggEqA {t : TypeId} (hu : Try.prog.underlying t = some (.array 4 3)) (hc : Try.prog.cellsOf t = 4) {m p : Mass} (h : m.le 4611686018427387904) (k : p.le 4611686018427387904) : aggEq TT t #[.int .i64 m.a, .int .i64 m.b, .int .i64 m.c, .int .i64 m.d] #[.int .i64 p.a, .int .i64 p.b, .int .i64 p.c, .int .i64 p.d] = some (decide (m = p)) := by
  unfold aggEq
  have h1 := keyLitsA hu hc h
  have h2 := keyLitsA hu hc k
  unfold Mass.cs at h1 h2
  change gd _ (ob (Try.prog.keyLits 21 t _) fun la => ob (Try.prog.keyLits 21 t _) fun lb => some (litsEq la lb)) = _
  rw [h1, h2, show Value.formed TT.prog t (.agg #[.int .i64 m.a, .int .i64 m.b, .int .i64 m.c, .int .i64 m.d]) = true from formedA hu hc _ _ _ _, show Value.formed TT.prog t (.agg #[.int .i64 p.a, .int .i64 p.b, .int .i64 p.c, .int .i64 p.d]) = true from formedA hu hc _ _ _ _]
  show gd (_ && true && true) (some (litsEq _ _)) = _
  rw [litsEq_mass]; rfl
theorem flagA36 : (TT.prog.keyTypeAt 20 36 && !TT.prog.eqGuardType TT.prog.depth 36) = true := by kernel_rfl
theorem flagA39 : (TT.prog.keyTypeAt 20 39 && !TT.prog.eqGuardType TT.prog.depth 39) = true := by kernel_rfl
@[simp] theorem binVal_36ne (a b : Array Value) : binVal TT (.array 4 3) 36 (TT.prog.keyTypeAt 20 36 && !TT.prog.eqGuardType TT.prog.depth 36) .neq (.agg a) (.agg b) = ob (aggEq TT 36 a b) fun r => some (.bool (!r)) := by
  rw [flagA36]; rfl
@[simp] theorem binVal_39ne (a b : Array Value) : binVal TT (.array 4 3) 39 (TT.prog.keyTypeAt 20 39 && !TT.prog.eqGuardType TT.prog.depth 39) .neq (.agg a) (.agg b) = ob (aggEq TT 39 a b) fun r => some (.bool (!r)) := by
  rw [flagA39]; rfl
/-! What is known of a flow -/
structure KnownD where
  st : Int
  m : Mass
def KnownD.cs (k : KnownD) : List Value := [.int .i64 k.st, .int .i64 k.m.a, .int .i64 k.m.b, .int .i64 k.m.c, .int .i64 k.m.d]
def labE (fs : List FlowD) (i : Nat) (x : Int) : Int := labF i fs 0 (fun x => (x : Int)) (x + 1).toNat
def closeAt (fs : List FlowD) (n i : Nat) (f : FlowD) : KnownD :=
  if f.me = true then ⟨1, f.m⟩ else if labE fs i f.fr = labE fs i f.to then ⟨3, Mass.zero⟩ else
    if labE fs i f.fr ≠ 0 then ⟨2, excM (sideL (labF i fs 0 (fun x => (x : Int))) n (labE fs i f.fr)) fs⟩ else ⟨2, Mass.zero.sub (excM (sideL (labF i fs 0 (fun x => (x : Int))) n (labE fs i f.to)) fs)⟩
def closeF (fs : List FlowD) (n i : Nat) : KnownD := match fs[i]? with
  | some f => closeAt fs n i f
  | none => ⟨0, Mass.zero⟩
def closeErr (u : Int) (fs : List FlowD) : Int := if checkErr u fs ≠ 0 then checkErr u fs else match provF (rtF (-1) fs 0 id) fs u.toNat u.toNat 0 with
  | some _ => 12
  | none => 0
def closeKs (u : Int) (fs : List FlowD) : List KnownD := if closeErr u fs = 0 then (List.range fs.length).map (closeF fs u.toNat) else []
theorem sideL_sorted (L : Nat → Int) (n : Nat) (h : Int) : (sideL L n h).Pairwise (· < ·) := by
  unfold sideL
  rw [List.pairwise_map]
  exact (List.pairwise_lt_range.filter _).imp fun h => by omega
theorem sideL_range {L : Nat → Int} {n : Nat} {h : Int} (h0 : L 0 ≠ h) {x : Int} (hx : x ∈ sideL L n h) : 0 ≤ x ∧ x < n := by
  unfold sideL at hx
  obtain ⟨i, hi, e⟩ := List.mem_map.1 hx
  obtain ⟨h1, h2⟩ := List.mem_filter.1 hi
  have h1 := List.mem_range.1 h1
  have h2 : L i = h := by simpa using h2
  have : i ≠ 0 := fun q => h0 (by rw [← h2, q])
  change (i : Int) - 1 = x at e
  omega
theorem lab_rt {fs : List FlowD} {n i : Nat} (hends : ∀ f ∈ fs, (-1 ≤ f.fr ∧ f.fr < n) ∧ (-1 ≤ f.to ∧ f.to < n)) {x y : Int} (hx : -1 ≤ x ∧ x < n) (hy : -1 ≤ y ∧ y < n) : labE fs i x = labE fs i y ↔ rtF i fs 0 id x = rtF i fs 0 id y := by
  have hs := Same.flows (lo := (i : Int)) (i := 0) (Same.init n) hends
  have := hs.2 (x + 1).toNat (y + 1).toNat (by omega) (by omega)
  rw [show (((x + 1).toNat : Nat) : Int) - 1 = x by omega, show (((y + 1).toNat : Nat) : Int) - 1 = y by omega] at this
  exact this
theorem found_value {fs : List FlowD} {n i : Nat} {B : Nat → Mass} {f : FlowD} (hends : ∀ f ∈ fs, (-1 ≤ f.fr ∧ f.fr < n) ∧ (-1 ≤ f.to ∧ f.to < n)) (hne : ∀ f ∈ fs, f.fr ≠ f.to) (hnet : ∀ u : Nat, u < n → netB fs B u = Mass.zero)
    (hf : fs[i]? = some f) (hm : f.me = false) (hd : rtF i fs 0 id f.fr ≠ rtF i fs 0 id f.to) : closeAt fs n i f = ⟨2, B i⟩ := by
  have hfm := List.mem_of_getElem? hf
  obtain ⟨hV1, hV2⟩ := hends f hfm
  have hc : chB fs i = true := by
    rw [chB_some hf, hm]
    have hnr : ¬ rtF (-1) (fs.take i) 0 id f.fr = rtF (-1) (fs.take i) 0 id f.to := fun e => by
      refine hd ((rt_path_all fs i _ _).2 (((rt_path fs (-1) i _ _).1 e).mono fun j g _ he => ⟨he.2.1, ?_⟩))
      have := he.1; omega
    simp [hnr]
  have hs := Same.flows (lo := (i : Int)) (i := 0) (Same.init n) hends
  have hne2 : labE fs i f.fr ≠ labE fs i f.to := fun e => hd ((lab_rt hends hV1 hV2).1 e)
  have hin : ∀ (h : Int) (j : Nat) (g : FlowD), fs[j]? = some g → g.me = false → j ≠ i → (g.fr ∈ sideL (labF i fs 0 (fun x => (x : Int))) n h ↔ g.to ∈ sideL (labF i fs 0 (fun x => (x : Int))) n h) := fun h j g hg hmg hji => by
    obtain ⟨a, b⟩ := hends g (List.mem_of_getElem? hg)
    rw [mem_sideL a.1 a.2, mem_sideL b.1 b.2]
    have he := rtF_ends i fs 0 id j g hg hmg (by omega)
    have := (lab_rt (i := i) hends a b).2 he
    unfold labE at this
    rw [this]
  have hnd : ∀ h, (sideL (labF i fs 0 (fun x => (x : Int))) n h).Nodup := fun h => (sideL_sorted _ _ _).imp fun h => by omega
  unfold closeAt
  rw [if_neg (by rw [hm]; decide), if_neg hne2]
  by_cases ha : labE fs i f.fr = 0
  · rw [if_neg (by simp [ha])]
    congr 1
    have hb : labE fs i f.to ≠ 0 := fun q => hne2 (ha.trans q.symm)
    have hcv := cut_value hne hnet (hnd (labE fs i f.to)) (fun x hx => sideL_range (by rw [hs.out]; exact fun q => hb q.symm) hx) hf hc (hin _)
    have h1 : f.to ∈ sideL (labF i fs 0 (fun x => (x : Int))) n (labE fs i f.to) := (mem_sideL hV2.1 hV2.2).2 rfl
    have h2 : ¬ f.fr ∈ sideL (labF i fs 0 (fun x => (x : Int))) n (labE fs i f.to) := fun q => hne2 ((mem_sideL hV1.1 hV1.2).1 q)
    unfold bringsL at hcv
    rw [if_pos h1, if_neg h2] at hcv
    generalize excM (sideL (labF i fs 0 (fun x => (x : Int))) n (labE fs i f.to)) fs = x at hcv ⊢
    generalize B i = y at hcv ⊢
    obtain ⟨a1, a2, a3, a4⟩ := x
    obtain ⟨b1, b2, b3, b4⟩ := y
    simp [Mass.add, Mass.zero, Mass.sub] at hcv ⊢
    omega
  · rw [if_pos ha]
    congr 1
    have hcv := cut_value hne hnet (hnd (labE fs i f.fr)) (fun x hx => sideL_range (by rw [hs.out]; exact fun q => ha q.symm) hx) hf hc (hin _)
    have h1 : f.fr ∈ sideL (labF i fs 0 (fun x => (x : Int))) n (labE fs i f.fr) := (mem_sideL hV1.1 hV1.2).2 rfl
    have h2 : ¬ f.to ∈ sideL (labF i fs 0 (fun x => (x : Int))) n (labE fs i f.fr) := fun q => hne2 ((mem_sideL hV2.1 hV2.2).1 q).symm
    unfold bringsL at hcv
    rw [if_neg h2, if_pos h1] at hcv
    generalize excM (sideL (labF i fs 0 (fun x => (x : Int))) n (labE fs i f.fr)) fs = x at hcv ⊢
    generalize B i = y at hcv ⊢
    obtain ⟨a1, a2, a3, a4⟩ := x
    obtain ⟨b1, b2, b3, b4⟩ := y
    simp [Mass.add, Mass.zero, Mass.sub] at hcv ⊢
    omega
end Go.Proofs.Ytjehpgflhgpalaa
namespace Go.Proofs.Ytjehpgflhgpalaa
open Go Kern
theorem SlAt.same {n : Nat} {s s' : St} {b o m c : Nat} {l : List (List Value)} (h : SlAt n s (.slice (some ⟨b, o, none⟩) m c) l) (h1 : b < s.next → b < s'.next) (h2 : s'.heap.get b = s.heap.get b) : SlAt n s' (.slice (some ⟨b, o, none⟩) m c) l := by
  cases h with
  | mk hb ho hc he => exact .mk (h1 hb) (h2.trans ho) hc he
theorem SlAt.lt {n : Nat} {s : St} {b o m c : Nat} {l : List (List Value)} (h : SlAt n s (.slice (some ⟨b, o, none⟩) m c) l) : b < s.next := by
  cases h with
  | mk hb ho hc he => exact hb
set_option maxRecDepth 100000 in
set_option maxHeartbeats 4000000 in
theorem prove_ev (u : Int) (v : Value) (fs : List FlowD) (s : St) (hf : FlAt s v fs) (hl : fs.length ≤ 1000000) :
    Ev TT 30 [plantV u v] s fun r s' => Keep s s' ∧ ∃ w, r = .tuple #[w, .int .i64 (proveR u fs).2.1, .int .i64 (proveR u fs).2.2] ∧ IntsAt s' w (proveR u fs).1 := by
  unfold plantV
  refine Ev.intro (fn := Try.f30) rfl (by kernel_rfl) rfl rfl ?_
  apply zz
  refine Cd.ra (h := ?_)
  apply Run.by_eq
  · intro self
    conv => lhs; simp -implicitDefEqProofs (maxSteps := 300000) (disch := omega) [-getElem?_pos, -getElem?_neg]
  try (with_reducible refine Run.ret ?_)
  apply zz
  refine Cd.scope ?_
  apply zz
  refine Cd.ra (h := ?_)
  apply Run.by_eq
  · intro self
    conv => lhs; simp -implicitDefEqProofs (maxSteps := 300000) (disch := omega) [-getElem?_pos, -getElem?_neg]
  try (with_reducible refine Run.ret ?_)
  apply zz
  refine Run.call ((check_ev u v fs _ (hf.keep ⟨by (try simp only [pushed_next', upded_next']); omega, fun i hi => by simp -implicitDefEqProofs (disch := omega) []⟩) hl).mono fun v wq hv => ?_)
  obtain ⟨rfl, q⟩ := hv
  have qa := q.1
  have qb := q.2
  try simp only [pushed_next', upded_next'] at qa qb
  apply Run.by_eq
  · intro self
    conv => lhs; simp -implicitDefEqProofs (maxSteps := 300000) (disch := omega) [-getElem?_pos, -getElem?_neg, qb]
  try (with_reducible refine Run.ret ?_)
  apply zz
  refine Cd.ra (h := ?_)
  apply Run.by_eq
  · intro self
    conv => lhs; simp -implicitDefEqProofs (maxSteps := 300000) (disch := omega) [-getElem?_pos, -getElem?_neg, qb]
  try (with_reducible refine Run.ret ?_)
  apply zz
  apply Cd.ite rfl
  · conv => lhs; simp -implicitDefEqProofs (maxSteps := 300000) (disch := omega) [-getElem?_pos, -getElem?_neg]
  all_goals intro c0
  all_goals try (cases c0; done)
  all_goals try simp only [Bool.not_eq_true', Bool.not_eq_false', decide_eq_true_eq, decide_eq_false_iff_not] at c0
  all_goals apply zz
  · apply zz
    refine Cd.drawnH (pl := [(0, 0, false, false), (1, 0, true, false), (2, 2, true, false), (3, 7, true, false)]) [true, false, false, false] (by kernel_rfl) (by decide) (by decide) (by conv => lhs; simp only [List.map_cons, List.map_nil]) (by conv => lhs; simp [strip, orderedG, flagH]) ?_
    apply Run.by_eq
    · intro self
      conv => lhs; simp -implicitDefEqProofs (maxSteps := 300000) (disch := omega) [-getElem?_pos, -getElem?_neg, qb]
    try (with_reducible refine Run.ret ?_)
    apply zz
    refine ⟨fun l h => (by cases h), ?_⟩
    apply Leave.mk (by first | exact .inl rfl | exact .inr rfl) (by simp only [Fr.marks_put, fr0_marks, qb])
    · conv => lhs; simp -implicitDefEqProofs (disch := omega) [Try.results30, qb]
    have : proveR u fs = ([], 0, checkErr u fs) := by unfold proveR; rw [if_pos c0]
    rw [this]
    exact ⟨⟨by (try simp only [pushed_next', upded_next']); omega, fun i hi => by simp -implicitDefEqProofs (disch := omega) [qb]⟩, _, rfl, .nil 0⟩
  have hck : checkErr u fs = 0 := c0
  obtain ⟨hu1, hu2, hl20, _⟩ := checkErr_ok hck
  obtain ⟨n, hn⟩ : ∃ n : Nat, u = n := ⟨u.toNat, by omega⟩
  subst hn
  have hn8 : n ≤ 8 := by omega
  have hpr : proveR n fs = match provF (rtF (-1) fs 0 id) fs n n 0 with | some p => (p.1, (p.2 : Int), 0) | none => ([], 0, 5) := by unfold proveR; rw [if_neg (by simp [hck])]; rfl
  apply zz
  refine Cd.ra (h := ?_)
  apply Run.by_eq
  · intro self
    conv => lhs; simp -implicitDefEqProofs (maxSteps := 300000) (disch := omega) [-getElem?_pos, -getElem?_neg, qb]
  try (with_reducible refine Run.ret ?_)
  apply zz
  refine Cd.ra (h := ?_)
  apply Run.by_eq
  · intro self
    conv => lhs; simp -implicitDefEqProofs (maxSteps := 300000) (disch := omega) [-getElem?_pos, -getElem?_neg, qb]
  try (with_reducible refine Run.ret ?_)
  apply zz
  refine Run.call ((parts_ev n v _).mono fun r w1 hv => ?_)
  obtain ⟨hk1, bp, rfl, hbp1, hbp2, hgp⟩ := hv
  have k1a := hk1.1
  have k1b := hk1.2
  simp only [upded_next'] at k1a k1b hbp1
  have hk : Keep s w1 := ⟨by omega, fun i hi => by rw [k1b i (by omega)]; simp -implicitDefEqProofs (disch := omega) [qb]⟩
  have hv0 : w1.heap.get s.next = some (.cells [.int .i64 n, v] none) := by rw [k1b _ (by omega)]; simp -implicitDefEqProofs (disch := omega) [qb]
  have hv1 : w1.heap.get (s.next + 1) = some (.cells [.slice none 0 0] none) := by rw [k1b _ (by omega)]; simp -implicitDefEqProofs (disch := omega) [qb]
  have hv2 : w1.heap.get (s.next + 1 + 1) = some (.cells [.int .i64 0] none) := by rw [k1b _ (by omega)]; simp -implicitDefEqProofs (disch := omega) [qb]
  have hv3 : w1.heap.get (s.next + 1 + 1 + 1) = some (.cells [.int .i64 5] none) := by rw [k1b _ (by omega)]; simp -implicitDefEqProofs (disch := omega) [qb]
  apply Run.by_eq
  · intro self
    conv => lhs; simp -implicitDefEqProofs (maxSteps := 300000) (disch := omega) [-getElem?_pos, -getElem?_neg]
  try (with_reducible refine Run.ret ?_)
  apply zz
  refine Cd.rangeJ (gi := 59) (first := #[]) (captured := #[.pointer (some ⟨bp, 0, none⟩)]) rfl (by simp) ?_
  generalize hR : ALoop.mk true none _ _ _ _ _ = R0
  show Ev TT 59 [.func (.yield (w1.next + 1)) #[] #[], .pointer (some ⟨bp, 0, none⟩)] _ _
  refine (iterJ_ev n v (.func (.yield (w1.next + 1)) #[] #[]) fs bp _ (fun i => i = s.next + 1 ∨ i = s.next + 1 + 1 ∨ i = s.next + 1 + 1 + 1 ∨ i = w1.next + 1)
    (fun j s2 => s2.heap.get (w1.next + 1) = some (.loop R0) ∧ s2.heap.get s.next = some (.cells [.int .i64 n, v] none) ∧ s2.heap.get (s.next + 1) = some (.cells [.slice none 0 0] none) ∧ s2.heap.get (s.next + 1 + 1) = some (.cells [.int .i64 0] none) ∧ s2.heap.get (s.next + 1 + 1 + 1) = some (.cells [.int .i64 5] none) ∧ s2.heap.get w1.next = some (.deferred true) ∧ w1.next + 1 < s2.next ∧ (∀ i, i < s.next → s2.heap.get i = s.heap.get i) ∧ ∀ i, 0 ≤ i → i < j → provAt (rtF (-1) fs 0 id) fs n i = none)
    (fun j s2 => s2.heap.get (w1.next + 1) = some (.loop ⟨false, some (.exit 0), R0.n, R0.tmps, R0.params, R0.assign, R0.body⟩) ∧ s2.heap.get w1.next = some (.deferred true) ∧ w1.next + 1 < s2.next ∧ ∃ (bw m c : Nat) (q : Nat), w1.next + 1 + 1 ≤ bw ∧ s2.heap.get (s.next + 1) = some (.cells [.slice (some ⟨bw, 0, none⟩) m c] none) ∧ s2.heap.get (s.next + 1 + 1) = some (.cells [.int .i64 q] none) ∧ s2.heap.get (s.next + 1 + 1 + 1) = some (.cells [.int .i64 0] none) ∧
      IntsAt s2 (.slice (some ⟨bw, 0, none⟩) m c) (clsN (rtF (-1) fs 0 id) j n) ∧ provAt (rtF (-1) fs 0 id) fs n j = some (clsN (rtF (-1) fs 0 id) j n, q) ∧ ∀ i, 0 ≤ i → i < j → provAt (rtF (-1) fs 0 id) fs n i = none)
    hn8 ((hf.keep hk).keep ⟨by (try simp only [pushed_next', upded_next']); omega, fun i hi => by simp -implicitDefEqProofs (disch := omega) []⟩) hl ?_ ?_ ?_ ?_ ?_ ?_ ?_ ?_).mono fun _ s2 hres => ?_
  · simp only [pushed_next']; omega
  · simp -implicitDefEqProofs (disch := omega) [hgp]
  · rintro i (rfl | rfl | rfl | rfl) <;> simp only [pushed_next'] <;> omega
  · rintro (h | h | h | h) <;> omega
  · refine ⟨?_, ?_, ?_, ?_, ?_, ?_, ?_, fun i hi => ?_, fun i _ hi => absurd hi (by omega)⟩
    · simp -implicitDefEqProofs (disch := omega)
    · simp -implicitDefEqProofs (disch := omega) [hv0]
    · simp -implicitDefEqProofs (disch := omega) [hv1]
    · simp -implicitDefEqProofs (disch := omega) [hv2]
    · simp -implicitDefEqProofs (disch := omega) [hv3]
    · simp -implicitDefEqProofs (disch := omega)
    · simp
    · simp -implicitDefEqProofs (disch := omega) [hk.2]
  · rintro j s1 s2 ⟨j0, j1, j2, j3, j4, j5, j6, jk, j7⟩ h1 h2
    simp only [pushed_next'] at h2
    exact ⟨by rw [h2 _ (by omega)]; exact j0, by rw [h2 _ (by omega)]; exact j1, by rw [h2 _ (by omega)]; exact j2, by rw [h2 _ (by omega)]; exact j3, by rw [h2 _ (by omega)]; exact j4, by rw [h2 _ (by omega)]; exact j5, by omega, fun i hi => by rw [h2 _ (by omega)]; exact jk i hi, j7⟩
  · rintro j s1 hj hL ⟨j0, j1, j2, j3, j4, j5, j6, jk, j7⟩
    refine ⟨j0, j1, j2, j3, j4, j5, j6, jk, fun i h1 h2 => ?_⟩
    by_cases e : i = j
    · subst e; unfold provAt; rw [hL]; rfl
    · exact j7 i h1 (by omega)
  · rintro j s1 w hj hL ⟨j0, j1, j2, j3, j4, j5, j6, jk, j7⟩ hs1 hw ⟨bw, hbw, rfl⟩
    simp only [pushed_next'] at hs1 hbw
    show Evn TT (fun self => exRound self (w1.next + 1) _ s1) _
    subst hR
    refine Evn.roundJ j0 rfl ?_
    show Cd TT true _ _ ((((Fr.mk _ []).put (some 16) _).put (some 17) _)) _ _
    dsimp only
    apply zz
    refine Cd.ra (h := ?_)
    apply Run.by_eq
    · intro self
      conv => lhs; simp -implicitDefEqProofs (maxSteps := 300000) (disch := omega) [-getElem?_pos, -getElem?_neg, Fr.get_mk]
    try (with_reducible refine Run.ret ?_)
    apply zz
    refine ⟨rfl, _, j0, rfl, rfl, ?_⟩
    dsimp only
    apply zz
    refine Cd.ra (h := ?_)
    apply Run.by_eq
    · intro self
      conv => lhs; simp -implicitDefEqProofs (maxSteps := 300000) (disch := omega) [-getElem?_pos, -getElem?_neg, Fr.get_mk, j1]
    try (with_reducible refine Run.ret ?_)
    apply zz
    generalize hLf : ALoop.mk false none _ _ _ _ _ = Lf
    generalize hrt : rtF (-1) fs 0 id = rt at *
    have hcl := clsN_length rt j n
    refine Run.call ((excess_ev n v _ fs (clsN rt j n) _ (hf.keep ⟨by (try simp only [pushed_next', upded_next']); omega, fun i hi => by simp -implicitDefEqProofs (disch := omega) [jk]⟩) (SlAt.same hw (by simp) (by simp -implicitDefEqProofs (disch := omega))) (by omega) (by omega) (checkErr_le hck)).mono fun v wy hv => ?_)
    obtain ⟨rfl, y⟩ := hv
    have ya := y.1
    have yb := y.2
    try simp only [pushed_next', upded_next'] at ya yb
    generalize hmx : excM (clsN rt j n) fs = mx
    have hbw2 := SlAt.lt hw
    try simp only [upded_next'] at ya
    have hlp : wy.heap.get (w1.next + 1) = some (.loop Lf) := by rw [yb _ (by omega)]; simp
    have hy2 : wy.heap.get (s.next + 1) = some (.cells [.slice none 0 0] none) := by rw [yb _ (by omega)]; simp -implicitDefEqProofs (disch := omega) [j2]
    have hy3 : wy.heap.get (s.next + 1 + 1) = some (.cells [.int .i64 0] none) := by rw [yb _ (by omega)]; simp -implicitDefEqProofs (disch := omega) [j3]
    have hy4 : wy.heap.get (s.next + 1 + 1 + 1) = some (.cells [.int .i64 5] none) := by rw [yb _ (by omega)]; simp -implicitDefEqProofs (disch := omega) [j4]
    have hy5 : wy.heap.get w1.next = some (.deferred true) := by rw [yb _ (by omega)]; simp -implicitDefEqProofs (disch := omega) [j5]
    apply Run.by_eq
    · intro self
      conv => lhs; simp -implicitDefEqProofs (maxSteps := 300000) (disch := omega) [-getElem?_pos, -getElem?_neg, Mass.v]
    try (with_reducible refine Run.ret ?_)
    apply zz
    refine Cd.inv (fun z2 f2 s2 => ∃ q : Nat, q ≤ 4 ∧ z2 = 4 - q ∧ f2.get 21 = .int .i64 q ∧ f2.get 20 = .agg [.int .i64 mx.a, .int .i64 mx.b, .int .i64 mx.c, .int .i64 mx.d].toArray ∧ f2.get 6 = .slice (some ⟨bw, 0, none⟩) (clsN rt j n).length (clsN rt j n).length ∧ f2.get 2 = .pointer (some ⟨s.next + 1, 0, none⟩) ∧ f2.get 3 = .pointer (some ⟨s.next + 1 + 1, 0, none⟩) ∧ f2.get 4 = .pointer (some ⟨s.next + 1 + 1 + 1, 0, none⟩) ∧ wy = s2 ∧ (∀ i, i < q → mx.at i = 0)) 4 ?_ ?_
    · exact ⟨0, by omega, rfl, by simp, by simp, by simp, by simp [Fr.get_mk], by simp [Fr.get_mk], by simp [Fr.get_mk], rfl, fun i hi => absurd hi (by omega)⟩
    rintro z2 f2 s2 ⟨q, hq, rfl, g21, g20, g6, g2, g3, g4, rfl, gz⟩
    by_cases hq4 : q < 4
    · have hat := mx.cs_at hq4
      apply zz
      refine Cd.ra (h := ?_)
      apply Run.by_eq
      · intro self
        conv => lhs; simp -implicitDefEqProofs (maxSteps := 300000) (disch := omega) [-getElem?_pos, -getElem?_neg, g21]
      try (with_reducible refine Run.ret ?_)
      apply zz
      apply Cd.ite rfl
      · conv => lhs; simp -implicitDefEqProofs (maxSteps := 300000) (disch := omega) [-getElem?_pos, -getElem?_neg]
      all_goals intro d0
      all_goals try (cases d0; done)
      all_goals try simp only [Bool.not_eq_true', Bool.not_eq_false', decide_eq_true_eq, decide_eq_false_iff_not] at d0
      all_goals apply zz
      · apply zz
        refine Cd.ra (h := ?_)
        apply Run.by_eq
        · intro self
          conv => lhs; simp -implicitDefEqProofs (maxSteps := 300000) (disch := omega) [-getElem?_pos, -getElem?_neg, g21, g20, hat]
        try (with_reducible refine Run.ret ?_)
        apply zz
        refine Cd.ra (h := ?_)
        apply Run.by_eq
        · intro self
          conv => lhs; simp -implicitDefEqProofs (maxSteps := 300000) (disch := omega) [-getElem?_pos, -getElem?_neg]
        try (with_reducible refine Run.ret ?_)
        apply zz
        by_cases hz0 : mx.at q = 0
        · apply zz
          apply Cd.ite rfl
          · conv => lhs; simp -implicitDefEqProofs (maxSteps := 300000) (disch := omega) [-getElem?_pos, -getElem?_neg, hz0]
          all_goals intro d1
          all_goals try (cases d1; done)
          all_goals try simp only [Bool.not_eq_true', Bool.not_eq_false', decide_eq_true_eq, decide_eq_false_iff_not] at d1
          all_goals apply zz
          apply zz
          refine Cd.ra (h := ?_)
          apply Run.by_eq
          · intro self
            conv => lhs; simp -implicitDefEqProofs (maxSteps := 300000) (disch := omega) [-getElem?_pos, -getElem?_neg, g21]
          try (with_reducible refine Run.ret ?_)
          apply zz
          refine LoopK.nm (4 - (q + 1)) (by omega) ⟨q + 1, by omega, rfl, by simp, by simp [g20], by simp [g6], by simp [g2], by simp [g3], by simp [g4], rfl, fun i hi => ?_⟩
          by_cases e : i = q
          · subst e; exact hz0
          · exact gz i (by omega)
        · apply zz
          apply Cd.ite rfl
          · conv => lhs; simp -implicitDefEqProofs (maxSteps := 300000) (disch := omega) [-getElem?_pos, -getElem?_neg, hz0]
          all_goals intro d1
          all_goals try (cases d1; done)
          all_goals try simp only [Bool.not_eq_true', Bool.not_eq_false', decide_eq_true_eq, decide_eq_false_iff_not] at d1
          all_goals apply zz
          apply zz
          refine Cd.ra (h := ?_)
          apply Run.by_eq
          · intro self
            conv => lhs; simp -implicitDefEqProofs (maxSteps := 300000) (disch := omega) [-getElem?_pos, -getElem?_neg, g6, g2, g3, g4, hy2, hy3, hy4]
          try (with_reducible refine Run.ret ?_)
          apply zz
          refine ⟨Lf, ?_, .inr ⟨rfl, ?_, ?_, ?_, bw, (clsN rt j n).length, (clsN rt j n).length, q, by omega, ?_, ?_, ?_, ?_, ?_, j7⟩, ?_, fun z hz hX => ?_⟩
          · simp -implicitDefEqProofs (disch := omega) [hlp]
          · rw [get_upded_same]; subst hLf; rfl
          · simp -implicitDefEqProofs (disch := omega) [hy5]
          · simp only [upded_next']; omega
          · simp -implicitDefEqProofs (disch := omega)
          · simp -implicitDefEqProofs (disch := omega)
          · simp -implicitDefEqProofs (disch := omega)
          · exact SlAt.same hw (fun _ => by simp only [upded_next']; omega) (by simp -implicitDefEqProofs (disch := omega) [yb])
          · unfold provAt; rw [if_pos hL, hmx, nzK_at hq4 gz hz0]; rfl
          · simp only [upded_next']; omega
          · have x1 : z ≠ s.next + 1 := fun e => hX (.inl e)
            have x2 : z ≠ s.next + 1 + 1 := fun e => hX (.inr (.inl e))
            have x3 : z ≠ s.next + 1 + 1 + 1 := fun e => hX (.inr (.inr (.inl e)))
            have x4 : z ≠ w1.next + 1 := fun e => hX (.inr (.inr (.inr e)))
            simp -implicitDefEqProofs (disch := omega) [yb]
      · simp at d0; omega
    · obtain rfl : q = 4 := by omega
      apply zz
      refine Cd.ra (h := ?_)
      apply Run.by_eq
      · intro self
        conv => lhs; simp -implicitDefEqProofs (maxSteps := 300000) (disch := omega) [-getElem?_pos, -getElem?_neg, g21]
      try (with_reducible refine Run.ret ?_)
      apply zz
      apply Cd.ite rfl
      · conv => lhs; simp -implicitDefEqProofs (maxSteps := 300000) (disch := omega) [-getElem?_pos, -getElem?_neg]
      all_goals intro d0
      all_goals try (cases d0; done)
      all_goals try simp only [Bool.not_eq_true', Bool.not_eq_false', decide_eq_true_eq, decide_eq_false_iff_not] at d0
      all_goals apply zz
      refine ⟨Lf, hlp, .inl ⟨rfl, ?_, ?_, ?_, ?_, ?_, ?_, ?_, fun i hi => ?_, fun i h1 h2 => ?_⟩, ?_, fun z hz hX => ?_⟩
      · rw [get_upded_same]; subst hLf; rfl
      · simp -implicitDefEqProofs (disch := omega) [yb, j1]
      · simp -implicitDefEqProofs (disch := omega) [hy2]
      · simp -implicitDefEqProofs (disch := omega) [hy3]
      · simp -implicitDefEqProofs (disch := omega) [hy4]
      · simp -implicitDefEqProofs (disch := omega) [hy5]
      · simp only [upded_next']; omega
      · simp -implicitDefEqProofs (disch := omega) [yb, jk]
      · by_cases e : i = j
        · subst e; unfold provAt; rw [if_pos hL, hmx, nzK_zero gz]; rfl
        · exact j7 i h1 (by omega)
      · simp only [upded_next']; omega
      · have x4 : z ≠ w1.next + 1 := fun e => hX (.inr (.inr (.inr e)))
        simp -implicitDefEqProofs (disch := omega) [yb]
  · obtain ⟨hJB, r2, r3⟩ := hres
    simp only [pushed_next'] at r2 r3
    have hold : ∀ i, i < s.next → s2.heap.get i = s.heap.get i := fun i hi => by
      rw [r3 i (by omega) (by omega)]
      simp -implicitDefEqProofs (disch := omega) [hk.2]
    rcases hJB with ⟨j0, j1, j2, j3, j4, j5, j6, jk, j7⟩ | ⟨k, hkn, hL, ⟨b0, b1, b2, bw, m, c, q, hbw, b3, b4, b5, hw, hp, hz⟩⟩
    · refine ⟨R0, j0, .inl ⟨by rw [← hR], by rw [← hR], ?_⟩⟩
      apply zz
      refine Cd.drawnH (pl := [(0, 0, false, false), (1, 0, false, false), (2, 0, false, false), (3, 1, true, false), (4, 11, true, false), (5, 31, true, false)]) [false, true, true, false, false, false] (by kernel_rfl) (by decide) (by decide) (by conv => lhs; simp only [List.map_cons, List.map_nil]) (by conv => lhs; simp [strip, orderedG, flagH]) ?_
      apply Run.by_eq
      · intro self
        conv => lhs; simp -implicitDefEqProofs (maxSteps := 300000) (disch := omega) [-getElem?_pos, -getElem?_neg, Fr.get_mk, j2, j3, j4]
      try (with_reducible refine Run.ret ?_)
      apply zz
      refine ⟨fun l h => (by cases h), ?_⟩
      apply Leave.one (m := w1.next) (by first | exact .inl rfl | exact .inr rfl) (by simp only [Fr.marks_put, fr0_marks])
      · simp -implicitDefEqProofs (disch := omega) [j5]
      · conv => lhs; simp -implicitDefEqProofs (disch := omega) [Try.results30, Fr.get_mk, j2, j3, j4]
      rw [hpr, provF_none fun i h1 h2 => j7 i h1 (by omega)]
      exact ⟨⟨by (try simp only [upded_next']); omega, fun i hi => by simp -implicitDefEqProofs (disch := omega) [hold]⟩, _, rfl, .nil 0⟩
    · refine ⟨_, b0, .inr (.inr ⟨0, rfl, ?_⟩)⟩
      have ve : veq 5 (Value.slice (some ⟨bw, 0, none⟩) m c) (Value.slice (some ⟨bw, 0, none⟩) m c) = true := veq_slice _ _ _ _ _
      apply zz
      refine Cd.drawnH (pl := [(0, 0, false, false), (1, 0, false, false), (2, 0, false, false), (3, 1, true, false), (4, 11, true, false), (5, 31, true, false)]) [false, true, true, false, false, false] (by kernel_rfl) (by decide) (by decide) (by conv => lhs; simp only [List.map_cons, List.map_nil]) (by conv => lhs; simp [strip, orderedG, flagH]) ?_
      apply Run.by_eq
      · intro self
        conv => lhs; simp -implicitDefEqProofs (maxSteps := 300000) (disch := omega) [-getElem?_pos, -getElem?_neg, Fr.get_mk, b3, b4, b5, ve]
      try (with_reducible refine Run.ret ?_)
      apply zz
      refine ⟨fun l h => (by cases h), ?_⟩
      apply Leave.one (m := w1.next) (by first | exact .inl rfl | exact .inr rfl) (by simp only [Fr.marks_put, fr0_marks])
      · simp -implicitDefEqProofs (disch := omega) [b1]
      · conv => lhs; simp -implicitDefEqProofs (disch := omega) [Try.results30, Fr.get_mk, b3, b4, b5]
      rw [hpr, provF_at hz (by omega) (by omega) hp]
      have hbw2 := SlAt.lt hw
      exact ⟨⟨by (try simp only [upded_next']); omega, fun i hi => by simp -implicitDefEqProofs (disch := omega) [hold]⟩, _, rfl, SlAt.same hw (fun _ => by (try simp only [upded_next']); omega) (by simp -implicitDefEqProofs (disch := omega))⟩
end Go.Proofs.Ytjehpgflhgpalaa
namespace Go.Proofs.Ytjehpgflhgpalaa
open Go Kern
theorem exc_le {fs : List FlowD} {xs : List Int} {β : Int} (hβ : 0 ≤ β) (hf : ∀ f ∈ fs, f.me = true → f.m.le β) (hl : fs.length ≤ 20) : (excM xs fs).le (20 * β) := by
  have := exc_bound (xs := xs) hβ hf fs.length
  rw [List.take_length] at this
  exact this.mono (Int.mul_le_mul_of_nonneg_right (by omega) hβ)
theorem checkErr_ne {u : Int} {fs : List FlowD} (h : checkErr u fs = 0) : ∀ f ∈ fs, f.fr ≠ f.to := fun f hf => (flowErr_ok ((checkErr_ok h).2.2.2 f hf)).2.2.1
theorem checkErr_le9 {u : Int} {fs : List FlowD} (h : checkErr u fs = 0) : ∀ f ∈ fs, f.me = true → f.m.le 1000000000 := fun f hf hm =>
  eachB_le ((flowErr_ok ((checkErr_ok h).2.2.2 f hf)).2.2.2 hm)
def knG (fs : List FlowD) (n k : Nat) (j : Nat) : List Value := if j < k then (closeF fs n j).cs else [.int .i64 0, .int .i64 0, .int .i64 0, .int .i64 0, .int .i64 0]
theorem knG_length (fs : List FlowD) (n k : Nat) (j : Nat) : (knG fs n k j).length = 5 := by
  unfold knG; split <;> rfl
theorem knG_succ (fs : List FlowD) (n k : Nat) : (fun j => if j = k then (closeF fs n k).cs else knG fs n k j) = knG fs n (k + 1) := by
  funext j
  unfold knG
  by_cases e : j = k
  · subst e; rw [if_pos rfl, if_pos (by omega)]
  · rw [if_neg e]
    by_cases h : j < k
    · rw [if_pos h, if_pos (by omega)]
    · rw [if_neg h, if_neg (by omega)]
theorem excM_zero_of {rt : Int → Int} {fs : List FlowD} {n k : Nat} (h : provAt rt fs n k = none) (hL : isLead rt n k = true) : excM (clsN rt k n) fs = Mass.zero := by
  unfold provAt at h
  rw [if_pos hL] at h
  rw [← nzK_none]
  cases hz : nzK (excM (clsN rt k n) fs) with
  | none => rfl
  | some j => rw [hz] at h; cases h
set_option maxRecDepth 100000 in
set_option maxHeartbeats 4000000 in
theorem close_ev (u : Int) (v : Value) (fs : List FlowD) (s : St) (hf : FlAt s v fs) (hl : fs.length ≤ 1000000) :
    Ev TT 24 [plantV u v] s fun r s' => Keep s s' ∧ ∃ w, r = .tuple #[w, .int .i64 (closeErr u fs)] ∧ SlAt 5 s' w ((closeKs u fs).map KnownD.cs) := by
  unfold plantV
  refine Ev.intro (fn := Try.f24) rfl (by kernel_rfl) rfl rfl ?_
  apply zz
  refine Cd.ra (h := ?_)
  apply Run.by_eq
  · intro self
    conv => lhs; simp -implicitDefEqProofs (maxSteps := 300000) (disch := omega) [-getElem?_pos, -getElem?_neg]
  try (with_reducible refine Run.ret ?_)
  apply zz
  refine Cd.ra (h := ?_)
  apply Run.by_eq
  · intro self
    conv => lhs; simp -implicitDefEqProofs (maxSteps := 300000) (disch := omega) [-getElem?_pos, -getElem?_neg]
  try (with_reducible refine Run.ret ?_)
  apply zz
  refine Run.call ((check_ev u v fs _ (hf.keep ⟨by (try simp only [pushed_next', upded_next']); omega, fun i hi => by simp -implicitDefEqProofs (disch := omega) []⟩) hl).mono fun v wq hv => ?_)
  obtain ⟨rfl, q⟩ := hv
  have qa := q.1
  have qb := q.2
  try simp only [pushed_next', upded_next'] at qa qb
  apply Run.by_eq
  · intro self
    conv => lhs; simp -implicitDefEqProofs (maxSteps := 300000) (disch := omega) [-getElem?_pos, -getElem?_neg, qb]
  try (with_reducible refine Run.ret ?_)
  apply zz
  refine Cd.ra (h := ?_)
  apply Run.by_eq
  · intro self
    conv => lhs; simp -implicitDefEqProofs (maxSteps := 300000) (disch := omega) [-getElem?_pos, -getElem?_neg, qb]
  try (with_reducible refine Run.ret ?_)
  apply zz
  apply Cd.ite rfl
  · conv => lhs; simp -implicitDefEqProofs (maxSteps := 300000) (disch := omega) [-getElem?_pos, -getElem?_neg]
  all_goals intro c0
  all_goals try (cases c0; done)
  all_goals try simp only [Bool.not_eq_true', Bool.not_eq_false', decide_eq_true_eq, decide_eq_false_iff_not] at c0
  all_goals apply zz
  · apply zz
    refine Cd.ra (h := ?_)
    apply Run.by_eq
    · intro self
      conv => lhs; simp -implicitDefEqProofs (maxSteps := 300000) (disch := omega) [-getElem?_pos, -getElem?_neg, qb]
    try (with_reducible refine Run.ret ?_)
    apply zz
    apply Leave.mk (by first | exact .inl rfl | exact .inr rfl) (by simp only [Fr.marks_put, fr0_marks, qb])
    · conv => lhs; simp -implicitDefEqProofs (disch := omega) [Try.results24, qb]
    have hce : closeErr u fs = checkErr u fs := by unfold closeErr; rw [if_pos c0]
    have hck : closeKs u fs = [] := by unfold closeKs; rw [if_neg (by rw [hce]; exact c0)]
    rw [hce, hck]
    exact ⟨⟨by (try simp only [pushed_next', upded_next']); omega, fun i hi => by simp -implicitDefEqProofs (disch := omega) [qb]⟩, _, rfl, .nil 0⟩
  have hck : checkErr u fs = 0 := c0
  obtain ⟨hu1, hu2, hl20, _⟩ := checkErr_ok hck
  have hends := ends_in hck
  obtain ⟨n, hn⟩ : ∃ n : Nat, u = n := ⟨u.toNat, by omega⟩
  subst hn
  have hn8 : n ≤ 8 := by omega
  have hce : closeErr n fs = match provF (rtF (-1) fs 0 id) fs n n 0 with | some _ => 12 | none => 0 := by unfold closeErr; rw [if_neg (by simp [hck])]; rfl
  apply zz
  refine Cd.ra (h := ?_)
  apply Run.by_eq
  · intro self
    conv => lhs; simp -implicitDefEqProofs (maxSteps := 300000) (disch := omega) [-getElem?_pos, -getElem?_neg, qb]
  try (with_reducible refine Run.ret ?_)
  apply zz
  refine Run.call ((parts_ev n v _).mono fun r w1 hv => ?_)
  obtain ⟨hk1, bp, rfl, hbp1, hbp2, hgp⟩ := hv
  have k1a := hk1.1
  have k1b := hk1.2
  have hk : Keep s w1 := ⟨by omega, fun i hi => by rw [k1b i (by omega)]; simp -implicitDefEqProofs (disch := omega) [qb]⟩
  have hv0 : w1.heap.get s.next = some (.cells [.int .i64 n, v] none) := by rw [k1b _ (by omega)]; simp -implicitDefEqProofs (disch := omega) [qb]
  have hv1 : w1.heap.get (s.next + 1) = some (.cells [.slice none 0 0] none) := by rw [k1b _ (by omega)]; simp -implicitDefEqProofs (disch := omega) [qb]
  have hv2 : w1.heap.get (s.next + 1 + 1) = some (.cells [.int .i64 0] none) := by rw [k1b _ (by omega)]; simp -implicitDefEqProofs (disch := omega) [qb]
  apply Run.by_eq
  · intro self
    conv => lhs; simp -implicitDefEqProofs (maxSteps := 300000) (disch := omega) [-getElem?_pos, -getElem?_neg]
  try (with_reducible refine Run.ret ?_)
  apply zz
  refine Cd.rangeJ (gi := 59) (first := #[]) (captured := #[.pointer (some ⟨bp, 0, none⟩)]) rfl (by simp) ?_
  generalize hR : ALoop.mk true none _ _ _ _ _ = R0
  show Ev TT 59 [.func (.yield (w1.next + 1)) #[] #[], .pointer (some ⟨bp, 0, none⟩)] _ _
  refine (iterJ_ev n v (.func (.yield (w1.next + 1)) #[] #[]) fs bp _ (fun i => i = s.next + 1 ∨ i = s.next + 1 + 1 ∨ i = w1.next + 1)
    (fun j s2 => s2.heap.get (w1.next + 1) = some (.loop R0) ∧ s2.heap.get s.next = some (.cells [.int .i64 n, v] none) ∧ s2.heap.get (s.next + 1) = some (.cells [.slice none 0 0] none) ∧ s2.heap.get (s.next + 1 + 1) = some (.cells [.int .i64 0] none) ∧ s2.heap.get w1.next = some (.deferred true) ∧ w1.next + 1 < s2.next ∧ (∀ i, i < s.next → s2.heap.get i = s.heap.get i) ∧ ∀ i, 0 ≤ i → i < j → provAt (rtF (-1) fs 0 id) fs n i = none)
    (fun j s2 => s2.heap.get (w1.next + 1) = some (.loop ⟨false, some .ret, R0.n, R0.tmps, R0.params, R0.assign, R0.body⟩) ∧ s2.heap.get w1.next = some (.deferred true) ∧ w1.next + 1 < s2.next ∧ s2.heap.get (s.next + 1) = some (.cells [.slice none 0 0] none) ∧ s2.heap.get (s.next + 1 + 1) = some (.cells [.int .i64 12] none) ∧ (∃ p, provAt (rtF (-1) fs 0 id) fs n j = some p) ∧ ∀ i, 0 ≤ i → i < j → provAt (rtF (-1) fs 0 id) fs n i = none)
    hn8 ((hf.keep hk).keep ⟨by (try simp only [pushed_next', upded_next']); omega, fun i hi => by simp -implicitDefEqProofs (disch := omega) []⟩) hl ?_ ?_ ?_ ?_ ?_ ?_ ?_ ?_).mono fun _ s2 hres => ?_
  · simp only [pushed_next']; omega
  · simp -implicitDefEqProofs (disch := omega) [hgp]
  · rintro i (rfl | rfl | rfl) <;> simp only [pushed_next'] <;> omega
  · rintro (h | h | h) <;> omega
  · refine ⟨?_, ?_, ?_, ?_, ?_, ?_, fun i hi => ?_, fun i _ hi => absurd hi (by omega)⟩
    · simp -implicitDefEqProofs (disch := omega)
    · simp -implicitDefEqProofs (disch := omega) [hv0]
    · simp -implicitDefEqProofs (disch := omega) [hv1]
    · simp -implicitDefEqProofs (disch := omega) [hv2]
    · simp -implicitDefEqProofs (disch := omega)
    · simp
    · simp -implicitDefEqProofs (disch := omega) [hk.2]
  · rintro j s1 s2 ⟨j0, j1, j2, j3, j5, j6, jk, j7⟩ h1 h2
    simp only [pushed_next'] at h2
    exact ⟨by rw [h2 _ (by omega)]; exact j0, by rw [h2 _ (by omega)]; exact j1, by rw [h2 _ (by omega)]; exact j2, by rw [h2 _ (by omega)]; exact j3, by rw [h2 _ (by omega)]; exact j5, by omega, fun i hi => by rw [h2 _ (by omega)]; exact jk i hi, j7⟩
  · rintro j s1 hj hL ⟨j0, j1, j2, j3, j5, j6, jk, j7⟩
    refine ⟨j0, j1, j2, j3, j5, j6, jk, fun i h1 h2 => ?_⟩
    by_cases e : i = j
    · subst e; unfold provAt; rw [hL]; rfl
    · exact j7 i h1 (by omega)
  · rintro j s1 w hj hL ⟨j0, j1, j2, j3, j5, j6, jk, j7⟩ hs1 hw ⟨bw, hbw, rfl⟩
    simp only [pushed_next'] at hs1 hbw
    show Evn TT (fun self => exRound self (w1.next + 1) _ s1) _
    subst hR
    refine Evn.roundJ j0 rfl ?_
    show Cd TT true _ _ ((((Fr.mk _ []).put (some 18) _).put (some 19) _)) _ _
    dsimp only
    apply zz
    refine Cd.ra (h := ?_)
    apply Run.by_eq
    · intro self
      conv => lhs; simp -implicitDefEqProofs (maxSteps := 300000) (disch := omega) [-getElem?_pos, -getElem?_neg, Fr.get_mk]
    try (with_reducible refine Run.ret ?_)
    apply zz
    refine ⟨rfl, _, j0, rfl, rfl, ?_⟩
    dsimp only
    apply zz
    refine Cd.ra (h := ?_)
    apply Run.by_eq
    · intro self
      conv => lhs; simp -implicitDefEqProofs (maxSteps := 300000) (disch := omega) [-getElem?_pos, -getElem?_neg, Fr.get_mk, j1]
    try (with_reducible refine Run.ret ?_)
    apply zz
    generalize hLf : ALoop.mk false none _ _ _ _ _ = Lf
    generalize hrt : rtF (-1) fs 0 id = rt at *
    have hcl := clsN_length rt j n
    refine Run.call ((excess_ev n v _ fs (clsN rt j n) _ (hf.keep ⟨by (try simp only [pushed_next', upded_next']); omega, fun i hi => by simp -implicitDefEqProofs (disch := omega) [jk]⟩) (SlAt.same hw (by simp) (by simp -implicitDefEqProofs (disch := omega))) (by omega) (by omega) (checkErr_le hck)).mono fun v wy hv => ?_)
    obtain ⟨rfl, y⟩ := hv
    have ya := y.1
    have yb := y.2
    try simp only [pushed_next', upded_next'] at ya yb
    have hxl := exc_le (xs := clsN rt j n) (by omega) (checkErr_le hck) hl20
    generalize hmx : excM (clsN rt j n) fs = mx at hxl
    have hEq : aggEq TT 36 #[.int .i64 mx.a, .int .i64 mx.b, .int .i64 mx.c, .int .i64 mx.d] #[.int .i64 0, .int .i64 0, .int .i64 0, .int .i64 0] = some (decide (mx = Mass.zero)) := aggEqA unA36 ceA36 (m := mx) (p := Mass.zero) (hxl.mono (by omega)) (Mass.le_zero (by omega))
    try simp only [upded_next'] at ya
    have hlp : wy.heap.get (w1.next + 1) = some (.loop Lf) := by rw [yb _ (by omega)]; simp
    have hy2 : wy.heap.get (s.next + 1) = some (.cells [.slice none 0 0] none) := by rw [yb _ (by omega)]; simp -implicitDefEqProofs (disch := omega) [j2]
    have hy3 : wy.heap.get (s.next + 1 + 1) = some (.cells [.int .i64 0] none) := by rw [yb _ (by omega)]; simp -implicitDefEqProofs (disch := omega) [j3]
    have hy5 : wy.heap.get w1.next = some (.deferred true) := by rw [yb _ (by omega)]; simp -implicitDefEqProofs (disch := omega) [j5]
    by_cases hz0 : mx = Mass.zero
    · have hz1 : decide (mx = Mass.zero) = true := decide_eq_true hz0
      rw [hz1] at hEq
      apply Run.by_eq
      · intro self
        conv => lhs; simp -implicitDefEqProofs (maxSteps := 300000) (disch := omega) [-getElem?_pos, -getElem?_neg, Mass.v, hEq]
      try (with_reducible refine Run.ret ?_)
      apply zz
      apply Cd.ite rfl
      · conv => lhs; simp -implicitDefEqProofs (maxSteps := 300000) (disch := omega) [-getElem?_pos, -getElem?_neg]
      all_goals intro d0
      all_goals try (cases d0; done)
      all_goals try simp only [Bool.not_eq_true', Bool.not_eq_false', decide_eq_true_eq, decide_eq_false_iff_not] at d0
      all_goals apply zz
      refine ⟨Lf, hlp, .inl ⟨rfl, ?_, ?_, ?_, ?_, ?_, ?_, fun i hi => ?_, fun i h1 h2 => ?_⟩, ?_, fun z hz hX => ?_⟩
      · rw [get_upded_same]; subst hLf; rfl
      · simp -implicitDefEqProofs (disch := omega) [yb, j1]
      · simp -implicitDefEqProofs (disch := omega) [hy2]
      · simp -implicitDefEqProofs (disch := omega) [hy3]
      · simp -implicitDefEqProofs (disch := omega) [hy5]
      · simp only [upded_next']; omega
      · simp -implicitDefEqProofs (disch := omega) [yb, jk]
      · by_cases e : i = j
        · subst e; unfold provAt; rw [if_pos hL, hmx, nzK_none.2 hz0]; rfl
        · exact j7 i h1 (by omega)
      · simp only [upded_next']; omega
      · have x4 : z ≠ w1.next + 1 := fun e => hX (.inr (.inr e))
        simp -implicitDefEqProofs (disch := omega) [yb]
    · have hz1 : decide (mx = Mass.zero) = false := decide_eq_false hz0
      rw [hz1] at hEq
      apply Run.by_eq
      · intro self
        conv => lhs; simp -implicitDefEqProofs (maxSteps := 300000) (disch := omega) [-getElem?_pos, -getElem?_neg, Mass.v, hEq]
      try (with_reducible refine Run.ret ?_)
      apply zz
      apply Cd.ite rfl
      · conv => lhs; simp -implicitDefEqProofs (maxSteps := 300000) (disch := omega) [-getElem?_pos, -getElem?_neg]
      all_goals intro d0
      all_goals try (cases d0; done)
      all_goals try simp only [Bool.not_eq_true', Bool.not_eq_false', decide_eq_true_eq, decide_eq_false_iff_not] at d0
      all_goals apply zz
      apply zz
      refine Cd.ra (h := ?_)
      apply Run.by_eq
      · intro self
        conv => lhs; simp -implicitDefEqProofs (maxSteps := 300000) (disch := omega) [-getElem?_pos, -getElem?_neg, Fr.get_mk, hy2, hy3]
      try (with_reducible refine Run.ret ?_)
      apply zz
      refine ⟨Lf, ?_, .inr ⟨rfl, ?_, ?_, ?_, ?_, ?_, ?_, j7⟩, ?_, fun z hz hX => ?_⟩
      · simp -implicitDefEqProofs (disch := omega) [hlp]
      · rw [get_upded_same]; subst hLf; rfl
      · simp -implicitDefEqProofs (disch := omega) [hy5]
      · simp only [upded_next']; omega
      · simp -implicitDefEqProofs (disch := omega)
      · simp -implicitDefEqProofs (disch := omega)
      · unfold provAt
        rw [if_pos hL, hmx]
        cases hzz : nzK mx with
        | none => exact absurd (nzK_none.1 hzz) hz0
        | some p => exact ⟨_, rfl⟩
      · simp only [upded_next']; omega
      · have x1 : z ≠ s.next + 1 := fun e => hX (.inl e)
        have x2 : z ≠ s.next + 1 + 1 := fun e => hX (.inr (.inl e))
        have x4 : z ≠ w1.next + 1 := fun e => hX (.inr (.inr e))
        simp -implicitDefEqProofs (disch := omega) [yb]
  obtain ⟨hJB, r2, r3⟩ := hres
  simp only [pushed_next'] at r2 r3
  have hold : ∀ i, i < s.next → s2.heap.get i = s.heap.get i := fun i hi => by
    rw [r3 i (by omega) (by omega)]
    simp -implicitDefEqProofs (disch := omega) [hk.2]
  rcases hJB with ⟨j0, j1, j2, j3, j5, j6, jk, j7⟩ | ⟨k, hkn, hL, ⟨b0, b1, b2, b3, b4, ⟨p, hp⟩, hz⟩⟩
  · refine ⟨R0, j0, .inl ⟨by rw [← hR], by rw [← hR], ?_⟩⟩
    have hK0 : ((n : Int) + 1) * 20000000000 ≤ 180000000000 := by omega
    with_reducible repeat first|apply Z0|apply Z1|apply Z4|apply Z5
    have hfs2 : FlAt (s2.upded (w1.next + 1) .dead) v fs := hf.keep ⟨by (try simp only [pushed_next', upded_next']); omega, fun i hi => by simp -implicitDefEqProofs (disch := omega) [hold]⟩
    have hzero : ∀ k : Nat, k < n → isLead (rtF (-1) fs 0 id) n k = true → excM (clsN (rtF (-1) fs 0 id) k n) fs = Mass.zero := fun k hk hL => excM_zero_of (j7 k (by omega) hk) hL
    have hce' : closeErr n fs = 0 := by rw [hce, provF_none fun i h1 h2 => j7 i h1 (by omega)]
    have hck' : closeKs n fs = (List.range fs.length).map (closeF fs n) := by unfold closeKs; rw [if_pos hce']; rfl
    rw [hce', hck']
    have hne := checkErr_ne hck
    have h9 := checkErr_le9 hck
    have hpl : (s2.upded (w1.next + 1) .dead).heap.get s.next = some (.cells [.int .i64 n, v] none) := by simp -implicitDefEqProofs (disch := omega) [j1]
    apply zz
    refine Cd.ra (h := ?_)
    apply Run.by_eq
    · intro self
      conv => lhs; simp -implicitDefEqProofs (maxSteps := 300000) (disch := omega) [-getElem?_pos, -getElem?_neg, Fr.get_mk, hpl]
    try (with_reducible refine Run.ret ?_)
    apply zz
    refine Run.call ((settle_ev n v fs _ 20000000000 180000000000 hn8 hfs2 (by omega) hends hne (checkErr_le hck) (fun f hf hm => (h9 f hf hm).mono (by omega)) (by omega) (fun e => exc_le (by omega) h9 hl20) hK0 (by omega) (by omega)).mono fun r s3 hv => ?_)
    obtain ⟨k3, β, B, rfl, hβ1, hβ2, hβ3, hSet⟩ := hv
    have k3a := k3.1
    have k3b := k3.2
    simp only [upded_next'] at k3a k3b hβ1
    have hnet : ∀ u : Nat, u < n → netB fs B u = Mass.zero := fun u hu => settled_zero hSet hends hne hzero hu
    have hold3 : ∀ i, i < s.next → s3.heap.get i = s.heap.get i := fun i hi => by rw [k3b i (by omega)]; simp -implicitDefEqProofs (disch := omega) [hold]
    have hf3 : FlAt s3 v fs := hf.keep ⟨by omega, hold3⟩
    have q1 : s3.heap.get s.next = some (.cells [.int .i64 n, v] none) := (k3b _ (by omega)).trans hpl
    have q2 : s3.heap.get (s.next + 1) = some (.cells [.slice none 0 0] none) := by rw [k3b _ (by omega)]; simp -implicitDefEqProofs (disch := omega) [j2]
    have q3 : s3.heap.get (s.next + 1 + 1) = some (.cells [.int .i64 0] none) := by rw [k3b _ (by omega)]; simp -implicitDefEqProofs (disch := omega) [j3]
    have q5 : s3.heap.get w1.next = some (.deferred true) := by rw [k3b _ (by omega)]; simp -implicitDefEqProofs (disch := omega) [j5]
    apply Run.by_eq
    · intro self
      conv => lhs; simp -implicitDefEqProofs (maxSteps := 300000) (disch := omega) [-getElem?_pos, -getElem?_neg]
    try (with_reducible refine Run.ret ?_)
    apply zz
    obtain ⟨a, c, rfl⟩ := hf3.shape
    rw [List.length_map] at hf3 q1 hf hfs2
    have nl := natOf_cast .i64 fs.length
    apply zz
    refine Cd.ra (h := ?_)
    apply Run.by_eq
    · intro self
      conv => lhs; simp -implicitDefEqProofs (maxSteps := 300000) (disch := omega) [-getElem?_pos, -getElem?_neg, Fr.get_mk, q1, nl]
    try (with_reducible refine Run.ret ?_)
    apply zz
    refine Cd.ra (h := ?_)
    apply Run.by_eq
    · intro self
      conv => lhs; simp -implicitDefEqProofs (maxSteps := 300000) (disch := omega) [-getElem?_pos, -getElem?_neg, Fr.get_mk, q1]
    try (with_reducible refine Run.ret ?_)
    apply zz
    refine Cd.inv (fun z f s' => ∃ k : Nat, k ≤ fs.length ∧ z = fs.length - k ∧ f.marks = [w1.next] ∧ f.get 34 = .int .i64 k ∧ f.get 33 = .int .i64 fs.length ∧ f.get 32 = .slice a fs.length c ∧ f.get 1 = .pointer (some ⟨s.next, 0, none⟩) ∧ f.get 2 = .pointer (some ⟨s.next + 1, 0, none⟩) ∧ f.get 3 = .pointer (some ⟨s.next + 1 + 1, 0, none⟩) ∧ f.get 7 = .slice (some ⟨β, 0, none⟩) fs.length fs.length ∧ f.get 8 = .slice (some ⟨s3.next, 0, none⟩) fs.length fs.length ∧ Keep s3 s' ∧ s3.next < s'.next ∧
      s'.heap.get s3.next = some (.cells (flatG (knG fs n k) fs.length) none)) fs.length ?_ ?_
    · refine ⟨0, by omega, rfl, by simp, by simp, by simp, by simp, by simp [Fr.get_mk], by simp [Fr.get_mk], by simp [Fr.get_mk], by simp [Fr.get_mk], by simp, ⟨by (try simp only [pushed_next', upded_next']); omega, fun i hi => by simp -implicitDefEqProofs (disch := omega) []⟩, by simp, ?_⟩
      rw [show knG fs n 0 = fun _ => [.int .i64 0, .int .i64 0, .int .i64 0, .int .i64 0, .int .i64 0] from by funext j; unfold knG; rw [if_neg (by omega)], flatG_same]
      simp -implicitDefEqProofs (disch := omega)
    rintro z f s' ⟨k, hk, rfl, hm, h34, h33, h32, h1, h2, h3, h7, h8, hkp, hnx, hg⟩
    have hkpa := hkp.1
    have hkpb := hkp.2
    by_cases hlt : k < fs.length
    · obtain ⟨g, hgk⟩ : ∃ g, fs[k]? = some g := ⟨fs[k], by simp [hlt]⟩
      obtain ⟨hV1, hV2⟩ := hends g (List.mem_of_getElem? hgk)
      have hcl : closeF fs n k = closeAt fs n k g := by unfold closeF; rw [hgk]
      have hfv := fun hm => found_value (n := n) (B := B) hends hne hnet hgk hm
      have hlr := lab_rt (i := k) hends hV1 hV2
      obtain ⟨b, off, o, cs, gg, rfl, hb, ho, hc, ht⟩ := FlAt.at (hf3.keep hkp) hgk
      have hputK : ∀ (st : Int) (mm : Mass), closeAt fs n k g = ⟨st, mm⟩ → putL (k * 5) [.int .i64 st, .int .i64 mm.a, .int .i64 mm.b, .int .i64 mm.c, .int .i64 mm.d] (flatG (knG fs n k) fs.length) = some (flatG (knG fs n (k + 1)) fs.length) := fun st mm h => by
        rw [← knG_succ, hcl, h]
        exact flatG_put (knG_length fs n k) rfl hlt
      obtain ⟨g0, g1, gm, m⟩ := g
      rw [FlowD.cs] at ht
      simp only [] at ht hV1 hV2 hlr hfv
      apply zz
      refine Cd.ra (h := ?_)
      apply Run.by_eq
      · intro self
        conv => lhs; simp -implicitDefEqProofs (maxSteps := 300000) (disch := omega) [-getElem?_pos, -getElem?_neg, h34, h33]
      try (with_reducible refine Run.ret ?_)
      apply zz
      apply Cd.ite rfl
      · conv => lhs; simp -implicitDefEqProofs (maxSteps := 300000) (disch := omega) [-getElem?_pos, -getElem?_neg]
      all_goals intro c1
      all_goals try (cases c1; done)
      all_goals try simp only [Bool.not_eq_true', Bool.not_eq_false', decide_eq_true_eq, decide_eq_false_iff_not] at c1
      all_goals apply zz
      · apply zz
        refine Cd.ra (h := ?_)
        apply Run.by_eq
        · intro self
          conv => lhs; simp -implicitDefEqProofs (maxSteps := 300000) (disch := omega) [-getElem?_pos, -getElem?_neg, h34, h32, ho, hc, ht, hlt]
        try (with_reducible refine Run.ret ?_)
        apply zz
        refine Cd.ra (h := ?_)
        apply Run.by_eq
        · intro self
          conv => lhs; simp -implicitDefEqProofs (maxSteps := 300000) (disch := omega) [-getElem?_pos, -getElem?_neg]
        try (with_reducible refine Run.ret ?_)
        apply zz
        cases gm with
        | true =>
          have hput := hputK 1 m (by unfold closeAt; rfl)
          apply zz
          apply Cd.ite rfl
          · conv => lhs; simp -implicitDefEqProofs (maxSteps := 300000) (disch := omega) [-getElem?_pos, -getElem?_neg]
          all_goals intro c2
          all_goals try (cases c2; done)
          all_goals try simp only [Bool.not_eq_true', Bool.not_eq_false', decide_eq_true_eq, decide_eq_false_iff_not] at c2
          all_goals apply zz
          apply zz
          refine Cd.ra (h := ?_)
          apply Run.by_eq
          · intro self
            conv => lhs; simp -implicitDefEqProofs (maxSteps := 300000) (disch := omega) [-getElem?_pos, -getElem?_neg, h8, hg, hlt, hput]
          try (with_reducible refine Run.ret ?_)
          apply zz
          refine Cd.ra (h := ?_)
          apply Run.by_eq
          · intro self
            conv => lhs; simp -implicitDefEqProofs (maxSteps := 300000) (disch := omega) [-getElem?_pos, -getElem?_neg, h34]
          try (with_reducible refine Run.ret ?_)
          apply zz
          refine LoopK.nm (fs.length - (k + 1)) (by omega) ⟨k + 1, by omega, rfl, by simp [hm], by simp, by simp [h33], by simp [h32], by simp [h1], by simp [h2], by simp [h3], by simp [h7], by simp [h8], ⟨by (try simp only [pushed_next', upded_next']); omega, fun i hi => by simp -implicitDefEqProofs (disch := omega) [hkpb]⟩, by (try simp only [pushed_next', upded_next']); omega, by simp -implicitDefEqProofs (disch := omega)⟩
        | false =>
          apply zz
          apply Cd.ite rfl
          · conv => lhs; simp -implicitDefEqProofs (maxSteps := 300000) (disch := omega) [-getElem?_pos, -getElem?_neg]
          all_goals intro c2
          all_goals try (cases c2; done)
          all_goals try simp only [Bool.not_eq_true', Bool.not_eq_false', decide_eq_true_eq, decide_eq_false_iff_not] at c2
          all_goals apply zz
          have q1' := (hkpb s.next (by omega)).trans q1
          have ve : veq 4 (Value.slice (some ⟨b, off, none⟩) fs.length c) (Value.slice (some ⟨b, off, none⟩) fs.length c) = true := veq_slice _ _ _ _ _
          apply zz
          refine Cd.drawnH (pl := [(0, 0, false, false), (1, 0, false, false), (3, 0, false, false), (4, 8, false, false), (5, 0, false, false), (6, 32, false, false), (2, 3, true, false), (7, 127, true, false), (8, 255, false, false)]) [false, false, true, true, true, true, false, false, false] (by kernel_rfl) (by decide) (by decide) (by conv => lhs; simp only [List.map_cons, List.map_nil]) (by conv => lhs; simp [strip, orderedG, flagH]) ?_
          apply Run.by_eq
          · intro self
            conv => lhs; simp -implicitDefEqProofs (maxSteps := 300000) (disch := omega) [-getElem?_pos, -getElem?_neg, h1, q1', ve]
          try (with_reducible refine Run.ret ?_)
          apply zz
          refine Run.call ((joins_ev n k _ fs _ (hf3.keep ⟨by (try simp only [pushed_next', upded_next']); omega, fun i hi => by simp -implicitDefEqProofs (disch := omega) [hkpb]⟩) (by omega)).mono fun r w4 hv => ?_)
          obtain ⟨k4, hb4, es, rfl, hbs, hH, hF⟩ := hv
          have k4a := k4.1
          have k4b := k4.2
          try simp only [pushed_next', upded_next'] at k4a k4b hbs
          apply Run.by_eq
          · intro self
            conv => lhs; simp -implicitDefEqProofs (maxSteps := 300000) (disch := omega) [-getElem?_pos, -getElem?_neg, k4b, q1', ve]
          try (with_reducible refine Run.ret ?_)
          apply zz
          refine Run.call ((joined_ev hb4 es _ g0 g1 _ hH hF).mono fun v wy hv => ?_)
          obtain ⟨rfl, y⟩ := hv
          have ya := y.1
          have yb := y.2
          try simp only [pushed_next', upded_next'] at ya yb
          apply Run.by_eq
          · intro self
            conv => lhs; simp -implicitDefEqProofs (maxSteps := 300000) (disch := omega) [-getElem?_pos, -getElem?_neg, yb, k4b, q1', ve]
          try (with_reducible refine Run.ret ?_)
          apply zz
          by_cases hr : rtF k fs 0 id g0 = rtF k fs 0 id g1
          · have hput := hputK 3 Mass.zero (by unfold closeAt; rw [if_neg (by simp), if_pos (hlr.2 hr)])
            simp only [Mass.zero] at hput
            apply zz
            apply Cd.ite rfl
            · conv => lhs; simp -implicitDefEqProofs (maxSteps := 300000) (disch := omega) [-getElem?_pos, -getElem?_neg, hr]
            all_goals intro c3
            all_goals try (cases c3; done)
            all_goals try simp only [Bool.not_eq_true', Bool.not_eq_false', decide_eq_true_eq, decide_eq_false_iff_not] at c3
            all_goals apply zz
            apply zz
            refine Cd.ra (h := ?_)
            apply Run.by_eq
            · intro self
              conv => lhs; simp -implicitDefEqProofs (maxSteps := 300000) (disch := omega) [-getElem?_pos, -getElem?_neg, h8, hg, hlt, hput, yb, k4b]
            try (with_reducible refine Run.ret ?_)
            apply zz
            refine Cd.ra (h := ?_)
            apply Run.by_eq
            · intro self
              conv => lhs; simp -implicitDefEqProofs (maxSteps := 300000) (disch := omega) [-getElem?_pos, -getElem?_neg, h34]
            try (with_reducible refine Run.ret ?_)
            apply zz
            refine LoopK.nm (fs.length - (k + 1)) (by omega) ⟨k + 1, by omega, rfl, by simp [hm], by simp, by simp [h33], by simp [h32], by simp [h1], by simp [h2], by simp [h3], by simp [h7], by simp [h8], ⟨by (try simp only [pushed_next', upded_next']); omega, fun i hi => by simp -implicitDefEqProofs (disch := omega) [hkpb, yb, k4b]⟩, by (try simp only [pushed_next', upded_next']); omega, by simp -implicitDefEqProofs (disch := omega)⟩
          · have hput := hputK 2 (B k) (hfv rfl hr)
            have hβ4 := (hkpb β hβ2).trans hβ3
            have hget := balL_get B hlt
            unfold Mass.cs at hget
            apply zz
            apply Cd.ite rfl
            · conv => lhs; simp -implicitDefEqProofs (maxSteps := 300000) (disch := omega) [-getElem?_pos, -getElem?_neg, hr]
            all_goals intro c3
            all_goals try (cases c3; done)
            all_goals try simp only [Bool.not_eq_true', Bool.not_eq_false', decide_eq_true_eq, decide_eq_false_iff_not] at c3
            all_goals apply zz
            apply zz
            refine Cd.ra (h := ?_)
            apply Run.by_eq
            · intro self
              conv => lhs; simp -implicitDefEqProofs (maxSteps := 300000) (disch := omega) [-getElem?_pos, -getElem?_neg, h7, h8, hg, hβ4, hget, hlt, hput, yb, k4b]
            try (with_reducible refine Run.ret ?_)
            apply zz
            refine Cd.ra (h := ?_)
            apply Run.by_eq
            · intro self
              conv => lhs; simp -implicitDefEqProofs (maxSteps := 300000) (disch := omega) [-getElem?_pos, -getElem?_neg, h34]
            try (with_reducible refine Run.ret ?_)
            apply zz
            refine LoopK.nm (fs.length - (k + 1)) (by omega) ⟨k + 1, by omega, rfl, by simp [hm], by simp, by simp [h33], by simp [h32], by simp [h1], by simp [h2], by simp [h3], by simp [h7], by simp [h8], ⟨by (try simp only [pushed_next', upded_next']); omega, fun i hi => by simp -implicitDefEqProofs (disch := omega) [hkpb, yb, k4b]⟩, by (try simp only [pushed_next', upded_next']); omega, by simp -implicitDefEqProofs (disch := omega)⟩
      · simp at c1; omega
    · obtain rfl : k = fs.length := by omega
      apply zz
      refine Cd.ra (h := ?_)
      apply Run.by_eq
      · intro self
        conv => lhs; simp -implicitDefEqProofs (maxSteps := 300000) (disch := omega) [-getElem?_pos, -getElem?_neg, h34, h33]
      try (with_reducible refine Run.ret ?_)
      apply zz
      apply Cd.ite rfl
      · conv => lhs; simp -implicitDefEqProofs (maxSteps := 300000) (disch := omega) [-getElem?_pos, -getElem?_neg]
      all_goals intro c1
      all_goals try (cases c1; done)
      all_goals try simp only [Bool.not_eq_true', Bool.not_eq_false', decide_eq_true_eq, decide_eq_false_iff_not] at c1
      all_goals apply zz
      have q2' := (hkpb (s.next + 1) (by omega)).trans q2
      have q3' := (hkpb (s.next + 1 + 1) (by omega)).trans q3
      have q5' := (hkpb w1.next (by omega)).trans q5
      apply zz
      refine Cd.ra (h := ?_)
      apply Run.by_eq
      · intro self
        conv => lhs; simp -implicitDefEqProofs (maxSteps := 300000) (disch := omega) [-getElem?_pos, -getElem?_neg, h2, h3, h8, q2', q3']
      try (with_reducible refine Run.ret ?_)
      apply zz
      apply Leave.one (m := w1.next) (by first | exact .inl rfl | exact .inr rfl) (by simp only [Fr.marks_put, hm])
      · simp -implicitDefEqProofs (disch := omega) [q5']
      · conv => lhs; simp -implicitDefEqProofs (disch := omega) [Try.results24, h2, h3]
      refine ⟨⟨by (try simp only [upded_next']); omega, fun i hi => ?_⟩, _, rfl, ?_⟩
      · simp -implicitDefEqProofs (disch := omega)
        exact (hkpb i (by omega)).trans (hold3 i hi)
      have hfl : flatG (knG fs n fs.length) fs.length = flatG (fun j => (closeF fs n j).cs) fs.length := flatG_congr fun j hj => by unfold knG; rw [if_pos hj]
      rw [hfl] at hg
      rw [List.map_map]
      exact sl_of_flat (o := none) (g := fun j => (closeF fs n j).cs) (by (try simp only [upded_next']); omega) (fun j => rfl) (by simp -implicitDefEqProofs (disch := omega) [hg])
  · refine ⟨_, b0, .inr (.inl ⟨rfl, ?_⟩)⟩
    with_reducible repeat first|apply Z0|apply Z1|apply Z2|apply Z3|apply Z4|apply Z5|refine Z6 rfl ?_|apply Z7|apply Z8
    apply Leave.one (m := w1.next) (by first | exact .inl rfl | exact .inr rfl) (by simp only [Fr.marks_put, fr0_marks])
    · simp -implicitDefEqProofs (disch := omega) [b1]
    · conv => lhs; simp -implicitDefEqProofs (disch := omega) [Try.results24, Fr.get_mk, b3, b4]
    have hce' : closeErr n fs = 12 := by rw [hce, provF_at hz (by omega) (by omega) hp]
    have hck' : closeKs n fs = [] := by unfold closeKs; rw [hce', if_neg (by decide)]
    rw [hce', hck']
    exact ⟨⟨by (try simp only [upded_next']); omega, fun i hi => by simp -implicitDefEqProofs (disch := omega) [hold]⟩, _, rfl, .nil 0⟩
end Go.Proofs.Ytjehpgflhgpalaa
namespace Go.Proofs.Ytjehpgflhgpalaa
open Go Kern
section
variable {T : Tab} {self : Self} {ds : List (Option Tmp)} {f : Fr} {s : St} {pend : List DRec}
@[simp] theorem stepD_nil : stepD T self ds [] pend f s = gd (pend.all (recD T self ds s)) (some (f, s)) := rfl
@[simp] theorem stepD_heavy (i m : Nat) (nw : Bool) (o : SOp) (r : List (Nat × Nat × Bool × Bool × SOp)) : stepD T self ds ((i, m, true, nw, o) :: r) pend f s = gd (pend.all (recD T self ds s)) (ob (itemD T self ds o f s) fun p => stepD T self ds r (pend.filter fun q => !m.testBit q.idx) (f.put o.d p.1) p.2) := rfl
@[simp] theorem stepD_light (i m : Nat) (nw : Bool) (o : SOp) (r : List (Nat × Nat × Bool × Bool × SOp)) : stepD T self ds ((i, m, false, nw, o) :: r) pend f s = ob (itemD T self ds o f s) fun p => stepD T self ds r (⟨i, nw, o, f, p.1, s.next⟩ :: pend) (f.put o.d p.1) p.2 := rfl
theorem filter_bt {α : Type} (p : α → Bool) (x : α) (l : List α) : (x :: l).filter p = bt (p x) (x :: l.filter p) (l.filter p) := by
  rw [List.filter_cons]; cases p x <;> rfl
@[simp] theorem recD_plain (i : Nat) (nw : Bool) (d : Option Tmp) (op : Op) (v : Value) (a : Nat) : recD T self ds s ⟨i, nw, ⟨d, op, none⟩, f, v, a⟩ = bt nw (objEq (s.heap.get a) (Kern.newObj T op f)) (valEq (actO T self op f s) v) := rfl
@[simp] theorem recD_guard (i : Nat) (nw : Bool) (d : Option Tmp) (op : Op) (j : Nat) (b : Bool) (v : Value) (a : Nat) : recD T self ds s ⟨i, nw, ⟨d, op, some (j, b)⟩, f, v, a⟩ = bt (guardO b f ds[j]?) (bt nw (objEq (s.heap.get a) (Kern.newObj T op f)) (valEq (actO T self op f s) v)) true := rfl
@[simp] theorem objEq_some (a b : AObj) : objEq (some a) (some b) = oeq a b := rfl
@[simp] theorem oeq_cells (c c' : List Value) : oeq (.cells c none) (.cells c' none) = (listEq (veq 5) c c' && true) := rfl
theorem newObj_buildSlice (t : TypeId) (len : Nat) (pl0 : Array (Nat × Operand)) {z : Value} {e : TypeId} {n : Nat} (h1 : T.und t = some (.slice e)) (h2 : T.size e = some n) (h3 : T.zero e = some z) (h4 : (Nat.beq (lenL z.cells.toList) n && Nat.ble (len * n) 16777216) = true) :
    Kern.newObj T (.buildSlice t len pl0) f = ob (fillL f.eval (placesA n pl0.toList) (repeatL z.cells.toList len)) fun c => some (.cells c none) := by
  have h : compOp T (.buildSlice t len pl0) = some (.new fun ρ => ob (fillL ρ (placesA n pl0.toList) (repeatL z.cells.toList len)) fun c => some (.cells c none, fun i => .slice (some ⟨i, 0, none⟩) len len)) := by
    show ob (T.und t) _ = _
    rw [h1]
    show ob (T.size e) (fun n => ob (T.zero e) _) = _
    rw [h2]
    show ob (T.zero e) _ = _
    rw [h3]
    show gd _ _ = _
    rw [h4]; rfl
  unfold Kern.newObj
  rw [h]
  show Option.map (·.1) (ob (fillL f.eval (placesA n pl0.toList) (repeatL z.cells.toList len)) fun c => some (AObj.cells c none, fun i => Value.slice (some ⟨i, 0, none⟩) len len)) = _
  cases fillL f.eval (placesA n pl0.toList) (repeatL z.cells.toList len) <;> rfl
end
@[simp] theorem newObj_50 {f : Fr} {pl0 : Array (Nat × Operand)} : Kern.newObj TT (.buildSlice 50 1 pl0) f = ob (fillL f.eval (placesA 5 pl0.toList) (repeatL [.int .i64 0, .int .i64 0, .int .i64 0, .int .i64 0, .int .i64 0] 1)) fun c => some (.cells c none) :=
  newObj_buildSlice 50 1 pl0 und_50 size_56 zero_56 rfl
end Go.Proofs.Ytjehpgflhgpalaa
namespace Go.Proofs.Ytjehpgflhgpalaa
open Go Kern
theorem intOp_rem (k : IntKind) (a b : Int) (ha : 0 ≤ a) (hb : 0 < b) : intOp .rem k a (k, b) = some (.int k (a % b)) := by
  show gd (kindEq k k) (gd (bt (intEq b 0) false true) (some (Value.int k (a.tmod b)))) = _
  have hb0 : (b == 0) = false := by simp; omega
  rw [kindEq_refl, intEq_eq, hb0, bt_false, Int.tmod_eq_emod_of_nonneg ha]; rfl
def shrB (K : Int) (i : Nat) : Int := K.fdiv (2 ^ (min i IntKind.u16.bits))
def andB (x : Int) : Int := IntKind.u16.wrap ((BitVec.ofInt IntKind.u16.bits x &&& BitVec.ofInt IntKind.u16.bits 1).toNat : Nat)
@[simp] theorem intOp_and1 (x : Int) : intOp .and .u16 x (.u16, 1) = some (.int .u16 (andB x)) := by
  show gd (kindEq .u16 .u16) _ = _
  rw [kindEq_refl]; rfl
@[simp] theorem intOp_shrN (K : Int) (m : Nat) : intOp .shr .u16 K (.i64, (m : Int)) = some (.int .u16 (shrB K m)) := rfl
@[simp] theorem conv_5_3 {self : Self} {f : Fr} {s : St} {x : Operand} : actO TT self (.convert 5 3 x) f s = pureR (vConv .i64 x f.eval s.heap) s := o_convert_3 (by rw [und_5]; rfl)
/-- One bit, as the program asks for it. -/
def bitB (K : Int) (i : Nat) : Bool := decide (andB (shrB K i) = 1)
@[simp] theorem bitB_eq (K : Int) (i : Nat) : decide (andB (shrB K i) = 1) = bitB K i := rfl
abbrev BytesAt (s : St) (v : Value) (xs : List Int) : Prop := SlAt 1 s v (xs.map fun x => [.int .u8 x])
theorem BytesAt.at {s : St} {a : Option Addr} {m c : Nat} {xs : List Int} (h : BytesAt s (.slice a m c) xs) {k : Nat} {x : Int} (hk : xs[k]? = some x) :
    ∃ b off o cs g, a = some ⟨b, off, none⟩ ∧ b < s.next ∧ s.heap.get b = some o ∧ cellsOf o = some (cs, g) ∧ cs[off + k]? = some (.int .u8 x) := by
  obtain ⟨b, off, o, cs, g, h1, h2, h3, h4, h5⟩ := SlAt.at h (k := k) (e := [.int .u8 x]) (by rw [List.getElem?_map, hk]; rfl)
  refine ⟨b, off, o, cs, g, h1, h2, h3, h4, ?_⟩
  have := takeL_one h5
  rw [List.getElem?_drop, Nat.mul_one] at this
  exact this
abbrev EndsAt (s : St) (v : Value) (es : List (Int × Int)) : Prop := SlAt 2 s v (es.map fun e => [.int .u8 e.1, .int .u8 e.2])
theorem EndsAt.at {s : St} {a : Option Addr} {m c : Nat} {es : List (Int × Int)} (h : EndsAt s (.slice a m c) es) {k : Nat} {e : Int × Int} (hk : es[k]? = some e) :
    ∃ b off o cs g, a = some ⟨b, off, none⟩ ∧ b < s.next ∧ s.heap.get b = some o ∧ cellsOf o = some (cs, g) ∧ cs[off + k * 2]? = some (.int .u8 e.1) ∧ cs[off + k * 2 + 1]? = some (.int .u8 e.2) := by
  obtain ⟨b, off, o, cs, g, h1, h2, h3, h4, h5⟩ := SlAt.at h (k := k) (e := [.int .u8 e.1, .int .u8 e.2]) (by rw [List.getElem?_map, hk]; rfl)
  refine ⟨b, off, o, cs, g, h1, h2, h3, h4, ?_, ?_⟩
  · have := takeL_at h5 (i := 0) (by omega)
    rw [List.getElem?_drop] at this
    simpa using this
  · have := takeL_at h5 (i := 1) (by omega)
    rw [List.getElem?_drop] at this
    simpa using this
def millV (U : Int) (ve vm : Value) (K : Int) : Value := .agg #[.int .u8 U, ve, vm, .int .u16 K]
def mass1 (ms : List Int) (i k : Nat) : Int := if ms.length = 0 then 1 else ms.getD ((4 * i + k) % ms.length) 0
theorem mass1_le {ms : List Int} (h : ∀ x ∈ ms, 0 ≤ x ∧ x < 256) (i k : Nat) : 0 ≤ mass1 ms i k ∧ mass1 ms i k < 256 := by
  unfold mass1
  split
  · omega
  · rename_i h0
    have hlt : (4 * i + k) % ms.length < ms.length := Nat.mod_lt _ (by omega)
    rw [List.getD_eq_getElem?_getD, List.getElem?_eq_getElem hlt]
    exact h _ (List.getElem_mem hlt)
set_option maxRecDepth 100000 in
set_option maxHeartbeats 1000000 in
theorem mass_ev (U K : Int) (ve vm : Value) (ms : List Int) (i k p : Nat) (s : St) (hi : i ≤ 100) (hk : k < 4) (hp : p < s.next) (hg : s.heap.get p = some (.cells [.int .u8 U, ve, vm, .int .u16 K] none)) (hm : BytesAt s vm ms) (hb : ∀ x ∈ ms, 0 ≤ x ∧ x < 256) :
    Ev TT 58 [.int .i64 i, .int .i64 k, .pointer (some ⟨p, 0, none⟩)] s fun r s' => r = .int .i64 (mass1 ms i k) ∧ Keep s s' := by
  obtain ⟨a, c, rfl⟩ := hm.shape
  rw [List.length_map] at hm hg
  refine Ev.intro (fn := Try.f58) rfl (by kernel_rfl) rfl rfl ?_
  apply zz
  refine Cd.ra (h := ?_)
  apply Run.by_eq
  · intro self
    conv => lhs; simp -implicitDefEqProofs (maxSteps := 300000) (disch := omega) [-getElem?_pos, -getElem?_neg]
  try (with_reducible refine Run.ret ?_)
  apply zz
  by_cases h0 : ms.length = 0
  · apply zz
    refine Cd.ra (h := ?_)
    apply Run.by_eq
    · intro self
      conv => lhs; simp -implicitDefEqProofs (maxSteps := 300000) (disch := omega) [-getElem?_pos, -getElem?_neg, hg, h0]
    try (with_reducible refine Run.ret ?_)
    apply zz
    apply Cd.ite rfl
    · conv => lhs; simp -implicitDefEqProofs (maxSteps := 300000) (disch := omega) [-getElem?_pos, -getElem?_neg]
    all_goals intro c0
    all_goals try (cases c0; done)
    all_goals try simp only [Bool.not_eq_true', Bool.not_eq_false', decide_eq_true_eq, decide_eq_false_iff_not] at c0
    all_goals apply zz
    apply zz
    refine Cd.ra (h := ?_)
    apply Run.by_eq
    · intro self
      conv => lhs; simp -implicitDefEqProofs (maxSteps := 300000) (disch := omega) [-getElem?_pos, -getElem?_neg]
    try (with_reducible refine Run.ret ?_)
    apply zz
    apply Leave.mk (by first | exact .inl rfl | exact .inr rfl) (by simp only [Fr.marks_put, fr0_marks])
    · conv => lhs; simp -implicitDefEqProofs (disch := omega) [Try.results58]
    exact ⟨by unfold mass1; rw [if_pos h0]; rfl, Keep.refl _⟩
  · have h0' : ¬ ms = [] := fun e => h0 (by rw [e]; rfl)
    have hlt : (4 * i + k) % ms.length < ms.length := Nat.mod_lt _ (by omega)
    obtain ⟨x, hx⟩ : ∃ x, ms[(4 * i + k) % ms.length]? = some x := ⟨ms[(4 * i + k) % ms.length], by simp [hlt]⟩
    obtain ⟨b, off, o, cs, g, rfl, hb1, ho, hc, ht⟩ := BytesAt.at hm hx
    have hxb := hb x (List.mem_of_getElem? hx)
    have hrem := intOp_rem .i64 (4 * (i : Int) + k) ms.length (by omega) (by omega)
    have hmod : (4 * (i : Int) + k) % (ms.length : Int) = (((4 * i + k) % ms.length : Nat) : Int) := by push_cast; rfl
    have nm := natOf_cast .i64 ((4 * i + k) % ms.length)
    have ve5 : veq 5 (Value.slice (some ⟨b, off, none⟩) ms.length c) (Value.slice (some ⟨b, off, none⟩) ms.length c) = true := veq_slice _ _ _ _ _
    have hv : mass1 ms i k = x := by unfold mass1; rw [if_neg h0, List.getD_eq_getElem?_getD, hx]; rfl
    rw [hv]
    generalize (4 * i + k) % ms.length = q at hlt hmod nm ht
    apply zz
    refine Cd.ra (h := ?_)
    apply Run.by_eq
    · intro self
      conv => lhs; simp -implicitDefEqProofs (maxSteps := 300000) (disch := omega) [-getElem?_pos, -getElem?_neg, hg, h0']
    try (with_reducible refine Run.ret ?_)
    apply zz
    apply Cd.ite rfl
    · conv => lhs; simp -implicitDefEqProofs (maxSteps := 300000) (disch := omega) [-getElem?_pos, -getElem?_neg]
    all_goals intro c0
    all_goals try (cases c0; done)
    all_goals try simp only [Bool.not_eq_true', Bool.not_eq_false', decide_eq_true_eq, decide_eq_false_iff_not] at c0
    all_goals apply zz
    apply zz
    refine Cd.drawnH (pl := [(0, 0, false, false), (1, 1, false, false), (2, 0, false, false), (3, 4, false, false), (4, 0, false, false), (5, 28, false, false), (6, 0, false, false), (7, 64, false, false), (8, 192, false, false), (9, 508, false, false), (10, 1023, false, false), (11, 2047, false, false), (12, 4095, false, false), (13, 8191, false, false)]) [false, false, false, false, false, false, false, false, false, false, false, false, false, false] (by kernel_rfl) (by decide) (by decide) (by conv => lhs; simp only [List.map_cons, List.map_nil]) (by conv => lhs; simp [strip, orderedG, flagH]) ?_
    apply Run.by_eq
    · intro self
      conv => lhs; simp -implicitDefEqProofs (maxSteps := 300000) (disch := omega) [-getElem?_pos, -getElem?_neg, hg, hrem, hmod, nm, hlt, ho, hc, ht, ve5]
    try (with_reducible refine Run.ret ?_)
    apply zz
    apply Leave.mk (by first | exact .inl rfl | exact .inr rfl) (by simp only [Fr.marks_put, fr0_marks])
    · conv => lhs; simp -implicitDefEqProofs (disch := omega) [Try.results58]
    exact ⟨rfl, Keep.refl _⟩
end Go.Proofs.Ytjehpgflhgpalaa
namespace Go.Proofs.Ytjehpgflhgpalaa
open Go Kern
/-- Rows of cells that are gathered, in a block of their own. -/
def OwnG (n N : Nat) (s : St) (w : Value) (l : List (List Value)) : Prop :=
  (l = [] ∧ w = .slice none 0 0) ∨ ∃ b, w = .slice (some ⟨b, 0, none⟩) l.length l.length ∧ l ≠ [] ∧ N ≤ b ∧ b < s.next ∧ s.heap.get b = some (.cells l.flatten (some n))
def knL (fs : List FlowD) (n k : Nat) : List (List Value) := (List.range k).map fun j => (closeF fs n j).cs
theorem knL_succ (fs : List FlowD) (n k : Nat) : knL fs n (k + 1) = knL fs n k ++ [(closeF fs n k).cs] := by
  unfold knL; rw [List.range_succ, List.map_append]; rfl
theorem knL_length (fs : List FlowD) (n k : Nat) : (knL fs n k).length = k := by simp [knL]
theorem OwnG.step {N k : Nat} {s s' : St} {fs : List FlowD} {n b : Nat} {kd : KnownD} (hcl : closeF fs n k = kd) (h2 : s.next ≤ b) (hN : N ≤ s.next) (h3 : b < s'.next) (h : s'.heap.get b = some (.cells ((knL fs n k).flatten ++ kd.cs) (some 5))) :
    OwnG 5 N s' (.slice (some ⟨b, 0, none⟩) (k + 1) (k + 1)) (knL fs n (k + 1)) := by
  refine .inr ⟨b, by rw [knL_length], by rw [knL_succ]; simp, by omega, h3, ?_⟩
  rw [h, knL_succ, hcl]; simp
end Go.Proofs.Ytjehpgflhgpalaa
namespace Go.Proofs.Ytjehpgflhgpalaa
open Go Kern
/-! What a mill by numbers is -/
def eAt (es : List (Int × Int)) (i : Nat) : Int × Int := match es[i]? with
  | some e => e
  | none => (0, 0)
theorem eAt_of {es : List (Int × Int)} {i : Nat} {e : Int × Int} (h : es[i]? = some e) : eAt es i = e := by unfold eAt; rw [h]
def endI (n : Nat) (a : Int) : Int := a % ((n : Int) + 1) - 1
def millTo (n : Nat) (e : Int × Int) : Int := if endI n e.1 = endI n e.2 then (endI n e.1 + 2) % ((n : Int) + 1) - 1 else endI n e.2
def massM (ms : List Int) (i : Nat) : Mass := ⟨mass1 ms i 0, mass1 ms i 1, mass1 ms i 2, mass1 ms i 3⟩
def millFlow (n : Nat) (K : Int) (ms : List Int) (i : Nat) (e : Int × Int) : FlowD := ⟨endI n e.1, millTo n e, bitB K i, if bitB K i = true then massM ms i else Mass.zero⟩
/-- The first k kinds of a flow's masses, added and taken away. -/
def restK (fr to : Int) (ms : List Int) (i k : Nat) (R : Nat → Int) (p : Nat) : Int :=
  R p + (if ((p / 4 : Nat) : Int) = to ∧ p % 4 < k then mass1 ms i (p % 4) else 0) - (if ((p / 4 : Nat) : Int) = fr ∧ p % 4 < k then mass1 ms i (p % 4) else 0)
def restR (n : Nat) (ms : List Int) (es : List (Int × Int)) : Nat → Nat → Int
  | 0 => fun _ => 0
  | i + 1 => restK (endI n (eAt es i).1) (millTo n (eAt es i)) ms i 4 (restR n ms es i)
theorem endI_range {n : Nat} {a : Int} : -1 ≤ endI n a ∧ endI n a < n := by
  unfold endI
  have h1 := Int.emod_nonneg a (show (n : Int) + 1 ≠ 0 by omega)
  have h2 := Int.emod_lt_of_pos a (show 0 < (n : Int) + 1 by omega)
  omega
theorem millTo_range {n : Nat} {e : Int × Int} : -1 ≤ millTo n e ∧ millTo n e < n := by
  unfold millTo
  split
  · have h1 := Int.emod_nonneg (endI n e.1 + 2) (show (n : Int) + 1 ≠ 0 by omega)
    have h2 := Int.emod_lt_of_pos (endI n e.1 + 2) (show 0 < (n : Int) + 1 by omega)
    omega
  · exact endI_range
theorem millTo_ne {n : Nat} {e : Int × Int} (hn : 1 ≤ n) : endI n e.1 ≠ millTo n e := by
  unfold millTo
  split
  · intro h
    have h0 := @endI_range n e.1
    by_cases hc : endI n e.1 + 2 < (n : Int) + 1
    · rw [Int.emod_eq_of_lt (by omega) hc] at h; omega
    · have hs : (endI n e.1 + 2) % ((n : Int) + 1) = endI n e.1 + 2 - ((n : Int) + 1) := by
        rw [← Int.sub_emod_right, Int.emod_eq_of_lt (by omega) (by omega)]
      rw [hs] at h; omega
  · assumption
theorem restK_le {fr to : Int} {ms : List Int} {i k : Nat} {R : Nat → Int} {B : Int} (hb : ∀ x ∈ ms, 0 ≤ x ∧ x < 256) (h : ∀ p, -B ≤ R p ∧ R p ≤ B) (p : Nat) : -(B + 256) ≤ restK fr to ms i k R p ∧ restK fr to ms i k R p ≤ B + 256 := by
  unfold restK
  have h1 := h p
  have h2 := mass1_le hb i (p % 4)
  split <;> split <;> omega
theorem restR_le {n : Nat} {ms : List Int} {es : List (Int × Int)} (hb : ∀ x ∈ ms, 0 ≤ x ∧ x < 256) : ∀ (i p : Nat), -(256 * (i : Int)) ≤ restR n ms es i p ∧ restR n ms es i p ≤ 256 * (i : Int)
  | 0, p => by unfold restR; omega
  | i + 1, p => by
    have := restK_le (fr := endI n (eAt es i).1) (to := millTo n (eAt es i)) (i := i) (k := 4) hb (restR_le (n := n) (es := es) hb i) p
    unfold restR
    push_cast
    omega
theorem restK_zero {fr to : Int} {ms : List Int} {i : Nat} {R : Nat → Int} : restK fr to ms i 0 R = R := by
  funext p
  unfold restK
  rw [if_neg (by omega), if_neg (by omega)]; omega
def restL (R : Nat → Int) : List Value := (List.range 16).map fun p => Value.int .i64 (R p)
theorem restL_get (R : Nat → Int) {p : Nat} (h : p < 16) : (restL R)[p]? = some (.int .i64 (R p)) := by unfold restL; rw [List.getElem?_map, List.getElem?_range h]; rfl
theorem restL_put (R : Nat → Int) {p : Nat} (h : p < 16) (w : Int) : putL p [.int .i64 w] (restL R) = some (restL fun q => if q = p then w else R q) := by
  rw [putL_set _ _ _ (by simp [restL]; omega)]
  unfold restL
  rw [range_setV (h := fun q => Value.int .i64 (if q = p then w else R q)) h (fun x _ hx => by rw [if_neg hx]) (by rw [if_pos rfl])]
def massL (ms : List Int) (i k : Nat) : List Value := (List.range 4).map fun q => Value.int .i64 (if q < k then mass1 ms i q else 0)
theorem massL_put (ms : List Int) (i : Nat) {k : Nat} (h : k < 4) : putL k [.int .i64 (mass1 ms i k)] (massL ms i k) = some (massL ms i (k + 1)) := by
  rw [putL_set _ _ _ (by simp [massL]; omega)]
  unfold massL
  rw [range_setV (h := fun q => Value.int .i64 (if q < k + 1 then mass1 ms i q else 0)) h (fun x _ hx => by
    by_cases e : x < k
    · rw [if_pos e, if_pos (by omega)]
    · rw [if_neg e, if_neg (by omega)]) (by rw [if_pos (by omega)])]
theorem massL_get (ms : List Int) (i : Nat) {k : Nat} (h : k < 4) : (massL ms i (k + 1))[k]? = some (.int .i64 (mass1 ms i k)) := by
  unfold massL; rw [List.getElem?_map, List.getElem?_range h]; simp
/-- What the sums become with one kind more. -/
theorem restK_to {fr to : Int} {ms : List Int} {i k : Nat} {R : Nat → Int} (hk : k < 4) (hto : 0 ≤ to) (hne : fr ≠ to) :
    (fun q => if q = to.toNat * 4 + k then restK fr to ms i k R (to.toNat * 4 + k) + mass1 ms i k else restK fr to ms i k R q) = fun q => restK fr to ms i k R q + (if ((q / 4 : Nat) : Int) = to ∧ q % 4 = k then mass1 ms i (q % 4) else 0) := by
  funext q
  by_cases e : q = to.toNat * 4 + k
  · subst e
    have h1 : (to.toNat * 4 + k) / 4 = to.toNat := by omega
    have h2 : (to.toNat * 4 + k) % 4 = k := by omega
    rw [if_pos rfl, h1, h2, if_pos ⟨by omega, rfl⟩]
  · rw [if_neg e, if_neg (by omega)]; omega
theorem restK_next {fr to : Int} {ms : List Int} {i k : Nat} {R : Nat → Int} (q : Nat) : restK fr to ms i (k + 1) R q = restK fr to ms i k R q + (if ((q / 4 : Nat) : Int) = to ∧ q % 4 = k then mass1 ms i (q % 4) else 0) - (if ((q / 4 : Nat) : Int) = fr ∧ q % 4 = k then mass1 ms i (q % 4) else 0) := by
  unfold restK
  have h1 : ∀ x : Int, (if ((q / 4 : Nat) : Int) = x ∧ q % 4 < k + 1 then mass1 ms i (q % 4) else 0) = (if ((q / 4 : Nat) : Int) = x ∧ q % 4 < k then mass1 ms i (q % 4) else 0) + (if ((q / 4 : Nat) : Int) = x ∧ q % 4 = k then mass1 ms i (q % 4) else 0) := fun x => by
    by_cases a : ((q / 4 : Nat) : Int) = x
    · by_cases b : q % 4 < k
      · rw [if_pos ⟨a, by omega⟩, if_pos ⟨a, b⟩, if_neg (by omega)]; omega
      · by_cases c : q % 4 = k
        · rw [if_pos ⟨a, by omega⟩, if_neg (fun h => b h.2), if_pos ⟨a, c⟩]; omega
        · rw [if_neg (fun h => by omega), if_neg (fun h => b h.2), if_neg (fun h => c h.2)]; rfl
    · rw [if_neg (fun h => a h.1), if_neg (fun h => a h.1), if_neg (fun h => a h.1)]; rfl
  rw [h1, h1]; omega
def rowM (R : Nat → Int) (u : Nat) : Mass := ⟨R (u * 4), R (u * 4 + 1), R (u * 4 + 2), R (u * 4 + 3)⟩
def restOk (R : Nat → Int) (u : Nat) (k : Nat) : Bool := (List.range k).all fun q => decide (0 ≤ R (u * 4 + q))
def millLast (K : Int) (R : Nat → Int) (u : Nat) : FlowD := ⟨u, -1, bitB K (6 + u) && restOk R u 4, if (bitB K (6 + u) && restOk R u 4) = true then rowM R u else Mass.zero⟩
def millN (es : List (Int × Int)) : Nat := min es.length 6
def millFs (n : Nat) (K : Int) (ms : List Int) (es : List (Int × Int)) : List FlowD :=
  ((List.range (millN es)).map fun i => millFlow n K ms i (eAt es i)) ++ (List.range n).map fun u => millLast K (restR n ms es (millN es)) u
def millReal (n : Nat) (ms : List Int) (es : List (Int × Int)) : List Mass := ((List.range (millN es)).map fun i => massM ms i) ++ (List.range n).map fun u => rowM (restR n ms es (millN es)) u
theorem OwnG.snoc {n N b k : Nat} {s' : St} {l : List (List Value)} {x : List Value} (hl : l.length = k) (hN : N ≤ b) (h3 : b < s'.next) (h : s'.heap.get b = some (.cells (l.flatten ++ x) (some n))) :
    OwnG n N s' (.slice (some ⟨b, 0, none⟩) (k + 1) (k + 1)) (l ++ [x]) := by
  refine .inr ⟨b, by simp [hl], by simp, hN, h3, ?_⟩
  rw [h]; simp
theorem OwnG.keep {n N : Nat} {s s' : St} {w : Value} {l : List (List Value)} (h : OwnG n N s w l) (h1 : s.next ≤ s'.next) (h2 : ∀ i, N ≤ i → i < s.next → s'.heap.get i = s.heap.get i) : OwnG n N s' w l := by
  rcases h with ⟨h, h'⟩ | ⟨b, h, h', hb1, hb2, hb3⟩
  · exact .inl ⟨h, h'⟩
  · exact .inr ⟨b, h, h', hb1, by omega, by rw [h2 b hb1 hb2]; exact hb3⟩
theorem newObj_alloc {T : Tab} {f : Fr} (t : TypeId) {z : Value} (h : T.zero t = some z) : Kern.newObj T (.alloc t) f = some (.cells z.cells.toList none) := by
  have hc : compOp T (.alloc t) = some (.new fun _ => some (.cells z.cells.toList none, ptrTo)) := by
    show ob (T.zero t) _ = _
    rw [h]; rfl
  unfold Kern.newObj
  rw [hc]; rfl
@[simp] theorem newObj_a82 {f : Fr} : Kern.newObj TT (.alloc 82) f = some (.cells [.int .i64 0, .int .i64 0, .bool false, .int .i64 0, .int .i64 0, .int .i64 0, .int .i64 0] none) := newObj_alloc 82 zero_82
end Go.Proofs.Ytjehpgflhgpalaa
namespace Go.Proofs.Ytjehpgflhgpalaa
open Go Kern
/-! Whole lists are appended -/
/-- Rows of cells in a block of their own, or none of them. -/
def OwnR (n N : Nat) (s : St) (w : Value) (l : List (List Value)) : Prop :=
  ∃ b, w = .slice (some ⟨b, 0, none⟩) l.length l.length ∧ N ≤ b ∧ b < s.next ∧ s.heap.get b = some (.cells l.flatten (if l = [] then none else some n))
theorem OwnR.keep {n N : Nat} {s s' : St} {w : Value} {l : List (List Value)} (h : OwnR n N s w l) (h1 : s.next ≤ s'.next) (h2 : ∀ i, N ≤ i → i < s.next → s'.heap.get i = s.heap.get i) : OwnR n N s' w l := by
  obtain ⟨b, h, hb1, hb2, hb3⟩ := h
  exact ⟨b, h, hb1, by omega, by rw [h2 b hb1 hb2]; exact hb3⟩
theorem flows_len (fs : List FlowD) : ∀ x ∈ fs.map FlowD.cs, x.length = 7 := fun x hx => by obtain ⟨f, _, rfl⟩ := List.mem_map.1 hx; rfl
@[simp] theorem binVal_nilE (t e : TypeId) (fl : Bool) (l c l' c' : Nat) : binVal TT (.slice e) t fl .eql (.slice none l c) (.slice none l' c') = some (.bool true) := rfl
@[simp] theorem binVal_someE (t e : TypeId) (fl : Bool) (a : Addr) (l c l' c' : Nat) : binVal TT (.slice e) t fl .eql (.slice (some a) l c) (.slice none l' c') = some (.bool false) := rfl
/-- A list of flows that was copied. -/
def Cloned (N : Nat) (s : St) (w : Value) (fs : List FlowD) : Prop := FlAt s w fs ∧ (fs ≠ [] → ∃ b, w = .slice (some ⟨b, 0, none⟩) fs.length fs.length ∧ N ≤ b ∧ b < s.next ∧ s.heap.get b = some (.cells (fs.map FlowD.cs).flatten (some 7)))
end Go.Proofs.Ytjehpgflhgpalaa
namespace Go.Proofs.Ytjehpgflhgpalaa
open Go Kern
theorem putL_app {α : Type} : ∀ {n : Nat} {vs l x : List α} (r : List α), putL n vs l = some x → putL n vs (l ++ r) = some (x ++ r)
  | 0, vs, l, x, r, h => by
    rw [putL_zero] at h ⊢
    induction vs generalizing l x with
    | nil => change some l = some x at h; cases h; rfl
    | cons v vs ih =>
      cases l with
      | nil => cases h
      | cons y l =>
        obtain ⟨t, h1, h2⟩ := ob_eq (show ob (overL vs l) (fun t => some (v :: t)) = some x from h)
        cases h2
        show ob (overL vs (l ++ r)) (fun t => some (v :: t)) = _
        rw [ih l t h1]; rfl
  | n + 1, vs, [], x, r, h => by cases h
  | n + 1, vs, y :: l, x, r, h => by
    obtain ⟨t, h1, h2⟩ := ob_eq (show ob (putL n vs l) (fun t => some (y :: t)) = some x from h)
    cases h2
    show ob (putL n vs (l ++ r)) (fun t => some (y :: t)) = _
    rw [putL_app r h1]; rfl
theorem putL_behind {α : Type} {n : Nat} {vs b x : List α} : ∀ {a : List α}, putL n vs b = some x → putL (a.length + n) vs (a ++ b) = some (a ++ x)
  | [], h => by simpa using h
  | y :: a, h => by
    rw [List.length_cons, show a.length + 1 + n = (a.length + n) + 1 by omega]
    show ob (putL (a.length + n) vs (a ++ b)) (fun t => some (y :: t)) = _
    rw [putL_behind h]; rfl
theorem flatG_putAt {g : Nat → List Value} {N : Nat} (hN : ∀ j, (g j).length = N) {vs x : List Value} {off i len : Nat} (hv : putL off vs (g i) = some x) (h : i < len) : putL (i * N + off) vs (flatG g len) = some (flatG (fun j => if j = i then x else g j) len) := by
  obtain ⟨r, h1, h2⟩ := flatG_cut g h
  rw [h1, h2 x, ← flatG_length hN i]
  exact putL_behind (putL_app r hv)
theorem map_getD {α β : Type} (f : α → β) (d : α) : ∀ l : List α, (List.range l.length).map (fun j => f (l.getD j d)) = l.map f := fun l => by
  apply List.ext_getElem?
  intro j
  rw [List.getElem?_map, List.getElem?_map]
  by_cases h : j < l.length
  · rw [List.getElem?_range h]; simp [List.getD, h]
  · rw [List.getElem?_eq_none (by simpa using h), List.getElem?_eq_none (by simpa using h)]; rfl
/-! What Verify says -/
def fd0 : FlowD := ⟨0, 0, false, Mass.zero⟩
/-- The flows with the masses of a balance, the first k of them. -/
def mixF (fs : List FlowD) (bs : List Mass) (k j : Nat) : FlowD := if j < k then ⟨(fs.getD j fd0).fr, (fs.getD j fd0).to, true, bs.getD j Mass.zero⟩ else fs.getD j fd0
def told (fs : List FlowD) (bs : List Mass) : List FlowD := (List.range fs.length).map (mixF fs bs fs.length)
theorem mix_zero (fs : List FlowD) (bs : List Mass) : flatG (fun j => (mixF fs bs 0 j).cs) fs.length = (fs.map FlowD.cs).flatten := by
  unfold flatG
  rw [← map_getD FlowD.cs fd0 fs]
  rfl
def unitE (gs : List FlowD) : Nat → Nat → Int × Int
  | 0, _ => (0, 0)
  | m + 1, k => if excM [(k : Int)] gs = Mass.zero then unitE gs m (k + 1) else (k, 19)
open Classical in
noncomputable def verE (u : Int) (fs : List FlowD) (bs : List Mass) : Int × Int :=
  if checkErr u fs ≠ 0 then (0, checkErr u fs) else if bs.length ≠ fs.length then (0, 3) else
    if ∃ b ∈ bs, eachB b (-1000000000000) 1000000000000 = false then (0, 2) else
      if ∃ j, j < fs.length ∧ (fs.getD j fd0).me = true ∧ bs.getD j Mass.zero ≠ (fs.getD j fd0).m then (0, 22) else unitE (told fs bs) u.toNat 0
abbrev BalAt (s : St) (v : Value) (bs : List Mass) : Prop := SlAt 4 s v (bs.map Mass.cs)
theorem BalAt.at {s : St} {a : Option Addr} {m c : Nat} {bs : List Mass} (h : BalAt s (.slice a m c) bs) {k : Nat} {x : Mass} (hk : bs[k]? = some x) :
    ∃ b off o cs g, a = some ⟨b, off, none⟩ ∧ b < s.next ∧ s.heap.get b = some o ∧ cellsOf o = some (cs, g) ∧ takeL 4 (cs.drop (off + k * 4)) = some x.cs :=
  SlAt.at h (by rw [List.getElem?_map, hk]; rfl)
theorem getD_at {α : Type} {l : List α} {k : Nat} {x d : α} (h : l[k]? = some x) : l.getD k d = x := by simp [List.getD, h]
/-- The flows that are told, as they come to be. -/
def TL (N : Nat) (s : St) (v : Value) (fs : List FlowD) (bs : List Mass) (k : Nat) : Prop :=
  (fs = [] ∧ FlAt s v []) ∨ ∃ β, v = .slice (some ⟨β, 0, none⟩) fs.length fs.length ∧ N ≤ β ∧ β < s.next ∧ s.heap.get β = some (.cells (flatG (fun j => (mixF fs bs k j).cs) fs.length) (some 7))
theorem TL.start {N : Nat} {s : St} {v : Value} {fs : List FlowD} (bs : List Mass) (h : Cloned N s v fs) : TL N s v fs bs 0 := by
  by_cases e : fs = []
  · subst e; exact .inl ⟨rfl, h.1⟩
  · obtain ⟨b, h1, h2, h3, h4⟩ := h.2 e
    exact .inr ⟨b, h1, h2, h3, by rw [mix_zero]; exact h4⟩
theorem TL.done {N : Nat} {s : St} {v : Value} {fs : List FlowD} {bs : List Mass} (h : TL N s v fs bs fs.length) : FlAt s v (told fs bs) := by
  rcases h with ⟨rfl, h⟩ | ⟨β, rfl, h1, h2, h3⟩
  · exact h
  · have := sl_of_flat (c := fs.length) h2 (N := 7) (g := fun j => (mixF fs bs fs.length j).cs) (fun j => rfl) h3
    unfold FlAt told
    rw [List.map_map]
    exact this
theorem TL.keep {N : Nat} {s s' : St} {v : Value} {fs : List FlowD} {bs : List Mass} {k : Nat} (h : TL N s v fs bs k) (hk : Keep s s') : TL N s' v fs bs k := by
  rcases h with ⟨e, h⟩ | ⟨β, e, h1, h2, h3⟩
  · exact .inl ⟨e, h.keep hk⟩
  · exact .inr ⟨β, e, h1, by have := hk.1; omega, by rw [hk.2 _ h2]; exact h3⟩
end Go.Proofs.Ytjehpgflhgpalaa
namespace Go.Proofs.Ytjehpgflhgpalaa
open Go Kern
theorem takeL_cons {α : Type} {n k : Nat} {l : List α} {a : α} {r : List α} (h : takeL (k + 1) (l.drop n) = some (a :: r)) : l[n]? = some a ∧ takeL k (l.drop (n + 1)) = some r := by
  have h0 := takeL_at h (i := 0) (by omega)
  rw [List.getElem?_drop] at h0
  refine ⟨by simpa using h0, ?_⟩
  cases hl : l.drop n with
  | nil => rw [hl] at h; cases h
  | cons x t =>
    rw [hl] at h
    obtain ⟨t', h1, h2⟩ := ob_eq (show ob (takeL k t) (fun t => some (x :: t)) = some (a :: r) from h)
    cases h2
    rw [← List.drop_drop, hl]
    exact h1
/-- The parts of a flow in memory. -/
theorem flow_parts {cs : List Value} {p : Nat} {a b c : Value} {r : List Value} (h : takeL 7 (cs.drop p) = some (a :: b :: c :: r)) : cs[p]? = some a ∧ cs[p + 1]? = some b ∧ cs[p + 2]? = some c ∧ takeL 4 (cs.drop (p + 3)) = some r := by
  obtain ⟨h1, h⟩ := takeL_cons h
  obtain ⟨h2, h⟩ := takeL_cons h
  obtain ⟨h3, h⟩ := takeL_cons h
  exact ⟨h1, h2, h3, h⟩
end Go.Proofs.Ytjehpgflhgpalaa
