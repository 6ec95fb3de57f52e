/-
  What is calculated true of slices of the world holds of the call. It holds with no condition but those that are written in each theorem.
-/
import Derived.Test.YtifkpaomhnlahaaA14
import Derived.Test.YtifkpaomhnlahaaWorks
namespace Go.Proofs.Ytifkpaomhnlahaa
open Go Kern RowKit
/-- A slice of the world whose elements are known, cell by cell. -/
def SlW (W : World) (n : Nat) (v : Value) (l : List (List Value)) : Prop :=
  (l = [] ∧ v = .slice none 0 0) ∨ ∃ (b off cap : Nat) (C : Array Value) (e : TypeId) (fr : Nat × Nat), v = .slice (some ⟨b, off, none⟩) l.length cap ∧ W.heap[b]? = some (.cells C e fr) ∧
    (l ≠ [] → off + l.flatten.length ≤ C.size ∧ (C.toList.drop off).take l.flatten.length = l.flatten)
theorem romAt_pushed {s : St} {o : AObj} {i : Nat} (h : i ≠ s.next) : romAt (s.pushed o).heap i = romAt s.heap i := by
  unfold romAt; rw [get_pushed_old _ _ _ h]
theorem WRel_rom {N : Nat} {σ : Ren} {s : St} {w : World} (hw : WRel N σ s w) {b sh : Nat} {c : List Value} {C : Array Value} {e : TypeId} {fr : Nat × Nat} (hb : w.heap[b]? = some (.cells C e fr)) (hN : b < N) (hs : sh + c.length ≤ C.size)
    (h : LRel σ c ((C.toList.drop sh).take c.length)) : WRel N (σ.add s.next b sh none) (s.pushed (.rom c)) w := by
  have hle := Ren.le_add (b := b) (sh := sh) (x := none) (hw.fresh (Nat.le_refl s.next))
  have hlt : b < w.heap.size := (Array.getElem?_eq_some_iff.1 hb).1
  refine ⟨hw.base, ?_, ?_, ?_, ?_⟩
  · intro i b' sh' x' hi
    by_cases ei : i = s.next
    · subst ei
      rw [Ren.add_same] at hi; cases hi
      have : romAt (s.pushed (.rom c)).heap s.next = true := by unfold romAt; rw [get_pushed_new]; rfl
      exact ⟨⟨fun k => (by rw [this] at k; cases k), fun _ => hN⟩, hlt⟩
    · rw [Ren.add_ne ei] at hi
      rw [romAt_pushed ei]
      exact hw.lt hi
  · intro i hi
    rw [Ren.add_ne (by have : s.next + 1 ≤ i := hi; omega)]
    exact hw.fresh (by have : s.next + 1 ≤ i := hi; omega)
  · intro i b' sh' x' o hi ho
    by_cases ei : i = s.next
    · subst ei
      rw [Ren.add_same] at hi; cases hi
      rw [get_pushed_new] at ho; cases ho
      exact ⟨_, hb, .rom rfl hs (h.mono hle)⟩
    · rw [Ren.add_ne ei] at hi
      rw [get_pushed_old _ _ _ ei] at ho
      obtain ⟨O, h1, h2⟩ := hw.real hi ho
      exact ⟨O, h1, h2.mono hle⟩
  · intro i j b' sh1 x1 sh2 x2 o1 o2 hi hj h1 h2 d1 d2 hr
    by_cases ei : i = s.next
    · subst ei
      rw [get_pushed_new] at h1; cases h1; cases hr
    · rw [Ren.add_ne ei] at hi
      rw [get_pushed_old _ _ _ ei] at h1
      by_cases ej : j = s.next
      · subst ej
        rw [Ren.add_same] at hj; cases hj
        have : romAt s.heap i = false := by unfold romAt; rw [h1]; exact hr
        exact absurd ((hw.lt hi).1.1 this) (by omega)
      · rw [Ren.add_ne ej] at hj
        rw [get_pushed_old _ _ _ ej] at h2
        exact hw.inj hi hj h1 h2 d1 d2 hr
/-- A slice of the world gets a read-only block of the calculation. -/
theorem attach {N : Nat} {σ : Ren} {s : St} {w : World} (hw : WRel N σ s w) (hN : N = w.heap.size) {n : Nat} {v : Value} {l : List (List Value)} (h : SlW w n v l) (hl : ∀ x ∈ l, x.length = n) (hc : l.flatten.all closed1 = true) :
    ∃ τ s' v', σ.le τ ∧ WRel N τ s' w ∧ VRel τ v' v ∧ SlAt n s' v' l ∧ Keep s s' := by
  rcases h with ⟨rfl, rfl⟩ | ⟨b, off, cap, C, e, fr, rfl, hb, hf⟩
  · exact ⟨σ, s, .slice none 0 0, σ.le_refl, hw, .sliceNil _ _, .nil 0, Keep.refl _⟩
  have hlt : b < w.heap.size := (Array.getElem?_eq_some_iff.1 hb).1
  by_cases he : l = []
  · subst he
    have hw2 := WRel_rom hw (sh := 0) (c := []) hb (by omega) (by simp) (by simpa using LRel.nil)
    refine ⟨_, _, .slice (some ⟨s.next, off, none⟩) 0 cap, Ren.le_add (hw.fresh (Nat.le_refl _)), hw2, ?_, ?_, (Keep.refl s).pushed _⟩
    · have := VRel.slice (σ := σ.add s.next b 0 none) (i := s.next) (o := off) (o' := off) (b := b) (s := 0) (l := 0) (c := cap) (c' := cap) (x := none) Ren.add_same ⟨rfl, rfl⟩
      rw [Nat.zero_add] at this
      exact this
    · exact SlAt.mk (l := []) (Nat.lt_succ_self _) (get_pushed_new _ _) rfl (fun i e h => by simp at h)
  · obtain ⟨h1, h2⟩ := hf he
    have hw2 := WRel_rom hw (sh := off) (c := l.flatten) hb (by omega) h1 (by rw [h2]; exact closedL_rel hc)
    refine ⟨_, _, .slice (some ⟨s.next, 0, none⟩) l.length cap, Ren.le_add (hw.fresh (Nat.le_refl _)), hw2, ?_, ?_, (Keep.refl s).pushed _⟩
    · exact VRel.slice (σ := σ.add s.next b off none) (i := s.next) (o := 0) (o' := 0) (b := b) (s := off) (l := l.length) (c := cap) (c' := cap) (x := none) Ren.add_same ⟨rfl, rfl⟩
    · exact SlAt.mk (Nat.lt_succ_self _) (get_pushed_new _ _) rfl (fun i e h => by rw [Nat.zero_add]; exact drop_flat hl h)
theorem stubOk : StubOk Try.prog TT :=
  ⟨fun {g} h => by cases h; exact ⟨Try.f13, by kernel_rfl, by kernel_rfl, rfl⟩, fun {g} h w => by cases h; exact works_calls w⟩
/-- What the calculation finds true holds of the call in the world. -/
theorem calls_of_ev {g : FuncId} {args : List Value} {s : St} (h : Ev TT g args s fun r _ => r = .bool true) {N : Nat} {σ : Ren} {w : World} (hw : WRel N σ s w) (hN : N = w.heap.size) {args' : Array Value} (ha : LRel σ args args'.toList) :
    Calls Try.prog g args' w fun e w' => e = .returned (.bool true) ∧ Below w.heap.size w w' := by
  obtain ⟨m, ⟨v, s'⟩, h1, h2⟩ := h
  have h2' : v = .bool true := h2
  subst h2'
  refine ((run_ok tabOk rfl stubOk m).call (h1 m (Nat.le_refl _)) hw ha).mono fun e w' he => ?_
  obtain ⟨τ, v', rfl, hx, _, hv⟩ := he
  rw [hv.of_bool]
  exact ⟨rfl, hN ▸ hx.below⟩
end Go.Proofs.Ytifkpaomhnlahaa
