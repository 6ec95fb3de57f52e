/-
  How a calculated memory stands for a true one. It holds of every program whose table of types and functions fits (TabOk).
-/
import Derived.Test.YteeamkdblcinnaaKernA
namespace Go.Proofs.Yteeamkdblcinnaa.Kern
open Go Go.RowKit

/-! ## Which block of the true world stands for a block of the calculated one -/
/-- Of a block that an append made: how many elements there is room for, and the cells of an element. -/
abbrev Cap := Option (Nat × Nat)
abbrev Ren := Nat → Option (Nat × Nat × Cap)
def capOk : Cap → Nat → Nat → Nat → Nat → Nat → Prop
  | none, _, o, o', c, c' => o' = o ∧ c' = c
  | some (K, z), l, o, o', c, c' => ∃ d, c + d ≤ K ∧ c' + d = K ∧ (o' = d * z ∨ c' = 0) ∧ (o' = o ∨ (l = 0 ∧ c = 0))
theorem capOk.le {x : Cap} {l o o' c c' : Nat} (h : capOk x l o o' c c') : c ≤ c' := by
  cases x with
  | none => exact Nat.le_of_eq h.2.symm
  | some p => obtain ⟨d, h1, h2, _, _⟩ := h; omega
theorem capOk.off {x : Cap} {l o o' c c' : Nat} (h : capOk x l o o' c c') (hl : 0 < l ∨ 0 < c) : o' = o := by
  cases x with
  | none => exact h.1
  | some p => obtain ⟨d, _, _, _, h4⟩ := h; omega
def exOk : Cap → Option Nat → Nat → Nat → Prop
  | none, none, _, _ => True
  | some (K, z), some z', s, n => z = z' ∧ s + K * z ≤ n
  | _, _, _, _ => False
def Ren.le (σ τ : Ren) : Prop := ∀ i r, σ i = some r → τ i = some r
theorem Ren.le_refl (σ : Ren) : σ.le σ := fun _ _ h => h
theorem Ren.le_trans {σ τ υ : Ren} (h : σ.le τ) (k : τ.le υ) : σ.le υ := fun i r e => k i r (h i r e)

mutual
inductive VRel (σ : Ren) : Value → Value → Prop
  | bool (b : Bool) : VRel σ (.bool b) (.bool b)
  | int (k : IntKind) (n : Int) : VRel σ (.int k n) (.int k n)
  | string (s : ByteArray) : VRel σ (.string s) (.string s)
  | ptrNil : VRel σ (.pointer none) (.pointer none)
  | ptr {i o b s : Nat} {x : Cap} (h : σ i = some (b, s, x)) : VRel σ (.pointer (some ⟨i, o, none⟩)) (.pointer (some ⟨b, s + o, none⟩))
  | sliceNil (l c : Nat) : VRel σ (.slice none l c) (.slice none l c)
  | slice {i o o' b s l c c' : Nat} {x : Cap} (h : σ i = some (b, s, x)) (hc : capOk x l o o' c c') :
      VRel σ (.slice (some ⟨i, o, none⟩) l c) (.slice (some ⟨b, s + o', none⟩) l c')
  | mapNil : VRel σ (.map none) (.map none)
  | map {i b s : Nat} {x : Cap} (h : σ i = some (b, s, x)) : VRel σ (.map (some i)) (.map (some b))
  | funcNil : VRel σ .nilFunc .nilFunc
  | ifaceNil : VRel σ .nilIface .nilIface
  | func (fn : Fn) (hfn : ∀ l, fn ≠ .yield l) {p q p' q' : Array Value} (hp : LRel σ p.toList p'.toList) (hq : LRel σ q.toList q'.toList) : VRel σ (.func fn p q) (.func fn p' q')
  | yield {l b s : Nat} {x : Cap} (h : σ l = some (b, s, x)) : VRel σ (.func (.yield l) #[] #[]) (.func (.yield b) #[] #[])
  | iface (t : TypeId) {v v' : Value} (h : VRel σ v v') : VRel σ (.iface t v) (.iface t v')
  | agg {p p' : Array Value} (h : LRel σ p.toList p'.toList) : VRel σ (.agg p) (.agg p')
  | tuple {p p' : Array Value} (h : LRel σ p.toList p'.toList) : VRel σ (.tuple p) (.tuple p')
inductive LRel (σ : Ren) : List Value → List Value → Prop
  | nil : LRel σ [] []
  | cons {v v' : Value} {l l' : List Value} (h : VRel σ v v') (t : LRel σ l l') : LRel σ (v :: l) (v' :: l')
end

mutual
theorem VRel.mono {σ τ : Ren} (hle : σ.le τ) : ∀ {v v' : Value}, VRel σ v v' → VRel τ v v'
  | _, _, .bool b => .bool b
  | _, _, .int k n => .int k n
  | _, _, .string s => .string s
  | _, _, .ptrNil => .ptrNil
  | _, _, .ptr h => .ptr (hle _ _ h)
  | _, _, .sliceNil l c => .sliceNil l c
  | _, _, .slice h hc => .slice (hle _ _ h) hc
  | _, _, .mapNil => .mapNil
  | _, _, .map h => .map (hle _ _ h)
  | _, _, .funcNil => .funcNil
  | _, _, .ifaceNil => .ifaceNil
  | _, _, .func fn hfn hp hq => .func fn hfn (LRel.mono hle hp) (LRel.mono hle hq)
  | _, _, .yield h => .yield (hle _ _ h)
  | _, _, .iface t h => .iface t (VRel.mono hle h)
  | _, _, .agg h => .agg (LRel.mono hle h)
  | _, _, .tuple h => .tuple (LRel.mono hle h)
theorem LRel.mono {σ τ : Ren} (hle : σ.le τ) : ∀ {v v' : List Value}, LRel σ v v' → LRel τ v v'
  | _, _, .nil => .nil
  | _, _, .cons h t => .cons (VRel.mono hle h) (LRel.mono hle t)
end

theorem LRel.length {σ : Ren} : ∀ {l l' : List Value}, LRel σ l l' → l'.length = l.length
  | _, _, .nil => rfl
  | _, _, .cons _ t => by simp [LRel.length t]
theorem LRel.get {σ : Ren} : ∀ {l l' : List Value}, LRel σ l l' → ∀ {i : Nat} {v : Value}, l[i]? = some v → ∃ v', l'[i]? = some v' ∧ VRel σ v v'
  | _, _, .nil, i, v, h => by simp at h
  | _, _, .cons h t, 0, v, e => by simp at e; subst e; exact ⟨_, rfl, h⟩
  | _, _, .cons h t, i + 1, v, e => by simp at e; obtain ⟨v', h1, h2⟩ := LRel.get t e; exact ⟨v', by simpa using h1, h2⟩
theorem LRel.append {σ : Ren} {a a' b b' : List Value} (h : LRel σ a a') (k : LRel σ b b') : LRel σ (a ++ b) (a' ++ b') := by
  induction a generalizing a' with
  | nil => cases h; exact k
  | cons v a ih => cases h with | cons h t => exact .cons h (ih t)
theorem LRel.take {σ : Ren} : ∀ (n : Nat) {a a' : List Value}, LRel σ a a' → LRel σ (a.take n) (a'.take n)
  | 0, _, _, _ => by simpa using .nil
  | n + 1, _, _, .nil => by simpa using .nil
  | n + 1, _, _, .cons h t => by simpa using .cons h (LRel.take n t)
theorem LRel.drop {σ : Ren} : ∀ (n : Nat) {a a' : List Value}, LRel σ a a' → LRel σ (a.drop n) (a'.drop n)
  | 0, _, _, h => by simpa using h
  | n + 1, _, _, .nil => by simpa using .nil
  | n + 1, _, _, .cons h t => by simpa using LRel.drop n t
theorem LRel.of_get {σ : Ren} : ∀ {l l' : List Value}, l'.length = l.length → (∀ (i : Nat) (v v' : Value), l[i]? = some v → l'[i]? = some v' → VRel σ v v') → LRel σ l l'
  | [], [], _, _ => .nil
  | [], _ :: _, h, _ => by simp at h
  | _ :: _, [], h, _ => by simp at h
  | v :: l, v' :: l', h, k => .cons (k 0 v v' rfl rfl) (LRel.of_get (by simpa using h) fun i a b ha hb => k (i + 1) a b (by simpa using ha) (by simpa using hb))

/-! Values without addresses stand for themselves. -/
theorem closed1_rel {σ : Ren} {v : Value} (h : closed1 v = true) : VRel σ v v := by
  unfold closed1 at h
  split at h
  · exact .bool _
  · exact .int _ _
  · exact .string _
  · exact .ptrNil
  · exact .sliceNil _ _
  · exact .mapNil
  · exact .funcNil
  · exact .ifaceNil
  · cases h
theorem closedL_rel {σ : Ren} : ∀ {l : List Value}, l.all closed1 = true → LRel σ l l
  | [], _ => .nil
  | v :: l, h => by simp at h; exact .cons (closed1_rel h.1) (closedL_rel (by simpa using h.2))
theorem closedV_rel {σ : Ren} {v : Value} (h : closedV v = true) : VRel σ v v := by
  unfold closedV at h
  split at h
  · exact .agg (closedL_rel h)
  · exact .tuple (closedL_rel h)
  · exact closed1_rel h
theorem undef_rel {σ : Ren} : VRel σ undef undef := .tuple .nil
theorem VRel.cells {σ : Ren} {v v' : Value} (h : VRel σ v v') : LRel σ v.cells.toList v'.cells.toList := by
  cases h with
  | agg h => exact h
  | bool b => exact .cons (.bool b) .nil
  | int k n => exact .cons (.int k n) .nil
  | string s => exact .cons (.string s) .nil
  | ptrNil => exact .cons .ptrNil .nil
  | ptr h => exact .cons (.ptr h) .nil
  | sliceNil l c => exact .cons (.sliceNil l c) .nil
  | slice h hc => exact .cons (.slice h hc) .nil
  | mapNil => exact .cons .mapNil .nil
  | map h => exact .cons (.map h) .nil
  | funcNil => exact .cons .funcNil .nil
  | ifaceNil => exact .cons .ifaceNil .nil
  | func fn hfn hp hq => exact .cons (.func fn hfn hp hq) .nil
  | yield h => exact .cons (.yield h) .nil
  | iface t h => exact .cons (.iface t h) .nil
  | tuple h => exact .cons (.tuple h) .nil

/-! ## Blocks -/
inductive ERel (σ : Ren) : List (Value × Value × Nat) → List MapEntry → Prop
  | nil : ERel σ [] []
  | cons {k v k' v' : Value} {b : Nat} {l : List (Value × Value × Nat)} {l' : List MapEntry} (hk : VRel σ k k') (hv : VRel σ v v') (t : ERel σ l l') :
      ERel σ ((k, v, b) :: l) ({ key := k', val := v', born := b } :: l')
theorem ERel.mono {σ τ : Ren} (hle : σ.le τ) : ∀ {l : List (Value × Value × Nat)} {l' : List MapEntry}, ERel σ l l' → ERel τ l l'
  | _, _, .nil => .nil
  | _, _, .cons hk hv t => .cons (hk.mono hle) (hv.mono hle) (ERel.mono hle t)

def loopState (r : ALoop) : LoopState := if r.ready then .ready else if r.jump.isSome then .done else .busy

structure LoopRel (σ : Ren) (r : ALoop) (R : Loop) : Prop where
  state : R.state = loopState r
  jump : R.pending = r.jump
  size : R.tmps.size = r.n
  tmps : ∀ t, VRel σ (Fr.get ⟨r.tmps, []⟩ t) (R.tmps.getD t undef)
  params : R.params.toList = r.params
  assign : R.assign = r.assign
  body : R.body = r.body
theorem LoopRel.mono {σ τ : Ren} (hle : σ.le τ) {r : ALoop} {R : Loop} (h : LoopRel σ r R) : LoopRel τ r R :=
  ⟨h.state, h.jump, h.size, fun t => (h.tmps t).mono hle, h.params, h.assign, h.body⟩

/-- What lies in a block of the true world, where the calculated one has an object (from a place on; with no more cells than are known). -/
inductive Real (σ : Ren) (s : Nat) (x : Cap) : AObj → Obj → Prop
  | cells {c : List Value} {g : Option Nat} {C : Array Value} {e : TypeId} (hg : exOk x g s C.size) (hs : s + c.length ≤ C.size) (h : LRel σ c ((C.toList.drop s).take c.length)) : Real σ s x (.cells c g) (.cells C e (0, 0))
  | map {es : List (Value × Value × Nat)} {E : Array MapEntry} {clock : Nat} (h : ERel σ es E.toList) : Real σ s x (.map es clock) (.map E clock)
  | deferred : Real σ s x (.deferred true) (.deferred (some []))
  | loop {r : ALoop} {R : Loop} (h : LoopRel σ r R) : Real σ s x (.loop r) (.loop R)
  | deadR (O : Obj) : Real σ s x .dead O
  | rom {c : List Value} {C : Array Value} {e : TypeId} {fr : Nat × Nat} (hx : x = none) (hs : s + c.length ≤ C.size) (h : LRel σ c ((C.toList.drop s).take c.length)) : Real σ s x (.rom c) (.cells C e fr)
theorem Real.mono {σ τ : Ren} (hle : σ.le τ) {s : Nat} {x : Cap} {o : AObj} {O : Obj} (h : Real σ s x o O) : Real τ s x o O := by
  cases h with
  | cells hg hs h => exact .cells hg hs (h.mono hle)
  | map h => exact .map (h.mono hle)
  | deferred => exact .deferred
  | loop h => exact .loop (h.mono hle)
  | deadR => exact .deadR _
  | rom hx hs h => exact .rom hx hs (h.mono hle)

structure WRel (N : Nat) (σ : Ren) (s : St) (w : World) : Prop where
  base : N ≤ w.heap.size
  lt : ∀ {i b sh x}, σ i = some (b, sh, x) → ((romAt s.heap i = false → N ≤ b) ∧ (romAt s.heap i = true → b < N)) ∧ b < w.heap.size
  fresh : ∀ {i}, s.next ≤ i → σ i = none
  real : ∀ {i b sh x o}, σ i = some (b, sh, x) → s.heap.get i = some o → ∃ O, w.heap[b]? = some O ∧ Real σ sh x o O
  inj : ∀ {i j b sh x sh' x' o o'}, σ i = some (b, sh, x) → σ j = some (b, sh', x') → s.heap.get i = some o → s.heap.get j = some o' → o ≠ .dead → o' ≠ .dead → isRom o = false → i = j

def Ren.add (σ : Ren) (i b sh : Nat) (x : Cap) : Ren := fun j => if j = i then some (b, sh, x) else σ j
theorem Ren.add_same {σ : Ren} {i b sh : Nat} {x : Cap} : σ.add i b sh x i = some (b, sh, x) := by simp [Ren.add]
theorem Ren.add_ne {σ : Ren} {i b sh j : Nat} {x : Cap} (h : j ≠ i) : σ.add i b sh x j = σ j := by simp [Ren.add, h]
theorem Ren.le_add {σ : Ren} {i b sh : Nat} {x : Cap} (h : σ i = none) : σ.le (σ.add i b sh x) := fun j r e => by
  by_cases hj : j = i
  · subst hj; rw [h] at e; cases e
  · rw [Ren.add_ne hj]; exact e

theorem push_eq {s s' : St} {o : AObj} (h : s.push o = some s') : isRom o = false ∧ s' = ⟨s.heap.set o (s.next + 1) s.next, s.next + 1⟩ := by
  obtain ⟨h1, h2⟩ := gd_eq h
  cases h2
  refine ⟨?_, rfl⟩
  cases hr : isRom o with
  | false => rfl
  | true => rw [hr] at h1; cases h1
theorem upd_eq {s s' : St} {i : Nat} {o : AObj} (h : s.upd i o = some s') : (romAt s.heap i = false ∧ isRom o = false) ∧ s' = ⟨s.heap.set o (i + 1) i, s.next⟩ := by
  obtain ⟨h1, h2⟩ := gd_eq h
  cases h2
  refine ⟨?_, rfl⟩
  cases hr : romAt s.heap i with
  | true => rw [hr] at h1; cases h1
  | false =>
    rw [hr] at h1
    cases hr2 : isRom o with
    | true => rw [hr2] at h1; cases h1
    | false => exact ⟨rfl, rfl⟩
theorem romAt_some {H : Tree AObj} {i : Nat} {o : AObj} (h : H.get i = some o) : romAt H i = isRom o := by unfold romAt; rw [h]
theorem romAt_set {H : Tree AObj} {i j : Nat} {o : AObj} (h1 : romAt H i = false) (h2 : isRom o = false) : romAt (H.set o (i + 1) i) j = romAt H j := by
  unfold romAt
  rw [Tree.get_setN]
  by_cases e : j = i
  · subst e; rw [if_pos rfl]; exact h2.trans h1.symm
  · rw [if_neg e]

/-- A new block that is still of no use in the true world. -/
theorem WRel.junk {N : Nat} {σ : Ren} {s s' : St} {w : World} {o : AObj} (h : WRel N σ s w) (hp : s.push o = some s') : WRel N σ s' w := by
  obtain ⟨h1, rfl⟩ := push_eq hp
  have hn : σ s.next = none := h.fresh (Nat.le_refl _)
  have key : ∀ {i r}, σ i = some r → (s.heap.set o (s.next + 1) s.next).get i = s.heap.get i := fun {i r} hi => by
    rw [Tree.get_setN, if_neg (fun e => by subst e; rw [hn] at hi; cases hi)]
  exact ⟨h.base, fun {i b sh x} hi => by have := h.lt hi; unfold romAt at this ⊢; rw [key hi]; exact this, fun hi => h.fresh (by simp at hi; omega), fun hi ho => h.real hi (by rw [← key hi]; exact ho), fun hi hj ho ho' => h.inj hi hj (by rw [← key hi]; exact ho) (by rw [← key hj]; exact ho')⟩

/-- The true world has a new block more. -/
theorem WRel.more {N : Nat} {σ : Ren} {s : St} {w : World} (h : WRel N σ s w) (O : Obj) : WRel N σ s (w.alloc O) :=
  ⟨by have := h.base; simp; omega, fun hi => by have := h.lt hi; exact ⟨this.1, by simp; omega⟩, h.fresh,
    fun hi ho => by obtain ⟨O', h1, h2⟩ := h.real hi ho; exact ⟨O', by rw [Below.heap_alloc _ _ _ (h.lt hi).2]; exact h1, h2⟩, h.inj⟩

/-- A block gets a number: it lies in the true world. -/
theorem WRel.name {N : Nat} {σ : Ren} {s : St} {w : World} {i b sh : Nat} {x : Cap} {o : AObj} {O : Obj} (h : WRel N σ s w) (hi : σ i = none) (hlt : i < s.next) (ho : s.heap.get i = some o) (hnr : isRom o = false)
    (hb : N ≤ b) (hO : w.heap[b]? = some O) (hr : Real (σ.add i b sh x) sh x o O) (hinj : ∀ j sh' x' o', σ j = some (b, sh', x') → s.heap.get j = some o' → o' = .dead) :
    WRel N (σ.add i b sh x) s w := by
  have hle := Ren.le_add (b := b) (sh := sh) (x := x) hi
  refine ⟨h.base, fun {j b' sh' x'} hj => ?_, fun {j} hj => ?_, fun {j b' sh' x' o'} hj ho' => ?_, fun {j k b' sh1 x1 sh2 x2 o1 o2} hj hk h1 h2 h3 h4 h5 => ?_⟩
  · by_cases e : j = i
    · subst e; rw [Ren.add_same] at hj; cases hj
      exact ⟨⟨fun _ => hb, fun hr => by rw [romAt_some ho, hnr] at hr; cases hr⟩, (Array.getElem?_eq_some_iff.1 hO).1⟩
    · rw [Ren.add_ne e] at hj; exact h.lt hj
  · rw [Ren.add_ne (by omega)]; exact h.fresh hj
  · by_cases e : j = i
    · subst e; rw [Ren.add_same] at hj; cases hj
      rw [ho] at ho'; cases ho'
      exact ⟨O, hO, hr⟩
    · rw [Ren.add_ne e] at hj
      obtain ⟨O', e1, e2⟩ := h.real hj ho'
      exact ⟨O', e1, e2.mono hle⟩
  · by_cases e : j = i
    · by_cases e' : k = i
      · rw [e, e']
      · subst e
        rw [Ren.add_same] at hj; rw [Ren.add_ne e'] at hk; cases hj
        exact absurd (hinj _ _ _ _ hk h2) h4
    · by_cases e' : k = i
      · subst e'
        rw [Ren.add_same] at hk; rw [Ren.add_ne e] at hj; cases hk
        exact absurd (hinj _ _ _ _ hj h1) h3
      · rw [Ren.add_ne e] at hj; rw [Ren.add_ne e'] at hk
        exact h.inj hj hk h1 h2 h3 h4 h5

/-- A new block, in both. -/
theorem WRel.push {N : Nat} {σ : Ren} {s s' : St} {w : World} {o : AObj} {O : Obj} {x : Cap} (h : WRel N σ s w) (hp : s.push o = some s')
    (hr : Real (σ.add s.next w.heap.size 0 x) 0 x o O) : WRel N (σ.add s.next w.heap.size 0 x) s' (w.alloc O) := by
  obtain ⟨h1, h2⟩ := push_eq hp
  refine WRel.name ((h.junk hp).more O) (h.fresh (Nat.le_refl _)) (by subst h2; simp) (o := o) (O := O) ?_ h1 h.base (World.alloc_heap_new w O) hr ?_
  · subst h2; simp [Tree.get_setN]
  · intro j sh' x' o' hj _
    have := (h.lt hj).2
    omega

/-- A block is changed, in both. -/
theorem WRel.upd {N : Nat} {σ : Ren} {s s' : St} {w : World} {i b sh : Nat} {x : Cap} {o0 o : AObj} {O : Obj} (h : WRel N σ s w) (hi : σ i = some (b, sh, x)) (h0 : s.heap.get i = some o0) (hd : o0 ≠ .dead)
    (hp : s.upd i o = some s') (hr : Real σ sh x o O) : WRel N σ s' (w.putObj b O) := by
  obtain ⟨h1, rfl⟩ := upd_eq hp
  have hN : N ≤ b := (h.lt hi).1.1 h1.1
  refine ⟨by simpa using h.base, fun hj => by rw [romAt_set h1.1 h1.2]; simpa using h.lt hj, h.fresh, fun {j b' sh' x' o'} hj ho' => ?_, fun {j k b' sh1 x1 sh2 x2 o1 o2} hj hk e1 e2 e3 e4 e5 => ?_⟩
  · rw [Tree.get_setN] at ho'
    by_cases e : j = i
    · subst e; rw [if_pos rfl] at ho'; cases ho'; rw [hi] at hj; cases hj
      exact ⟨O, World.putObj_heap_same (h.lt hi).2, hr⟩
    · rw [if_neg e] at ho'
      obtain ⟨O', k1, k2⟩ := h.real hj ho'
      by_cases ed : o' = .dead
      · subst ed
        have hb := (h.lt hj).2
        exact ⟨(w.putObj b O).heap[b']'(by simpa using hb), by simp, .deadR _⟩
      · refine ⟨O', ?_, k2⟩
        rw [World.putObj_heap_other]; exact k1
        intro eb; subst eb
        refine e (h.inj hj hi ho' h0 ed hd ?_)
        cases hr : isRom o' with
        | false => rfl
        | true => exact absurd ((h.lt hj).1.2 (by rw [romAt_some ho', hr])) (by omega)
  · rw [Tree.get_setN] at e1 e2
    have q : ∀ {j o'}, (if j = i then some o else s.heap.get j) = some o' → o' ≠ .dead → ∃ o'', s.heap.get j = some o'' ∧ o'' ≠ .dead ∧ (isRom o' = false → isRom o'' = false) := fun {j o'} hh hd' => by
      by_cases e : j = i
      · subst e; exact ⟨o0, h0, hd, fun _ => by rw [← romAt_some h0]; exact h1.1⟩
      · rw [if_neg e] at hh; exact ⟨o', hh, hd', id⟩
    obtain ⟨a1, b1, c1, d1⟩ := q e1 e3
    obtain ⟨a2, b2, c2, d2⟩ := q e2 e4
    exact h.inj hj hk b1 b2 c1 c2 (d1 e5)

/-- A block is given up. -/
theorem WRel.kill {N : Nat} {σ : Ren} {s s' : St} {w : World} {i : Nat} (h : WRel N σ s w) (hp : s.upd i .dead = some s') : WRel N σ s' w := by
  obtain ⟨h1, rfl⟩ := upd_eq hp
  refine ⟨h.base, fun hj => by rw [romAt_set h1.1 h1.2]; exact h.lt hj, h.fresh, fun {j b' sh' x' o'} hj ho' => ?_, fun {j k b' sh1 x1 sh2 x2 o1 o2} hj hk e1 e2 e3 e4 e5 => ?_⟩
  · rw [Tree.get_setN] at ho'
    by_cases e : j = i
    · subst e; rw [if_pos rfl] at ho'; cases ho'
      have hb := (h.lt hj).2
      exact ⟨w.heap[b']'hb, by simp, .deadR _⟩
    · rw [if_neg e] at ho'; exact h.real hj ho'
  · rw [Tree.get_setN] at e1 e2
    by_cases ej : j = i
    · rw [if_pos ej] at e1; cases e1; exact absurd rfl e3
    · by_cases ek : k = i
      · rw [if_pos ek] at e2; cases e2; exact absurd rfl e4
      · rw [if_neg ej] at e1; rw [if_neg ek] at e2; exact h.inj hj hk e1 e2 e3 e4 e5

theorem WRel.drew {N : Nat} {σ : Ren} {s : St} {w : World} (h : WRel N σ s w) (k : Nat) : WRel N σ s { w with drawn := k } := ⟨h.base, h.lt, h.fresh, h.real, h.inj⟩
end Go.Proofs.Yteeamkdblcinnaa.Kern
