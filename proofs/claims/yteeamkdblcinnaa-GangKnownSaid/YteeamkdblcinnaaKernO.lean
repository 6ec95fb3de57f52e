/-
  Scopes, loops, marks and results. It holds of every program whose table of types and functions fits (TabOk).
-/
import Derived.Test.YteeamkdblcinnaaKernP
import Derived.RangeFuncLeaves
import Derived.RangeFuncRecord
namespace Go.Proofs.Yteeamkdblcinnaa.Kern
open Go Go.RowKit

theorem Tree.get_ofList {α : Type} : ∀ (l : List α) (k : Nat) (t : Tree α) (i : Nat), (Tree.ofList l k t).get i = if k ≤ i ∧ i < k + l.length then l[i - k]? else t.get i
  | [], k, t, i => by
    have : ¬ (k ≤ i ∧ i < k + ([] : List α).length) := by simp
    rw [if_neg this]; rfl
  | x :: l, k, t, i => by
    simp only [List.length_cons]
    change (Tree.ofList l (k + 1) (t.set x (k + 1) k)).get i = _
    rw [Tree.get_ofList l (k + 1) _ i, Tree.get_setN]
    by_cases h1 : i = k
    · subst h1
      rw [if_neg (by omega : ¬ (i + 1 ≤ i ∧ i < i + 1 + l.length)), if_pos rfl, if_pos (by simp)]
      simp
    · by_cases h2 : k ≤ i ∧ i < k + (l.length + 1)
      · have e : i - k = (i - (k + 1)) + 1 := by omega
        rw [if_pos (by omega : k + 1 ≤ i ∧ i < k + 1 + l.length), if_pos (by simpa using h2), e]
        simp
      · rw [if_neg (by omega), if_neg h1, if_neg (by simpa using h2)]
theorem Tree.get_list {α : Type} (l : List α) (i : Nat) (_ : l.length ≤ top) : (Tree.ofList l 0 .leaf).get i = l[i]? := by
  rw [Tree.get_ofList l 0 .leaf i]
  by_cases hi : i < l.length
  · rw [if_pos (by omega)]; simp
  · rw [if_neg (by omega), Tree.get_leaf]; simp; omega

section
variable {F : Fence} {n : Nat} {P : Program} {Q : Exit → Act → World → Prop} {a : Act} {w : World}

/-- A loop, at the start of a round. -/
def againIn (F : Fence) (n : Nat) (P : Program) (c : Code) (Q : Exit → Act → World → Prop) (a : Act) (w : World) : Prop :=
  ∀ (b : Frame) (k : List Item) (cs : List Frame), b.roundOf = F.round → F.fn b.fn → F.room (cs.length + 1 + n) →
    ∃ e a' w', Q e a' w' ∧ ArrivesIn (Machine.fenced P F) P (lone (b.atR a (.code c :: .inLoop c :: k)) cs w) b k cs e a' w'
theorem loop_of_again {c : Code} (h : againIn F n P c Q a w) : (Code.loop c).wpIn F n P Q a w := by
  intro b k cs hro hb hr
  obtain ⟨e, a', w', hq, harr⟩ := h b k cs hro hb hr
  exact ⟨e, a', w', hq, .of_steps (.one (fenced_calm hb hr rfl) stepR_loop) harr⟩
theorem again_of_round {c : Code} (h : c.wpIn F n P (Exit.then (againIn F n P c Q) Q) a w) : againIn F n P c Q a w := by
  intro b k cs hro hb hr
  obtain ⟨e, a₁, w₁, hq, harr⟩ := h b (.inLoop c :: k) cs hro hb hr
  cases e with
  | normal =>
    obtain ⟨e₂, a₂, w₂, hq₂, harr₂⟩ := hq b k cs hro hb hr
    exact ⟨e₂, a₂, w₂, hq₂, .of_steps (StepsIn.trans harr (.one (fenced_calm hb hr rfl) stepR_inLoop)) harr₂⟩
  | exit id => exact ⟨_, a₁, w₁, hq, .pass (x := .inLoop c) rfl (fun _ _ => .inl (by simp)) harr⟩
  | goto l => exact ⟨_, a₁, w₁, hq, .pass (x := .inLoop c) rfl (fun _ _ => .inl (by simp)) harr⟩
  | ret => exact ⟨_, a₁, w₁, hq, .pass (x := .inLoop c) rfl (fun _ _ => .inl (by simp)) harr⟩
  | panic ch => exact ⟨_, a₁, w₁, hq, .pass (x := .inLoop c) rfl (fun _ _ => .inl (by simp)) harr⟩
  | outgrown => exact ⟨_, a₁, w₁, hq, .pass (x := .inLoop c) rfl (fun _ _ => .inl (by simp)) harr⟩

theorem stepR_scope {b : Frame} {k : List Item} {cs : List Frame} {c : Code} : step P (lone (b.atR a (.code (.scope c) :: k)) cs w) = .next (lone (b.atR a (.code c :: .inScope c :: k)) cs w) :=
  step_lone_go (by simp [stepG, stepG.exec, Frame.atR])
theorem stepR_inScope {b : Frame} {k : List Item} {cs : List Frame} {c : Code} : step P (lone (b.atR a (.inScope c :: k)) cs w) = .next (lone (b.atR a k) cs w) :=
  step_lone_go (by simp [stepG, stepG.exec, Frame.atR])
def noGoto (Q : Exit → Act → World → Prop) : Exit → Act → World → Prop
  | .goto _, _, _ => False
  | e, a, w => Q e a w
theorem wpIn_scope {c : Code} (h : c.wpIn F n P (noGoto Q) a w) : (Code.scope c).wpIn F n P Q a w := by
  intro b k cs hro hb hr
  have h0 : (lone (b.atR a (.code (.scope c) :: k)) cs w).fenced P F := fenced_calm hb hr rfl
  obtain ⟨e, a₁, w₁, hq, harr⟩ := h b (.inScope c :: k) cs hro hb hr
  cases e with
  | normal => exact ⟨.normal, a₁, w₁, hq, .head h0 stepR_scope (StepsIn.trans harr (.one (fenced_calm hb hr rfl) stepR_inScope))⟩
  | exit id =>
    have hx : exitTo id (.inScope c :: k) = exitTo id k := by simp [exitTo]
    exact ⟨.exit id, a₁, w₁, hq, fun k' hk => .head h0 stepR_scope (harr.1 k' (by rw [hx]; exact hk)),
      fun hr' hk => let ⟨k₁, h1, h2⟩ := harr.2 hr' (by rw [hx]; exact hk); ⟨k₁, h1, .head h0 stepR_scope h2⟩⟩
  | goto l => exact hq.elim
  | ret => exact ⟨_, a₁, w₁, hq, .of_steps (.one h0 stepR_scope) harr⟩
  | panic ch => exact ⟨_, a₁, w₁, hq, .of_steps (.one h0 stepR_scope) harr⟩
  | outgrown => exact ⟨_, a₁, w₁, hq, .of_steps (.one h0 stepR_scope) harr⟩
end

section
variable {P : Program} {T : Tab}

/-- The marks are taken up. -/
theorem leave_ok {F : Fence} {m N : Nat} {fn : Func} {tmps : Array Value} {R : Ending → World → Prop} {σ : Ren} : ∀ {ms : List Nat} {ds : List Deferred} {s s' : St} {w : World}, MarkRel σ ms ds → leaveF ms s = some s' → WRel N σ s w →
    (∀ w', Ext N σ σ s s' w w' → WRel N σ s' w' → LeavesIn F m P fn tmps R [] .returning w') → LeavesInM F m P fn tmps R ds .returning w
  | [], _, s, s', w, .nil, h, hw, hQ => by
    change some s = some s' at h
    cases h
    exact hQ w Ext.refl hw
  | k :: ms, _, s, s', w, .cons (b := b) (ds := ds) hs ht, h, hw, hQ => by
    obtain ⟨o, h1, h2⟩ := ob_eq (show ob (s.heap.get k) (fun o => gd (isLive o) (ob (s.upd k .dead) (leaveF ms))) = some s' from h)
    obtain ⟨h3, h4⟩ := gd_eq h2
    obtain ⟨s1, h5, h6⟩ := ob_eq h4
    have ho : o = .deferred true := by
      cases o <;> simp [isLive] at h3
      rename_i x; subst h3; rfl
    subst ho
    obtain ⟨O, k1, k2⟩ := hw.real hs h1
    cases k2
    refine ⟨by simp, .inl ⟨b, _, rfl, run_takeDeferred k1, ?_⟩⟩
    refine leave_ok ht h6 (hw.upd (O := .deferred none) hs h1 (by simp) h5 (.deadR _)) ?_
    intro w' hx hw'
    exact hQ w' ((Ext.upd hw hs h5).trans hx) hw'

theorem resV_ok (hT : TabOk P T) {N n : Nat} {σ : Ren} {s : St} {w : World} {f : Fr} {a : Act} (hf : FRel σ n f a) (hw : WRel N σ s w) {r : ResultVar} {v : Value} (h : resV T f s r = some v) :
    ∃ v', (match r with | .tmp t => pure (a.tmps.getD t undef) | .cell c t => do loadVar t (← asAddr (a.tmps.getD c undef)) : Sem Value).run P w = .ok v' w ∧ VRel σ v v' := by
  cases r with
  | tmp t =>
    have h' : some (f.get t) = some v := h
    cases h'
    exact ⟨a.tmps.getD t undef, rfl, hf.tmps t⟩
  | cell c t =>
    obtain ⟨m, h1, h2⟩ := ob_eq (show ob (aggN T t) (fun m => vLoad m (.tmp c) f.eval s.heap) = some v from h)
    let o : Oper := { (default : Oper) with op := .load t (.tmp c) }
    obtain ⟨v', k1, k2⟩ := load_ok (o := o) (P := P) rfl h1 hT hw (ρ' := a.eval) (fun x hx => by
      have : x = .tmp c := by simpa [o, Op.operands] using hx
      subst this
      exact hf.tmps c) h2
    refine ⟨v', ?_, k2⟩
    obtain ⟨p, h3, _⟩ := ob_eq h2
    obtain ⟨b, sh, x, _, ha⟩ := (hf.tmps c).of_addr h3
    simp only [ha]
    have ha' : a.eval (.tmp c) = .pointer (some ⟨b, sh + p.2, none⟩) := ha
    simp [o, execOp, Instr.loadAt, Instr.sureAddr, ha'] at k1
    simp [asAddr]
    cases hl : (loadVar t ⟨b, sh + p.2, none⟩).run P w <;> simp_all
theorem resF_ok (hT : TabOk P T) {N n : Nat} {σ : Ren} {s : St} {w : World} {f : Fr} {a : Act} (hf : FRel σ n f a) (hw : WRel N σ s w) : ∀ {l : List ResultVar} {vs : List Value}, resF T f s l = some vs →
    ∃ vs', (l.mapM (fun r => (match r with | .tmp t => pure (a.tmps.getD t undef) | .cell c t => do loadVar t (← asAddr (a.tmps.getD c undef)) : Sem Value))).run P w = .ok vs' w ∧ LRel σ vs vs'
  | [], vs, h => by
    have h' : some [] = some vs := h
    cases h'
    exact ⟨[], by simp, .nil⟩
  | r :: l, vs, h => by
    obtain ⟨v, h1, h2⟩ := ob_eq (show ob (resV T f s r) (fun v => ob (resF T f s l) fun vs => some (v :: vs)) = some vs from h)
    obtain ⟨vs1, h3, h4⟩ := ob_eq h2
    cases h4
    obtain ⟨v', k1, k2⟩ := resV_ok hT hf hw h1
    obtain ⟨vs', k3, k4⟩ := resF_ok hT hf hw h3
    refine ⟨v' :: vs', ?_, .cons k2 k4⟩
    simp only [List.mapM_cons, Sem.run_bind, k1, andThen_ok', k3, Sem.run_pure]
theorem tupled_rel {σ : Ren} {vs vs' : List Value} (h : LRel σ vs vs') : VRel σ (tupled vs) (if h : vs'.toArray.size = 1 then vs'.toArray[0] else .tuple vs'.toArray) := by
  cases h with
  | nil => exact .tuple .nil
  | cons h t =>
    cases t with
    | nil => simpa [tupled] using h
    | cons h2 t2 =>
      have : ∀ (a b : Value) (c : List Value), tupled (a :: b :: c) = .tuple ⟨a :: b :: c⟩ := fun _ _ _ => rfl
      rw [this]
      simp
      exact .tuple (.cons h (.cons h2 t2))
theorem results_ok (hT : TabOk P T) {N n : Nat} {σ : Ren} {s : St} {w : World} {f : Fr} {a : Act} (hf : FRel σ n f a) (hw : WRel N σ s w) {fn : Func} {vs : List Value} (h : resF T f s fn.results.toList = some vs) :
    ∃ v', (results fn a.tmps).run P w = .ok v' w ∧ VRel σ (tupled vs) v' := by
  obtain ⟨vs', h1, h2⟩ := resF_ok hT hf hw h
  refine ⟨_, ?_, tupled_rel h2⟩
  unfold results
  rw [Sem.run_bind]
  have e := mapM_arr _ _ _ h1
  refine (congrArg (fun x => Result.andThen x _) (?_ : _ = Result.ok vs'.toArray w)).trans rfl
  refine Eq.trans (congrArg (fun g => Sem.run P (Array.mapM g fn.results) w) (funext fun r => ?_)) e
  cases r <;> rfl
end
end Go.Proofs.Yteeamkdblcinnaa.Kern
