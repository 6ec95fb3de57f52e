/-
  Loads, moves and picks are calculated rightly. It holds of every program whose table of types and functions fits (TabOk).
-/
import Derived.Test.YteeamkdblcinnaaKernC
namespace Go.Proofs.Yteeamkdblcinnaa.Kern
open Go Go.RowKit

/-- What is asked of an operation's value: the true one runs, leaves the world, and yields what stands for the calculated one. -/
def PureOk (P : Program) (o : Oper) (g : Env → Tree AObj → Option Value) : Prop :=
  ∀ {N : Nat} {σ : Ren} {s : St} {w : World} {ρ ρ' : Env} {v : Value}, WRel N σ s w → (∀ x ∈ o.op.operands.toList, VRel σ (ρ x) (ρ' x)) → g ρ s.heap = some v →
    ∃ v', (execOp ρ' o).run P w = .ok (.value v') w ∧ VRel σ v v'

section
variable {P : Program} {T : Tab} (hT : TabOk P T) {o : Oper}

theorem load_ok {t : TypeId} {a : Operand} {m : Option Nat} (ho : o.op = .load t a) (hm : aggN T t = some m) : TabOk P T → PureOk P o (vLoad m a) := by
  intro hT N σ s w ρ ρ' v hw hi h
  obtain ⟨p, h1, h2⟩ := ob_eq h
  obtain ⟨c, h3, h4⟩ := ob_eq h2
  obtain ⟨b, sh, x, hs, ha⟩ := (hi a (by simp [ho, Op.operands])).of_addr h1
  obtain ⟨C, e, fr, ⟨-, hb, hl, hr⟩, -⟩ := hw.cells hs h3
  have hm' := aggN_eq hm
  have hget : ∀ {i : Nat} {u : Value}, c.1[i]? = some u → ∃ u', C[sh + i]? = some u' ∧ VRel σ u u' := fun {i u} hu => by
    obtain ⟨u', k1, k2⟩ := hr.get hu
    have hlt : i < c.1.length := (List.getElem?_eq_some_iff.1 hu).1
    refine ⟨u', ?_, k2⟩
    rw [List.getElem?_take, if_pos hlt, List.getElem?_drop] at k1
    simpa using k1
  cases m with
  | none =>
    have h' := partN_none h4
    obtain ⟨u', k1, k2⟩ := hget h'
    have hc := cell_at hb k1
    refine ⟨u', ?_, k2⟩
    simp [execOp, ho, Instr.loadAt, Instr.sureAddr, ha, loadVar, agg_run hT hm']
    rw [Nat.add_comm] at hc
    simp [Nat.add_comm sh p.2, hc]
  | some n =>
    obtain ⟨hag, hsz⟩ := hm'
    have hcs : ∀ l : List Value, (l = (c.1.drop p.2).take n) → n ≤ (c.1.drop p.2).length → ∃ l', (loadCells ⟨b, sh + p.2, none⟩ n).run P w = .ok l' w ∧ LRel σ l l'.toList := by
      intro l hl' hn
      subst hl'
      refine ⟨((C.toList.drop (sh + p.2)).take n).toArray, ?_, ?_⟩
      · have hlen : ((C.toList.drop (sh + p.2)).take n).length = n := by simp at hn ⊢; omega
        have := run_loadCells_list (P := P) (w := w) ⟨b, sh + p.2, none⟩ ((C.toList.drop (sh + p.2)).take n) (fun j u hu => by
          rw [addr_add]
          refine cell_at hb ?_
          rw [List.getElem?_take] at hu
          split at hu
          · rw [List.getElem?_drop] at hu; simpa using hu
          · cases hu)
        rw [hlen] at this
        exact this
      · refine LRel.of_get (by simp at hn ⊢; omega) fun i u u' hu hu' => ?_
        rw [List.getElem?_take] at hu
        split at hu
        · rename_i hin
          rw [List.getElem?_drop] at hu
          obtain ⟨z, z1, z2⟩ := hget hu
          simp only [List.getElem?_take, hin, if_true, List.getElem?_drop] at hu'
          rw [← Nat.add_assoc] at z1
          have : C.toList[sh + p.2 + i]? = some z := by simpa using z1
          rw [this] at hu'
          cases hu'
          exact z2
        · cases hu
    change aggV (takeL n (dropL p.2 c.1)) = some v at h4
    obtain ⟨l, h5, rfl⟩ := aggV_eq h4
    rw [dropL_eq] at h5
    obtain ⟨h6, rfl⟩ := takeL_eq _ _ _ h5
    obtain ⟨l', q1, q2⟩ := hcs _ rfl h6
    refine ⟨.agg l', ?_, .agg q2⟩
    simp [execOp, ho, Instr.loadAt, Instr.sureAddr, ha, loadVar, agg_run hT hag, size_run hT hsz, q1]

theorem mov_ok {x : Operand} (ho : o.op = .move x ∨ o.op = .assign x) : PureOk P o (fun ρ _ => some (ρ x)) := by
  intro N σ s w ρ ρ' v hw hi h
  cases h
  rcases ho with ho | ho <;> exact ⟨ρ' x, by simp [execOp, ho], hi x (by simp [ho, Op.operands])⟩

theorem pick_ok {c a b : Operand} (ho : o.op = .pick c a b) : PureOk P o (vPick c a b) := by
  intro N σ s w ρ ρ' v hw hi h
  unfold vPick at h
  split at h
  · rename_i x hx
    have hc := hi c (by simp [ho, Op.operands])
    rw [hx] at hc
    have hc' := hc.of_bool
    cases x with
    | true =>
      simp only [bt_true, Option.some.injEq] at h
      subst h
      exact ⟨ρ' a, by simp [execOp, ho, asBool, hc'], hi a (by simp [ho, Op.operands])⟩
    | false =>
      simp only [bt_false, Option.some.injEq] at h
      subst h
      exact ⟨ρ' b, by simp [execOp, ho, asBool, hc'], hi b (by simp [ho, Op.operands])⟩
  · cases h
end
end Go.Proofs.Yteeamkdblcinnaa.Kern
