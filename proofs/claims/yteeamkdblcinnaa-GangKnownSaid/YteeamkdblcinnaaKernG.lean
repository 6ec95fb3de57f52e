/-
  Map lookups are calculated rightly. It holds of every program whose table of types and functions fits (TabOk).
-/
import Derived.Test.YteeamkdblcinnaaKernF
namespace Go.Proofs.Yteeamkdblcinnaa.Kern
open Go Go.RowKit

/-- What a part of a run leaves: the blocks that stood for something stand for it still; new numbers are new. -/
structure Ext (N : Nat) (σ τ : Ren) (s s' : St) (w w' : World) : Prop where
  le : σ.le τ
  same : ∀ i, i < s.next → τ i = σ i
  next : s.next ≤ s'.next
  below : Below N w w'
theorem Ext.refl {N : Nat} {σ : Ren} {s : St} {w : World} : Ext N σ σ s s w w := ⟨σ.le_refl, fun _ _ => rfl, Nat.le_refl _, Below.refl _ _⟩
theorem Ext.trans {N : Nat} {σ τ υ : Ren} {s t u : St} {w x y : World} (h : Ext N σ τ s t w x) (k : Ext N τ υ t u x y) : Ext N σ υ s u w y :=
  ⟨Ren.le_trans h.le k.le, fun i hi => (k.same i (Nat.lt_of_lt_of_le hi h.next)).trans (h.same i hi), Nat.le_trans h.next k.next, h.below.trans k.below⟩

theorem below_putObj {N : Nat} {w : World} {b : Nat} {O : Obj} (h : N ≤ b) : Below N w (w.putObj b O) :=
  ⟨rfl, rfl, rfl, by simp, fun k hk => World.putObj_heap_other (by omega)⟩

/-- A new block in both: what is left. -/
theorem Ext.push {N : Nat} {σ : Ren} {s s' : St} {w : World} {o : AObj} {O : Obj} {x : Cap} (hw : WRel N σ s w) (hp : s.push o = some s') : Ext N σ (σ.add s.next w.heap.size 0 x) s s' w (w.alloc O) := by
  obtain ⟨_, rfl⟩ := push_eq hp
  exact ⟨Ren.le_add (hw.fresh (Nat.le_refl _)), fun i hi => Ren.add_ne (by omega), by simp, (Below.refl _ _).alloc hw.base _⟩
theorem Ext.upd {N : Nat} {σ : Ren} {s s' : St} {w : World} {i b sh : Nat} {x : Cap} {o : AObj} {O : Obj} (hw : WRel N σ s w) (hi : σ i = some (b, sh, x)) (hp : s.upd i o = some s') : Ext N σ σ s s' w (w.putObj b O) := by
  obtain ⟨h1, rfl⟩ := upd_eq hp
  exact ⟨σ.le_refl, fun _ _ => rfl, Nat.le_refl _, below_putObj ((hw.lt hi).1.1 h1.1)⟩

section
variable {P : Program} {T : Tab} {o : Oper}

def FoundRel (σ : Ren) : Option (Nat × Value) → Option (Nat × Value) → Prop
  | none, none => True
  | some p, some p' => p.1 = p'.1 ∧ VRel σ p.2 p'.2
  | _, _ => False
theorem checkKey_run (hT : TabOk P T) {w : World} {kt : TypeId} {kd : TypeDesc} (hk : T.und kt = some kd) {k : Value} (h : keyKind kd k = true) (em : Bool) (n : Nat) : (Instr.checkKey em (n + 1) kt k).run P w = .ok () w := by
  unfold keyKind at h
  split at h
  · simp [Instr.checkKey, und_run hT hk]
  · simp [Instr.checkKey, und_run hT hk]
  · simp [Instr.checkKey, und_run hT hk]
  · cases h
theorem findNow_ok {σ : Ren} {kd : TypeDesc} {k k' : Value} (hk : VRel σ k k') (hkind : keyKind kd k = true) : ∀ {es : List (Value × Value × Nat)} {E : List MapEntry} {i : Nat} {r : Option (Nat × Value)}, ERel σ es E → findK k es i = some r →
    ∃ r', Instr.findNow kd k' E i = some r' ∧ FoundRel σ r r'
  | [], _, i, r, .nil, h => by change some none = some r at h; cases h; exact ⟨none, rfl, trivial⟩
  | (a, v, b) :: es, _, i, r, .cons (k' := a') (v' := v') (l' := E) ha hv ht, h => by
    change ob (sameScalar k a) (fun r => bt r (some (some (i, v))) (findK k es (i + 1))) = some r at h
    obtain ⟨c, h1, h2⟩ := ob_eq h
    have hs : Instr.sameNow kd k' a' = some c := by
      unfold sameScalar at h1
      split at h1
      · obtain ⟨e1, e2⟩ := gd_eq h1
        have := kindEq_eq e1
        subst this
        rw [hk.of_int, ha.of_int]
        cases kd <;> simp [keyKind] at hkind
        simp only [Option.some.injEq] at e2
        rw [← e2, intEq_eq]
        simp [Instr.sameNow]
      · rw [hk.of_bool, ha.of_bool]
        cases kd <;> simp [keyKind] at hkind
        simp only [Option.some.injEq] at h1
        rw [← h1, boolEq_eq]
        simp [Instr.sameNow]
      · rename_i x y
        rw [hk.of_string, ha.of_string]
        cases kd <;> simp [keyKind] at hkind
        simp only [Option.some.injEq] at h1
        rw [← h1, bytesEq_eq]
        have : (x == y) = (x.data.toList == y.data.toList) := by rw [beq_toListBytes, ByteArray.toList_eq, ByteArray.toList_eq]
        simp only [Instr.sameNow, this]
      · cases h1
    cases c with
    | true =>
      simp only [bt_true, Option.some.injEq] at h2
      subst h2
      exact ⟨some (i, v'), by simp [Instr.findNow, hs], rfl, hv⟩
    | false =>
      simp only [bt_false] at h2
      obtain ⟨r', e1, e2⟩ := findNow_ok hk hkind ht h2
      exact ⟨r', by simp [Instr.findNow, hs, e1], e2⟩
theorem findKey_ok (hT : TabOk P T) {w : World} {σ : Ren} {kt : TypeId} {kd : TypeDesc} (hkt : T.und kt = some kd) {k k' : Value} (hk : VRel σ k k') (hkind : keyKind kd k = true) {es : List (Value × Value × Nat)} {E : List MapEntry} {r : Option (Nat × Value)}
    (he : ERel σ es E) (h : findK k es 0 = some r) :
    ∃ r', (Instr.findKey kt k' E).run P w = .ok r' w ∧ FoundRel σ r r' := by
  obtain ⟨r', e1, e2⟩ := findNow_ok hk hkind he h
  exact ⟨r', by simp [Instr.findKey, und_run hT hkt, e1], e2⟩
theorem keyKind_rel {σ : Ren} {kd : TypeDesc} {k k' : Value} (hk : VRel σ k k') (h : keyKind kd k = true) : k' = k ∧ keyKind kd k' = true := by
  unfold keyKind at h
  split at h
  · rw [hk.of_int]; exact ⟨rfl, rfl⟩
  · rw [hk.of_string]; exact ⟨rfl, rfl⟩
  · rw [hk.of_bool]; exact ⟨rfl, rfl⟩
  · cases h

theorem lookup_ok (hT : TabOk P T) {t kt e : TypeId} {x k : Operand} {ok : Bool} {kd : TypeDesc} {z : Value} (ho : o.op = .lookup t x k ok) (hd : T.und t = some (.map kt e)) (hkt : T.und kt = some kd) (hz : T.zero e = some z) : PureOk P o (vLookup kd z x k ok) := by
  intro N σ s w ρ ρ' v hw hi h
  obtain ⟨h1, h2⟩ := gd_eq h
  obtain ⟨es, h3, h4⟩ := ob_eq h2
  obtain ⟨r, h5, h6⟩ := ob_eq h4
  cases h6
  have hx := hi x (by simp [ho, Op.operands])
  have hk := hi k (by simp [ho, Op.operands])
  obtain ⟨hz1, hz2⟩ := zero_run hT (w := w) hz
  obtain ⟨ek, hk'⟩ := keyKind_rel hk h1
  rcases mapAt_rel hw hx h3 with ⟨ex, rfl⟩ | ⟨b, E, cl, ex, hb, hE⟩
  · obtain ⟨r', e1, e2⟩ := findKey_ok hT (w := w) hkt hk h1 .nil h5
    have hc := checkKey_run hT (w := w) hkt hk' true 9999
    cases r with
    | none =>
      cases r' with
      | some p => exact e2.elim
      | none =>
        refine ⟨if ok then .tuple #[z, .bool false] else z, by simp [execOp, ho, Instr.lookup, und_run hT hd, ex, hc, e1, hz1], ?_⟩
        cases ok
        · exact closedV_rel hz2
        · exact .tuple (.cons (closedV_rel hz2) (.cons (.bool _) .nil))
    | some p =>
      cases r' with
      | none => exact e2.elim
      | some p' =>
        refine ⟨if ok then .tuple #[p'.2, .bool true] else p'.2, by simp [execOp, ho, Instr.lookup, und_run hT hd, ex, hc, e1], ?_⟩
        cases ok
        · exact e2.2
        · exact .tuple (.cons e2.2 (.cons (.bool _) .nil))
  · obtain ⟨r', e1, e2⟩ := findKey_ok hT (w := w) hkt hk h1 hE h5
    have hc := checkKey_run hT (w := w) hkt hk' E.isEmpty 9999
    cases r with
    | none =>
      cases r' with
      | some p => exact e2.elim
      | none =>
        refine ⟨if ok then .tuple #[z, .bool false] else z, by simp [execOp, ho, Instr.lookup, und_run hT hd, ex, getObj, Sem.run, hb, hc, e1, hz1], ?_⟩
        cases ok
        · exact closedV_rel hz2
        · exact .tuple (.cons (closedV_rel hz2) (.cons (.bool _) .nil))
    | some p =>
      cases r' with
      | none => exact e2.elim
      | some p' =>
        refine ⟨if ok then .tuple #[p'.2, .bool true] else p'.2, by simp [execOp, ho, Instr.lookup, und_run hT hd, ex, getObj, Sem.run, hb, hc, e1], ?_⟩
        cases ok
        · exact e2.2
        · exact .tuple (.cons e2.2 (.cons (.bool _) .nil))
end
end Go.Proofs.Yteeamkdblcinnaa.Kern
