/-
  Stores and map updates are calculated rightly. It holds of every program whose table of types and functions fits (TabOk).
-/
import Derived.Test.YteeamkdblcinnaaKernH
namespace Go.Proofs.Yteeamkdblcinnaa.Kern
open Go Go.RowKit

def ActOk (P : Program) (o : Oper) (g : Env → St → Option (Value × St)) : Prop :=
  ∀ {N : Nat} {σ : Ren} {s s' : St} {w : World} {ρ ρ' : Env} {v : Value}, WRel N σ s w → (∀ x ∈ o.op.operands.toList, VRel σ (ρ x) (ρ' x)) → g ρ s = some (v, s') →
    ∃ τ w' v', ((execOp ρ' o).run P w = .ok (.value v') w' ∨ (execOp ρ' o).run P w = .ok .skip w' ∧ v' = undef) ∧ Ext N σ τ s s' w w' ∧ WRel N τ s' w' ∧ VRel τ v v'

theorem oneV_rel {σ : Ren} {v v' : Value} (h : oneV v = true) (hr : VRel σ v v') : v'.oneCell' = true := by
  cases hr <;> first | rfl | (simp [oneV] at h)
theorem oneL_rel {σ : Ren} : ∀ {l l' : List Value}, l.all oneV = true → LRel σ l l' → ∀ v ∈ l', v.oneCell' = true
  | [], _, _, .nil => fun v hv => by simp at hv
  | a :: l, _, h, .cons ha ht => fun v hv => by
    simp at h
    rcases List.mem_cons.1 hv with rfl | hv
    · exact oneV_rel h.1 ha
    · exact oneL_rel (by simpa using h.2) ht v hv

theorem setRow_putObj {w : World} {b : Nat} {C C' : Array Value} {e : TypeId} (h : w.heap[b]? = some (.cells C e (0, 0))) : w.setRow b C' = w.putObj b (.cells C' e (0, 0)) := by
  have hlt : b < w.heap.size := (Array.getElem?_eq_some_iff.1 h).1
  have hv : w.heap[b] = .cells C e (0, 0) := (Array.getElem?_eq_some_iff.1 h).2
  unfold World.setRow World.putObj
  congr 1
  apply Array.ext_getElem?
  intro i
  rw [Array.getElem?_modify]
  by_cases hi : b = i
  · subst hi
    simp [hlt, hv]
  · rw [if_neg hi, Array.getElem?_setIfInBounds_ne hi]

/-- Cells written over in a row of which a part is looked at. -/
theorem seg_over {α : Type} (C v : List α) (sh off n : Nat) (h : off + v.length ≤ n) (hC : sh + n ≤ C.length) :
    ((C.take (sh + off) ++ v ++ C.drop (sh + off + v.length)).drop sh).take n = ((C.drop sh).take n).take off ++ v ++ ((C.drop sh).take n).drop (off + v.length) := by
  apply List.ext_getElem?
  intro i
  simp only [List.getElem?_take, List.getElem?_drop, List.getElem?_append, List.length_append, List.length_take, List.length_drop]
  by_cases h1 : i < n
  · by_cases h2 : i < off
    · simp [h1, h2, show sh + i < sh + off by omega, show sh + i < C.length by omega, show sh + off ≤ C.length by omega]
      split <;> split <;> simp_all <;> omega
    · by_cases h3 : i < off + v.length
      · have e : sh + i - (sh + off) = i - off := by omega
        simp [h1, h2, h3, show ¬ sh + i < sh + off by omega, show min (sh + off) C.length = sh + off by omega, show min off (min n (C.length - sh)) = off by omega, e, show sh + i < sh + off + v.length by omega]
      · have e : sh + off + v.length + (sh + i - (sh + off + v.length)) = sh + i := by omega
        simp [h1, h3, show min (sh + off) C.length = sh + off by omega, show min off (min n (C.length - sh)) = off by omega, show ¬ sh + i < sh + off + v.length by omega, e]
        rw [if_pos (by omega)]
        congr 1; omega
  · simp [h1]
    split
    · omega
    · split <;> simp_all <;> omega

/-- The same, where the row is looked at as a list of cells that stands for a calculated one. -/
theorem real_over {σ : Ren} {c v r : List Value} {v' : List Value} {C : Array Value} {sh off : Nat} {x : Cap} {g : Option Nat} {e : TypeId} (hg : exOk x g sh C.size) (hs : sh + c.length ≤ C.size)
    (h : LRel σ c ((C.toList.drop sh).take c.length)) (hv : LRel σ v v') (hp : putL off v c = some r) :
    Real σ sh x (.cells r g) (.cells (C.toList.take (sh + off) ++ v' ++ C.toList.drop (sh + off + v'.length)).toArray e (0, 0)) := by
  obtain ⟨h1, h2⟩ := putL_eq _ _ _ _ hp
  have hl := hv.length
  have hsz : (C.toList.take (sh + off) ++ v' ++ C.toList.drop (sh + off + v'.length)).toArray.size = C.size := by simp; omega
  have hr : r.length = c.length := by rw [h2]; simp; omega
  refine .cells (by rw [hsz]; exact hg) (by rw [hsz, hr]; exact hs) ?_
  have := seg_over C.toList v' sh off c.length (by omega) (by simpa using hs)
  rw [hr]
  simp only [] at this ⊢
  rw [this, h2, hl]
  exact ((h.take off).append hv).append (h.drop _)

section
variable {P : Program} {T : Tab} {o : Oper}

theorem store_ok (hT : TabOk P T) {t : TypeId} {a x : Operand} {n : Nat} (self : Self) (ho : o.op = .store t a x) (hn : T.size t = some n) : ActOk P o (eStore n a x self) := by
  intro N σ s s' w ρ ρ' v hw hi h
  obtain ⟨p, h1, h2⟩ := ob_eq h
  obtain ⟨h3, h4⟩ := gd_eq h2
  obtain ⟨c, h5, h6⟩ := ob_eq h4
  obtain ⟨c', h7, h8⟩ := ob_eq h6
  obtain ⟨s1, h9, h10⟩ := ob_eq h8
  cases h10
  simp only [Bool.and_eq_true] at h3
  have hln := beq_t h3.1
  rw [lenL_eq] at hln
  obtain ⟨b, sh, ex, hs, ha⟩ := (hi a (by simp [ho, Op.operands])).of_addr h1
  have hx := (hi x (by simp [ho, Op.operands])).cells
  have hone := oneL_rel h3.2 hx
  obtain ⟨C, e, fr, ⟨hg, hb, hl, hr⟩, hz0⟩ := hw.cells hs h5
  obtain rfl := hz0 (.inl (upd_eq h9).1.1)
  have hxl := hx.length
  obtain ⟨p1, p2⟩ := putL_eq _ _ _ _ h7
  have hsz : (ρ' x).cells.size = n := by rw [← hln]; simpa using hxl
  have hrun := run_storeCells_at P b (sh + p.2) e (ρ' x).cells.toList 0 C w hb (by simp at hxl p1 ⊢; omega) hone
  refine ⟨σ, _, undef, .inr ⟨?_, rfl⟩, Ext.upd hw hs h9, hw.upd hs (cellsAt_eq h5 (upd_eq h9).1.1) (by simp) h9 (real_over (e := e) hg hl hr hx h7), undef_rel⟩
  simp only [execOp, ho, Sem.run_bind, Instr.storeAt, Instr.sureAddr, ha, Sem.run_pure, andThen_ok', storeVar, size_run hT hn, hsz, ne_eq, not_true_eq_false, if_false, hrun, Nat.add_zero]
  rw [setRow_putObj hb]

theorem findK_lt {k : Value} : ∀ {es : List (Value × Value × Nat)} {i : Nat} {p : Nat × Value}, findK k es i = some (some p) → i ≤ p.1 ∧ p.1 < i + es.length
  | [], i, p, h => by change some none = some (some p) at h; cases h
  | (a, v, b) :: es, i, p, h => by
    change ob (sameScalar k a) (fun r => bt r (some (some (i, v))) (findK k es (i + 1))) = some (some p) at h
    obtain ⟨c, h1, h2⟩ := ob_eq h
    cases c with
    | true => simp only [bt_true, Option.some.injEq] at h2; subst h2; simp
    | false =>
      simp only [bt_false] at h2
      have := findK_lt h2
      simp; omega
theorem setK_rel {σ : Ren} {k v k' v' : Value} (hk : VRel σ k k') (hv : VRel σ v v') : ∀ {es : List (Value × Value × Nat)} {E : List MapEntry} (i : Nat), ERel σ es E →
    ERel σ (setK k v i es) (E.modify i fun e => { e with key := k', val := v' })
  | [], _, i, .nil => by cases i <;> exact .nil
  | (a, u, b) :: es, _, 0, .cons ha hu ht => by simpa [setK] using ERel.cons hk hv ht
  | (a, u, b) :: es, _, i + 1, .cons ha hu ht => by simpa [setK] using ERel.cons ha hu (setK_rel hk hv i ht)
theorem ERel.append {σ : Ren} {k v k' v' : Value} {n : Nat} (hk : VRel σ k k') (hv : VRel σ v v') : ∀ {es : List (Value × Value × Nat)} {E : List MapEntry}, ERel σ es E →
    ERel σ (es ++ [(k, v, n)]) (E ++ [{ key := k', val := v', born := n }])
  | [], _, .nil => .cons hk hv .nil
  | (_, _, _) :: _, _, .cons ha hu ht => .cons ha hu (ERel.append hk hv ht)
theorem findK_same {σ : Ren} {k k' : Value} {kd : TypeDesc} (hk : VRel σ k k') (hkind : keyKind kd k = true) : ∀ {es : List (Value × Value × Nat)} {E : List MapEntry} {i : Nat} {p : Nat × Value}, ERel σ es E → findK k es i = some (some p) →
    ∃ e, E[p.1 - i]? = some e ∧ e.key = k'
  | [], _, i, p, .nil, h => by change some none = some (some p) at h; cases h
  | (a, v, b) :: es, _, i, p, .cons (k' := a') ha hv ht, h => by
    change ob (sameScalar k a) (fun r => bt r (some (some (i, v))) (findK k es (i + 1))) = some (some p) at h
    obtain ⟨c, h1, h2⟩ := ob_eq h
    cases c with
    | true =>
      simp only [bt_true, Option.some.injEq] at h2
      subst h2
      refine ⟨_, by simp; rfl, ?_⟩
      simp only
      unfold sameScalar at h1
      split at h1
      · obtain ⟨e1, e2⟩ := gd_eq h1
        have := kindEq_eq e1
        subst this
        simp only [Option.some.injEq, intEq_eq, beq_iff_eq] at e2
        subst e2
        rw [hk.of_int, ha.of_int]
      · simp only [Option.some.injEq, boolEq_eq, beq_iff_eq] at h1
        subst h1
        rw [hk.of_bool, ha.of_bool]
      · rename_i x y
        simp only [Option.some.injEq, bytesEq_eq, beq_iff_eq] at h1
        have : x = y := by
          obtain ⟨⟨x⟩⟩ := x
          obtain ⟨⟨y⟩⟩ := y
          simp at h1
          rw [h1]
        subst this
        rw [hk.of_string, ha.of_string]
      · cases h1
    | false =>
      simp only [bt_false] at h2
      have hlt := findK_lt h2
      obtain ⟨e, k1, k2⟩ := findK_same hk hkind ht h2
      refine ⟨e, ?_, k2⟩
      have : p.1 - i = (p.1 - (i + 1)) + 1 := by omega
      rw [this]
      simpa using k1
theorem sameBits_self {kd : TypeDesc} {k : Value} (h : keyKind kd k = true) (n : Nat) : Instr.sameBits n k k = true := by
  unfold keyKind at h
  split at h
  · cases n <;> simp [Instr.sameBits]
  · rename_i str
    have : (str == str) = true := by rw [beq_toListBytes]; simp
    cases n <;> simp [Instr.sameBits, this]
  · cases n <;> simp [Instr.sameBits]
  · cases h

theorem mapUpd_ok (hT : TabOk P T) {t kt e : TypeId} {m k x : Operand} {kd : TypeDesc} (self : Self) (ho : o.op = .mapUpdate t m k x ∨ o.op = .insert t m k x) (hd : T.und t = some (.map kt e)) (hkt : T.und kt = some kd) : ActOk P o (eMapUpd kd m k x self) := by
  intro N σ s s' w ρ ρ' v hw hi h
  have hops : m ∈ o.op.operands.toList ∧ k ∈ o.op.operands.toList ∧ x ∈ o.op.operands.toList := by rcases ho with ho | ho <;> simp [ho, Op.operands]
  have hm := hi m hops.1
  have hk := hi k hops.2.1
  have hx := hi x hops.2.2
  unfold eMapUpd at h
  split at h
  · rename_i r hr
    obtain ⟨h1, h2⟩ := gd_eq h
    obtain ⟨p, h3, h4⟩ := ob_eq h2
    obtain ⟨f, h5, h6⟩ := ob_eq h4
    obtain ⟨s1, h7, h8⟩ := ob_eq h6
    cases h8
    rw [hr] at hm
    obtain ⟨b, sh, ex, hs, em⟩ := hm.of_map
    obtain ⟨E, hb, hE⟩ := hw.mapAt hs h3
    obtain ⟨ob', g1, g2⟩ := ob_eq h3
    rw [mapOf_eq g2] at g1
    obtain ⟨ek, hk'⟩ := keyKind_rel hk h1
    obtain ⟨r', e1, e2⟩ := findKey_ok hT (w := w) hkt hk h1 hE h5
    have hc := checkKey_run hT (w := w) hkt hk' false 9999
    have hset : ∀ O, (setObj b O).run P w = .ok () (w.putObj b O) := fun O => by simp [setObj, Sem.run, hb, World.putObj]
    have hrun : ∀ w' , (Instr.mapUpdate t (ρ' m) (ρ' k) (ρ' x)).run P w = .ok () w' → (execOp ρ' o).run P w = .ok .skip w' := fun w' hh => by
      rcases ho with ho | ho <;> simp only [execOp, ho, Sem.run_bind, hh, andThen_ok', Sem.run_pure]
    cases f with
    | none =>
      cases r' with
      | some p => exact e2.elim
      | none =>
        refine ⟨σ, w.putObj b (.map (E.push { key := ρ' k, val := ρ' x, born := p.2 }) (p.2 + 1)), undef, .inr ⟨hrun _ ?_, rfl⟩, Ext.upd hw hs h7, hw.upd hs g1 (by simp) h7 (.map ?_), undef_rel⟩
        · simp [Instr.mapUpdate, und_run hT hd, em, getObj, Sem.run, hb, hc, e1, hset]
        · simpa using ERel.append hk hx hE
    | some q =>
      cases r' with
      | none => exact e2.elim
      | some q' =>
        obtain ⟨en, m1, m2⟩ := findK_same hk h1 hE h5
        have eq1 : q'.1 = q.1 := e2.1.symm
        have m1' : E[q.1]? = some en := by simpa using m1
        refine ⟨σ, w.putObj b (.map (E.modify q.1 fun e => { e with key := ρ' k, val := ρ' x }) p.2), undef, .inr ⟨hrun _ ?_, rfl⟩, Ext.upd hw hs h7, hw.upd hs g1 (by simp) h7 (.map ?_), undef_rel⟩
        · simp [Instr.mapUpdate, und_run hT hd, em, getObj, Sem.run, hb, hc, e1, hset, eq1, m1', m2, Instr.keyThatStays, sameBits_self hk']
        · simpa using setK_rel hk hx q.1 hE
  · cases h
end
end Go.Proofs.Yteeamkdblcinnaa.Kern
