/-
  Least and greatest numbers, copies and checks for nil are calculated rightly. It holds of every program whose table of types and functions fits (TabOk).
-/
import Derived.Test.YtifkpaomhnlahaaKernS
namespace Go.Proofs.Ytifkpaomhnlahaa.Kern
open Go Go.RowKit

section
variable {P : Program} {T : Tab} {o : Oper}

theorem ext2_ok {σ : Ren} {w : World} {mx : Bool} {x y x' y' v : Value} (hx : VRel σ x x') (hy : VRel σ y y') (h : ext2 mx x y = some v) :
    ((if mx then Builtin.max2 else Builtin.min2) x' y').run P w = .ok v w ∧ VRel σ v v := by
  obtain ⟨p, h1, h2⟩ := ob_eq h
  obtain ⟨q, h3, h4⟩ := ob_eq h2
  cases h4
  rw [intOfV_eq h1] at hx
  rw [intOfV_eq h3] at hy
  rw [hx.of_int, hy.of_int]
  refine ⟨?_, .int _ _⟩
  cases mx with
  | true =>
    simp only [bt_true, intLt_eq, if_true, Builtin.max2]
    by_cases hlt : p.2 < q.2 <;> simp [hlt]
  | false =>
    simp only [bt_false, intLt_eq, Bool.false_eq_true, if_false, Builtin.min2]
    by_cases hlt : q.2 < p.2 <;> simp [hlt]
theorem extL_ok {σ : Ren} {w : World} {mx : Bool} : ∀ {ys ys' : List Value} {x x' v : Value}, LRel σ ys ys' → VRel σ x x' → extL mx ys x = some v →
    ∃ v', (ys'.foldlM (if mx then Builtin.max2 else Builtin.min2) x').run P w = .ok v' w ∧ VRel σ v v'
  | [], _, x, x', v, .nil, hx, h => by
    have h' : some x = some v := h
    cases h'
    exact ⟨x', by simp, hx⟩
  | y :: ys, _, x, x', v, .cons hy ht, hx, h => by
    obtain ⟨z, h1, h2⟩ := ob_eq (show ob (ext2 mx x y) (extL mx ys) = some v from h)
    obtain ⟨k1, k2⟩ := ext2_ok (P := P) (w := w) hx hy h1
    obtain ⟨v', k3, k4⟩ := extL_ok ht k2 h2
    exact ⟨v', by rw [List.foldlM_cons, Sem.run_bind, k1, andThen_ok', k3], k4⟩

theorem mapL_rel {σ : Ren} {ρ ρ' : Env} : ∀ {l : List Operand}, (∀ x ∈ l, VRel σ (ρ x) (ρ' x)) → LRel σ (mapL ρ l) (l.map ρ')
  | [], _ => .nil
  | x :: l, h => .cons (h x (by simp)) (mapL_rel fun y hy => h y (by simp [hy]))

theorem ext_ok {c : Call} {mx : Bool} {x : Operand} {xs : List Operand} (ho : o.op = .call c) (hc : c.callee = .builtin (if mx then .max else .min)) (ha : c.args.toList = x :: xs) : PureOk P o (vExt mx x xs) := by
  intro N σ s w ρ ρ' v hw hi h
  have hm : ∀ y ∈ c.args.toList, VRel σ (ρ y) (ρ' y) := fun y hy => hi y (by rw [ho]; exact call_arg_mem hc hy)
  rw [ha] at hm
  obtain ⟨v', k1, k2⟩ := extL_ok (P := P) (w := w) (mapL_rel fun y hy => hm y (by simp [hy])) (hm x (by simp)) h
  have e : (c.args.map ρ').toList = ρ' x :: xs.map ρ' := by simp [ha]
  refine ⟨v', ?_, k2⟩
  cases mx with
  | true => simp only [execOp, ho, Sem.run_bind, resolve, hc, Sem.run_pure, andThen_ok', invoke, builtin, if_true, Builtin.max_, e] at k1 ⊢; rw [k1]; rfl
  | false => simp only [execOp, ho, Sem.run_bind, resolve, hc, Sem.run_pure, andThen_ok', invoke, builtin, Bool.false_eq_true, if_false, Builtin.min_, e] at k1 ⊢; rw [k1]; rfl

theorem nil_ok {x : Operand} (ho : o.op = .nilCheck x) : PureOk P o (vNil x) := by
  intro N σ s w ρ ρ' v hw hi h
  have hx := hi x (by simp [ho, Op.operands])
  unfold vNil at h
  split at h
  · rename_i a ha
    cases h
    rw [ha] at hx
    generalize he : ρ' x = y at hx
    cases hx with
    | ptr hs => exact ⟨_, by simp [execOp, ho, he], .ptr hs⟩
  · rename_i t u ha
    cases h
    rw [ha] at hx
    generalize he : ρ' x = y at hx
    cases hx with
    | iface _ hs => exact ⟨_, by simp [execOp, ho, he], .iface _ hs⟩
  · rename_i g p q ha
    cases h
    rw [ha] at hx
    generalize he : ρ' x = y at hx
    cases hx with
    | func _ hfn hp hq => exact ⟨_, by simp [execOp, ho, he], .func _ hfn hp hq⟩
  · cases h

theorem slice_shrink {σ : Ren} {a : Option Addr} {l c k : Nat} {v' : Value} (h : VRel σ (.slice a l c) v') (hk : k ≤ l) : ∃ xb xc, v' = .slice xb l xc ∧ VRel σ (.slice a k c) (.slice xb k xc) := by
  rcases h.of_slice with ⟨rfl, rfl⟩ | ⟨i, o, b, sh, x, c', o', rfl, hs, hc, rfl⟩
  · exact ⟨none, c, rfl, .sliceNil _ _⟩
  · refine ⟨_, c', rfl, .slice hs ?_⟩
    cases x with
    | none => exact hc
    | some kz =>
      obtain ⟨d, d1, d2, d3, d4⟩ := hc
      exact ⟨d, d1, d2, d3, by omega⟩

theorem copy_ok (hT : TabOk P T) {c : Call} {t e : TypeId} {x y : Operand} {ts : List TypeId} {xs : List Operand} {n : Nat} (self : Self) (ho : o.op = .call c) (hc : c.callee = .builtin .copy)
    (ht : c.argTypes.toList = t :: ts) (ha : c.args.toList = x :: y :: xs) (hd : T.und t = some (.slice e)) (hn : T.size e = some n) : ActOk P o (eCopy n x y self) := by
  intro N σ s s' w ρ ρ' v hw hi h
  obtain ⟨q, h1, h2⟩ := ob_eq h
  obtain ⟨p, h3, h4⟩ := ob_eq h2
  obtain ⟨new, h5, h6⟩ := ob_eq h4
  have hx := hi x (by rw [ho]; exact call_arg_mem hc (by rw [ha]; simp))
  have hy := hi y (by rw [ho]; exact call_arg_mem hc (by rw [ha]; simp))
  rw [sliceOf_eq h1] at hx
  rw [sliceOf_eq h3] at hy
  obtain ⟨k, hk⟩ : ∃ k, Nat.min p.2.1 q.2.1 = k := ⟨_, rfl⟩
  have hk1 : k ≤ p.2.1 := by rw [← hk]; exact Nat.min_le_left _ _
  have hk2 : k ≤ q.2.1 := by rw [← hk]; exact Nat.min_le_right _ _
  rw [hk] at h5 h6
  obtain ⟨xb, xc, ey, hy'⟩ := slice_shrink hy hk1
  obtain ⟨xb2, xc2, news, ey2, hnew, hnr, hone, hnl⟩ := newCells_ok (P := P) (p := (p.1, k, p.2.2)) hw hy' h5
  simp only [Value.slice.injEq, true_and] at ey2
  obtain ⟨rfl, rfl⟩ := ey2
  have hnw : (Builtin.firstCells n k (.slice xb p.2.1 xc)).run P w = .ok news w := by
    have := hnew w.drawn
    cases xb <;> exact this
  have e0 : c.argTypes = (t :: ts).toArray := by rw [← ht]
  have e0' : c.args.map ρ' = (ρ' x :: ρ' y :: xs.map ρ').toArray := by
    rw [← Array.toList_inj]; simp [ha]
  have hcall : ∀ {base : Option Addr} {cap : Nat} {w' : World}, ρ' x = .slice base q.2.1 cap → (match base with | some a => (storeCells a news.toList).run P w | none => .ok () w) = .ok () w' →
      (execOp ρ' o).run P w = .ok (.value (.int .i64 (k : Int))) w' := by
    intro base cap w' ex hst
    simp only [execOp, ho, Sem.run_bind, resolve, hc, Sem.run_pure, andThen_ok', invoke, builtin, e0, e0', Builtin.copy_, List.getElem?_toArray, List.getElem?_cons_zero, List.getElem?_cons_succ, und_run hT hd, ex, ey, Builtin.lenOf, hk, size_run hT hn, hnw]
    cases base with
    | none => cases hst; rfl
    | some a => simp only at hst; simp only [Sem.run_bind, hst, andThen_ok', Sem.run_pure]; rfl
  cases hz : Nat.beq k 0 with
  | true =>
    rw [hz] at h6
    have hk0 := beq_t hz
    have h7 : some (Value.int .i64 0, s) = some (v, s') := h6
    cases h7
    have hn0 : news = #[] := by
      have := hnr.length
      rw [hnl, hk0] at this
      simp only [Nat.zero_mul, Array.length_toList] at this
      exact Array.size_eq_zero_iff.1 this
    rcases hx.of_slice with ⟨_, ex⟩ | ⟨i, oo, b, sh, ca, c', o', _, hs, hcp, ex⟩
    · exact ⟨σ, w, .int .i64 (k : Int), .inl (hcall ex rfl), Ext.refl, hw, by rw [hk0]; exact .int _ _⟩
    · exact ⟨σ, w, .int .i64 (k : Int), .inl (hcall ex (by rw [hn0]; rfl)), Ext.refl, hw, by rw [hk0]; exact .int _ _⟩
  | false =>
    rw [hz] at h6
    have hkne := beq_f hz
    obtain ⟨p', g1, g2⟩ := ob_eq (show copyTo s q.1 new k = some (v, s') from h6)
    obtain ⟨cc, g3, g4⟩ := ob_eq g2
    obtain ⟨cc', g5, g6⟩ := ob_eq g4
    obtain ⟨s1, g7, g8⟩ := ob_eq g6
    cases g8
    have ea := addrOf_eq g1
    simp only [Value.pointer.injEq] at ea
    rw [ea] at hx
    rcases hx.of_slice with ⟨e, _⟩ | ⟨i, oo, b, sh, ca, c', o', e, hs, hcp, ex⟩
    · cases e
    simp only [Option.some.injEq, Addr.mk.injEq] at e
    obtain ⟨rfl, rfl, -⟩ := e
    have hoff := hcp.off (.inl (by omega))
    subst hoff
    obtain ⟨C, ee, fr, ⟨hg, hb, hl, hr⟩, hz0⟩ := hw.cells hs g3
    obtain rfl := hz0 (.inl (upd_eq g7).1.1)
    obtain ⟨p1, p2⟩ := putL_eq _ _ _ _ g5
    have hxl := hnr.length
    have hfit : sh + p'.2 + 0 + news.toList.length ≤ C.size := by omega
    have hst := run_storeCells_at P b (sh + p'.2) ee news.toList 0 C w hb (by simpa using hfit) hone
    rw [setRow_putObj hb] at hst
    exact ⟨σ, _, .int .i64 (k : Int), .inl (hcall ex (by simpa only [Nat.add_zero] using hst)), Ext.upd hw hs g7, hw.upd hs (cellsAt_eq g3 (upd_eq g7).1.1) (by simp) g7 (real_over (e := ee) hg hl hr hnr g5), .int _ _⟩

theorem makeMapN_ok (hT : TabOk P T) {t kt e : TypeId} {r : Operand} (ho : o.op = .makeMap t (some r)) (hd : T.und t = some (.map kt e)) : NewOk P o (fun ρ => ob (intOfV (ρ r)) fun _ => some (.map [] 0, fun i => .map (some i))) := by
  intro σ w ρ ρ' p hi h
  obtain ⟨q, h1, h2⟩ := ob_eq h
  cases h2
  have hr := hi r (by simp [ho, Op.operands])
  rw [intOfV_eq h1] at hr
  refine ⟨.map #[] 0, .map (some w.heap.size), ?_, (by simp), fun τ i hle hi' => ⟨.map .nil, .map hi'⟩⟩
  simp [execOp, ho, Instr.makeMap, und_run hT hd, hr.of_int, asInt, asIntOf]
end
end Go.Proofs.Ytifkpaomhnlahaa.Kern
