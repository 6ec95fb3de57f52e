/-
  Building, converting, field and index are calculated rightly. It holds of every program whose table of types and functions fits (TabOk).
-/
import Derived.Test.YteeamkdblcinnaaKernD
namespace Go.Proofs.Yteeamkdblcinnaa.Kern
open Go Go.RowKit

/-! ## Filling -/
theorem fold_set : ∀ (l : List Value) (off k : Nat) (cells : Array Value), off + k + l.length ≤ cells.size →
    ((l.zipIdx k).foldl (fun (cs : Array Value) (p : Value × Nat) => cs.setIfInBounds (off + p.2) p.1) cells).toList = cells.toList.take (off + k) ++ l ++ cells.toList.drop (off + k + l.length)
  | [], off, k, cells, _ => by simp
  | v :: l, off, k, cells, h => by
    simp only [List.zipIdx_cons, List.foldl_cons]
    rw [fold_set l off (k + 1) _ (by simp at h ⊢; omega)]
    have := list_seg_step cells.toList (off + k) v l (by simp at h ⊢; omega)
    simpa [Array.toList_setIfInBounds, Nat.add_assoc] using this
theorem fold_set_arr (v : Array Value) (off : Nat) (cells : Array Value) (h : off + v.size ≤ cells.size) :
    (v.zipIdx.foldl (fun cs (c, j) => cs.setIfInBounds (off + j) c) cells).toList = cells.toList.take off ++ v.toList ++ cells.toList.drop (off + v.size) := by
  have := fold_set v.toList off 0 cells (by simpa using h)
  rw [← Array.foldl_toList, Array.toList_zipIdx]
  simpa using this

theorem fillL_cons (ρ : Env) (p : Nat × Nat × Operand) (ps : List (Nat × Nat × Operand)) (c : List Value) :
    fillL ρ (p :: ps) c = gd (Nat.beq (lenL (ρ p.2.2).cells.toList) p.2.1) (ob (putL p.1 (ρ p.2.2).cells.toList c) (fillL ρ ps)) := rfl

/-- The calculated filling is the true one: for places as they are looked up. -/
theorem fill_ok {σ : Ren} {ρ ρ' : Env} (place : Nat → Option (Nat × Nat)) : ∀ (ps : List (Nat × Operand)) (qs : List (Nat × Nat × Operand)) (c r : List Value) (C : Array Value),
    (∀ x ∈ ps, VRel σ (ρ x.2) (ρ' x.2)) → qs.length = ps.length → (∀ (k : Nat) (p : Nat × Operand) (q : Nat × Nat × Operand), ps[k]? = some p → qs[k]? = some q → place p.1 = some (q.1, q.2.1) ∧ q.2.2 = p.2) →
    LRel σ c C.toList → fillL ρ qs c = some r → ∃ R, Instr.fill place C (ps.map fun p => (p.1, ρ' p.2)) = some R ∧ LRel σ r R.toList
  | [], [], c, r, C, _, _, _, hc, h => by
    change some c = some r at h; cases h
    exact ⟨C, rfl, hc⟩
  | [], _ :: _, _, _, _, _, hl, _, _, _ => by simp at hl
  | _ :: _, [], _, _, _, _, hl, _, _, _ => by simp at hl
  | p :: ps, q :: qs, c, r, C, hv, hl, hp, hc, h => by
    rw [fillL_cons] at h
    obtain ⟨h1, h2⟩ := gd_eq h
    obtain ⟨c', h3, h4⟩ := ob_eq h2
    obtain ⟨e1, e2⟩ := hp 0 p q rfl rfl
    have hvp := (hv p (by simp)).cells
    rw [← e2] at hvp
    have hlen := hvp.length
    have hb := beq_t h1
    rw [lenL_eq] at hb
    obtain ⟨h5, h6⟩ := putL_eq _ _ _ _ h3
    have hcl := hc.length
    have hsz : (ρ' p.2).cells.size = q.2.1 := by rw [← e2]; rw [← hb]; simpa using hlen
    have hfit : q.1 + (ρ' p.2).cells.size ≤ C.size := by rw [hsz, ← hb]; simp at hcl; omega
    have hC := fold_set_arr (ρ' p.2).cells q.1 C hfit
    have hc' : LRel σ c' (((ρ' p.2).cells.zipIdx.foldl (fun cs (c, j) => cs.setIfInBounds (q.1 + j) c) C).toList) := by
      rw [hC, h6]
      refine LRel.append (LRel.append (hc.take _) (by rw [e2] at hvp ⊢; exact hvp)) ?_
      rw [hsz, hb]
      exact hc.drop _
    obtain ⟨R, k1, k2⟩ := fill_ok place ps qs c' r _ (fun x hx => hv x (by simp [hx])) (by simpa using hl) (fun k p' q' a b => hp (k + 1) p' q' (by simpa using a) (by simpa using b)) hc' h4
    refine ⟨R, ?_, k2⟩
    simp only [List.map_cons, Instr.fill, e1]
    rw [if_neg (by simp [hsz]; omega)]
    exact k1

theorem placesS_ok {pl : List (Nat × Nat)} : ∀ {ps : List (Nat × Operand)} {qs : List (Nat × Nat × Operand)}, placesS pl ps = some qs →
    qs.length = ps.length ∧ ∀ (k : Nat) (p : Nat × Operand) (q : Nat × Nat × Operand), ps[k]? = some p → qs[k]? = some q → pl[p.1]? = some (q.1, q.2.1) ∧ q.2.2 = p.2
  | [], qs, h => by change some [] = some qs at h; cases h; exact ⟨rfl, fun k p q a _ => by simp at a⟩
  | p :: ps, qs, h => by
    change ob (nthL p.1 pl) (fun q => ob (placesS pl ps) fun l => some ((q.1, q.2, p.2) :: l)) = some qs at h
    obtain ⟨q, h1, h2⟩ := ob_eq h
    obtain ⟨l, h3, h4⟩ := ob_eq h2
    obtain ⟨i1, i2⟩ := placesS_ok h3
    cases h4
    rw [nthL_eq] at h1
    refine ⟨by simp [i1], fun k p' q' a b => ?_⟩
    cases k with
    | zero => simp at a b; subst a b; exact ⟨h1, rfl⟩
    | succ k => exact i2 k p' q' (by simpa using a) (by simpa using b)
theorem placesA_ok (n : Nat) (ps : List (Nat × Operand)) : (placesA n ps).length = ps.length ∧
    ∀ (k : Nat) (p : Nat × Operand) (q : Nat × Nat × Operand), ps[k]? = some p → (placesA n ps)[k]? = some q → (fun i => some (i * n, n)) p.1 = some (q.1, q.2.1) ∧ q.2.2 = p.2 := by
  unfold placesA
  rw [mapL_eq]
  refine ⟨by simp, fun k p q a b => ?_⟩
  simp only [List.getElem?_map, a, Option.map_some, Option.some.injEq] at b
  subst b
  exact ⟨rfl, rfl⟩

theorem fieldPlaces_ok {P : Program} {T : Tab} (hT : TabOk P T) {w : World} : ∀ {fs : List Field} {pl : List (Nat × Nat)}, fieldPlaces T fs = some pl →
    (fs.mapM fun f => (do pure (f.offset, ← sizeOf f.type) : Sem (Nat × Nat))).run P w = .ok pl w
  | [], pl, h => by change some [] = some pl at h; cases h; rfl
  | f :: fs, pl, h => by
    change ob (T.size f.type) (fun n => ob (fieldPlaces T fs) fun l => some ((f.offset, n) :: l)) = some pl at h
    obtain ⟨n, h1, h2⟩ := ob_eq h
    obtain ⟨l, h3, h4⟩ := ob_eq h2
    cases h4
    have ih := fieldPlaces_ok hT (w := w) h3
    simp only [List.mapM_cons, Sem.run_bind, size_run hT h1, Result.andThen, Sem.run_pure, ih]
theorem mapM_arr {P : Program} {w : World} {α β : Type} (f : α → Sem β) (a : Array α) (l : List β) (h : (a.toList.mapM f).run P w = .ok l w) : (a.mapM f).run P w = .ok l.toArray w := by
  rw [Array.mapM_eq_mapM_toList]
  simp only [Sem.run_map, h, Result.andThen]

section
variable {P : Program} {T : Tab} {o : Oper}

theorem buildS_ok (hT : TabOk P T) {t : TypeId} {ps : Array (Nat × Operand)} {z : Value} {fs : Array Field} {pl : List (Nat × Nat)} {l : List (Nat × Nat × Operand)} (ho : o.op = .build t ps) (hz : T.zero t = some z)
    (hd : T.und t = some (.struct fs)) (hpl : fieldPlaces T fs.toList = some pl) (hl : placesS pl ps.toList = some l) : PureOk P o (fun ρ _ => aggV (fillL ρ l z.cells.toList)) := by
  intro N σ s w ρ ρ' v hw hi h
  obtain ⟨r, h1, rfl⟩ := aggV_eq h
  obtain ⟨hz1, hz2⟩ := zero_run hT (w := w) hz
  obtain ⟨i1, i2⟩ := placesS_ok hl
  have hmem : ∀ x ∈ ps.toList, VRel σ (ρ x.2) (ρ' x.2) := fun x hx => hi _ (by
    simp only [ho, Op.operands, List.mem_map]
    exact ⟨x, hx, rfl⟩)
  obtain ⟨R, k1, k2⟩ := fill_ok (σ := σ) (ρ := ρ) (ρ' := ρ') (fun i => pl.toArray[i]?) ps.toList l z.cells.toList r z.cells hmem i1 (fun k p q a b => by simpa using i2 k p q a b) (closedV_rel hz2).cells h1
  have hfp := mapM_arr _ fs pl (fieldPlaces_ok hT (w := w) hpl)
  refine ⟨.agg R, ?_, .agg k2⟩
  simp only [execOp, ho, Sem.run_bind, Instr.build, hz1, Result.andThen, und_run hT hd, hfp]
  have : (ps.map fun p => (p.1, ρ' p.2)).toList = ps.toList.map fun p => (p.1, ρ' p.2) := by simp
  simp only [this, k1, Sem.run_pure]
theorem buildA_ok (hT : TabOk P T) {t e : TypeId} {ps : Array (Nat × Operand)} {z : Value} {n len : Nat} (ho : o.op = .build t ps) (hz : T.zero t = some z)
    (hd : T.und t = some (.array len e)) (hn : T.size e = some n) : PureOk P o (fun ρ _ => aggV (fillL ρ (placesA n ps.toList) z.cells.toList)) := by
  intro N σ s w ρ ρ' v hw hi h
  obtain ⟨r, h1, rfl⟩ := aggV_eq h
  obtain ⟨hz1, hz2⟩ := zero_run hT (w := w) hz
  obtain ⟨i1, i2⟩ := placesA_ok n ps.toList
  have hmem : ∀ x ∈ ps.toList, VRel σ (ρ x.2) (ρ' x.2) := fun x hx => hi _ (by
    simp only [ho, Op.operands, List.mem_map]
    exact ⟨x, hx, rfl⟩)
  obtain ⟨R, k1, k2⟩ := fill_ok (σ := σ) (ρ := ρ) (ρ' := ρ') (fun i => some (i * n, n)) ps.toList _ z.cells.toList r z.cells hmem i1 i2 (closedV_rel hz2).cells h1
  refine ⟨.agg R, ?_, .agg k2⟩
  simp only [execOp, ho, Sem.run_bind, Instr.build, hz1, Result.andThen, und_run hT hd, size_run hT hn]
  have : (ps.map fun p => (p.1, ρ' p.2)).toList = ps.toList.map fun p => (p.1, ρ' p.2) := by simp
  simp only [this, k1, Sem.run_pure]

theorem conv_ok (hT : TabOk P T) {sT dT : TypeId} {x : Operand} {d0 : TypeDesc} {k : IntKind} (ho : o.op = .convert sT dT x) (hs : T.und sT = some d0) (hd : T.und dT = some (.int k)) : PureOk P o (vConv k x) := by
  intro N σ s w ρ ρ' v hw hi h
  obtain ⟨p, h1, h2⟩ := ob_eq h
  have hx := hi x (by simp [ho, Op.operands])
  rw [intOfV_eq h1] at hx
  have hx' := hx.of_int
  simp only [Option.some.injEq] at h2
  subst h2
  refine ⟨_, ?_, .int _ _⟩
  simp only [execOp, ho, Sem.run_bind, convert, und_run hT hs, und_run hT hd, Result.andThen, hx']
  cases d0 <;> simp [Conv.intToInt, wrapF_eq]
theorem makeFunc_ok {fn : Fn} {first captured : Array Operand} (hfn : ∀ l, fn ≠ .yield l) (ho : o.op = .makeFunc fn first captured) : PureOk P o (fun ρ _ => some (.func fn ⟨mapL ρ first.toList⟩ ⟨mapL ρ captured.toList⟩)) := by
  intro N σ s w ρ ρ' v hw hi h
  cases h
  have hm : ∀ l : List Operand, (∀ x ∈ l, VRel σ (ρ x) (ρ' x)) → LRel σ (l.map ρ) (l.map ρ') := by
    intro l
    induction l with
    | nil => intro _; exact .nil
    | cons a l ih => intro hl; exact .cons (hl a (by simp)) (ih fun x hx => hl x (by simp [hx]))
  refine ⟨.func fn (first.map ρ') (captured.map ρ'), by simp [execOp, ho, Instr.makeFunc], .func fn hfn ?_ ?_⟩
  · rw [mapL_eq]; simpa using hm first.toList fun x hx => hi x (by simp only [ho, Op.operands]; simp; left; simpa using hx)
  · rw [mapL_eq]; simpa using hm captured.toList fun x hx => hi x (by simp only [ho, Op.operands]; simp; right; simpa using hx)
theorem fieldAddr_ok (hT : TabOk P T) {t : TypeId} {x : Operand} {f n : Nat} {fs : Array Field} {fd : Field} (ho : o.op = .fieldAddr t x f) (hd : T.und t = some (.struct fs)) (hf : nthL f fs.toList = some fd)
    (hn : T.size fd.type = some n) (h0 : Nat.blt 0 n = true) : PureOk P o (vFieldAddr fd.offset x) := by
  intro N σ s w ρ ρ' v hw hi h
  obtain ⟨p, h1, h2⟩ := ob_eq h
  obtain ⟨b, sh, ex, hs, hx⟩ := (hi x (by simp [ho, Op.operands])).of_addr h1
  simp only [Option.some.injEq] at h2
  subst h2
  rw [nthL_eq] at hf
  have hf' : fs[f]? = some fd := by simpa using hf
  have := blt_t h0
  refine ⟨_, ?_, .ptr hs⟩
  have hne : n ≠ 0 := by omega
  simp [execOp, ho, Instr.fieldAt, und_run hT hd, hf', hx, Instr.sureAddr, fieldPlace, size_run hT hn, hne, addr_add, Nat.add_assoc]
theorem field_ok (hT : TabOk P T) {t : TypeId} {x : Operand} {f : Nat} {fs : Array Field} {fd : Field} {m : Option Nat} (ho : o.op = .field t x f) (hd : T.und t = some (.struct fs)) (hf : nthL f fs.toList = some fd)
    (hm : aggN T fd.type = some m) : PureOk P o (vField fd.offset m x) := by
  intro N σ s w ρ ρ' v hw hi h
  unfold vField at h
  split at h
  · rename_i cs hc
    have hx := hi x (by simp [ho, Op.operands])
    rw [hc] at hx
    obtain ⟨cs', e, hr⟩ := hx.of_agg
    obtain ⟨v', k1, k2⟩ := part_run hT (w := w) hm hr h
    rw [nthL_eq] at hf
    have hf' : fs[f]? = some fd := by simpa using hf
    exact ⟨v', by simp [execOp, ho, Instr.field, und_run hT hd, hf', e, asAgg, k1], k2⟩
  · cases h
theorem indexAddrA_ok (hT : TabOk P T) {t e : TypeId} {x i : Operand} {len n : Nat} (ho : o.op = .indexAddr t x i) (hd : T.und t = some (.array len e)) (hn : T.size e = some n) : PureOk P o (vIndexAddrA len n x i) := by
  intro N σ s w ρ ρ' v hw hi h
  obtain ⟨j, h1, h2⟩ := ob_eq h
  obtain ⟨h3, h4⟩ := gd_eq h2
  obtain ⟨p, h5, h6⟩ := ob_eq h4
  obtain ⟨k, hk⟩ := (hi i (by simp [ho, Op.operands])).of_nat h1
  obtain ⟨b, sh, ex, hs, hx⟩ := (hi x (by simp [ho, Op.operands])).of_addr h5
  simp only [Option.some.injEq] at h6
  subst h6
  have hj := blt_t h3
  refine ⟨_, ?_, .ptr hs⟩
  simp [execOp, ho, Instr.indexAt, und_run hT hd, hx, hk, asIntOf, Instr.sureAddr, size_run hT hn, addr_add, Nat.add_assoc]
  intro hle; omega
theorem indexAddrS_ok (hT : TabOk P T) {t e : TypeId} {x i : Operand} {n : Nat} (ho : o.op = .indexAddr t x i) (hd : T.und t = some (.slice e)) (hn : T.size e = some n) : PureOk P o (vIndexAddrS n x i) := by
  intro N σ s w ρ ρ' v hw hi h
  obtain ⟨j, h1, h2⟩ := ob_eq h
  obtain ⟨q, h7, h8⟩ := ob_eq h2
  obtain ⟨h3, h4⟩ := gd_eq h8
  obtain ⟨p, h5, h6⟩ := ob_eq h4
  obtain ⟨k, hk⟩ := (hi i (by simp [ho, Op.operands])).of_nat h1
  have hx := hi x (by simp [ho, Op.operands])
  rw [sliceOf_eq h7] at hx
  have e1 := addrOf_eq h5
  simp only [Value.pointer.injEq] at e1
  rw [e1] at hx
  simp only [Option.some.injEq] at h6
  subst h6
  have hj := blt_t h3
  rcases hx.of_slice with ⟨e2, _⟩ | ⟨i', o', b, sh, ex, c', oo, e2, hs, hcap, hx'⟩
  · cases e2
  · cases e2
    have hoff := hcap.off (.inl (by omega))
    subst hoff
    refine ⟨_, ?_, .ptr hs⟩
    simp [execOp, ho, Instr.indexAt, und_run hT hd, hx', hk, asIntOf, size_run hT hn, addr_add, Nat.add_assoc]
    intro hle; omega
theorem indexA_ok (hT : TabOk P T) {t e : TypeId} {x i : Operand} {len n : Nat} {m : Option Nat} (ho : o.op = .index t x i) (hd : T.und t = some (.array len e)) (hn : T.size e = some n) (hm : aggN T e = some m) : PureOk P o (vIndexA len n m x i) := by
  intro N σ s w ρ ρ' v hw hi h
  obtain ⟨j, h1, h2⟩ := ob_eq h
  obtain ⟨h3, h4⟩ := gd_eq h2
  obtain ⟨k, hk⟩ := (hi i (by simp [ho, Op.operands])).of_nat h1
  have hj := blt_t h3
  split at h4
  · rename_i cs hc
    have hx := hi x (by simp [ho, Op.operands])
    rw [hc] at hx
    obtain ⟨cs', e, hr⟩ := hx.of_agg
    obtain ⟨v', k1, k2⟩ := part_run hT (w := w) hm hr h4
    exact ⟨v', by simp [execOp, ho, Instr.index, und_run hT hd, e, hk, asIntOf, size_run hT hn, k1]; intro hle; omega, k2⟩
  · cases h4
theorem extract_ok {t : Operand} {i : Nat} (ho : o.op = .extract t i) : PureOk P o (vExtract t i) := by
  intro N σ s w ρ ρ' v hw hi h
  unfold vExtract at h
  split at h
  · rename_i vs hv
    have hx := hi t (by simp [ho, Op.operands])
    rw [hv] at hx
    obtain ⟨vs', e, hr⟩ := hx.of_tuple
    rw [nthL_eq] at h
    obtain ⟨v', k1, k2⟩ := hr.get h
    have k1' : vs'[i]? = some v' := by simpa using k1
    exact ⟨v', by simp [execOp, ho, Instr.extract, e, k1'], k2⟩
  · cases h
theorem iface_ok (hT : TabOk P T) {t : TypeId} {x : Operand} {d : TypeDesc} (ho : o.op = .makeInterface t x) (hd : T.und t = some d) (hn : ∀ ms, d ≠ .interface ms) : PureOk P o (fun ρ _ => some (.iface t (ρ x))) := by
  intro N σ s w ρ ρ' v hw hi h
  cases h
  refine ⟨.iface t (ρ' x), ?_, .iface t (hi x (by simp [ho, Op.operands]))⟩
  cases d <;> first | (exact absurd rfl (hn _)) | simp [execOp, ho, Instr.makeInterface, und_run hT hd]
end
end Go.Proofs.Yteeamkdblcinnaa.Kern
