/-
  New blocks are calculated rightly. It holds of every program whose table of types and functions fits (TabOk).
-/
import Derived.Test.YteeamkdblcinnaaKernG
import Derived.Laws.Append
namespace Go.Proofs.Yteeamkdblcinnaa.Kern
open Go Go.RowKit

def NewOk (P : Program) (o : Oper) (g : Env → Option (AObj × (Nat → Value))) : Prop :=
  ∀ {σ : Ren} {w : World} {ρ ρ' : Env} {p : AObj × (Nat → Value)}, (∀ x ∈ o.op.operands.toList, VRel σ (ρ x) (ρ' x)) → g ρ = some p →
    ∃ O v', (execOp ρ' o).run P w = .ok (.value v') (w.alloc O) ∧ p.1 ≠ .dead ∧ ∀ (τ : Ren) (i : Nat), σ.le τ → τ i = some (w.heap.size, 0, none) → Real τ 0 none p.1 O ∧ VRel τ (p.2 i) v'

theorem real_cells {τ : Ren} {c : List Value} {C : Array Value} {e : TypeId} (h : LRel τ c C.toList) : Real τ 0 none (.cells c none) (.cells C e (0, 0)) := by
  have hl := h.length
  refine .cells trivial (by simp at hl; omega) ?_
  simp only [List.drop_zero]
  rw [← hl, List.take_length]
  exact h

theorem repeat_get {α : Type} (z : List α) : ∀ (n : Nat), (repeatL z n).length = n * z.length
  | 0 => by simp [repeatL_zero]
  | n + 1 => by rw [repeatL_succ, List.length_append, repeat_get z n, Nat.succ_mul]; omega
theorem repeat_range (z : List Value) : ∀ (n : Nat), (List.range (n * z.length)).map (fun i => z.toArray[i % z.toArray.size]!) = repeatL z n
  | 0 => by simp [repeatL_zero]
  | n + 1 => by
    rw [repeatL_succ, Nat.succ_mul, Nat.add_comm, List.range_add, List.map_append, List.map_map]
    congr 1
    · apply List.ext_getElem
      · simp
      · intro i h1 h2
        have : i < z.length := h2
        simp [Nat.mod_eq_of_lt this, this]
    · rw [← repeat_range z n]
      apply List.map_congr_left
      intro i _
      simp
theorem rel_repeat {σ : Ren} {z : List Value} (h : LRel σ z z) : ∀ (n : Nat), LRel σ (repeatL z n) (repeatL z n)
  | 0 => .nil
  | n + 1 => by rw [repeatL_succ]; exact h.append (rel_repeat h n)

section
variable {P : Program} {T : Tab} {o : Oper}

theorem alloc_ok (hT : TabOk P T) {t : TypeId} {z : Value} (ho : o.op = .alloc t) (hz : T.zero t = some z) : NewOk P o (fun _ => some (.cells z.cells.toList none, ptrTo)) := by
  intro σ w ρ ρ' p hi h
  cases h
  obtain ⟨hz1, hz2⟩ := zero_run hT (w := w) hz
  refine ⟨.cells z.cells t, .pointer (some ⟨w.heap.size, 0, none⟩), ?_, (by simp), fun τ i hle hi => ⟨real_cells (closedV_rel hz2).cells, .ptr hi⟩⟩
  simp [execOp, ho, Instr.alloc, hz1, newVar, newRow]
theorem box_ok {t : TypeId} {x : Operand} (ho : o.op = .box t x) : NewOk P o (fun ρ => some (.cells (ρ x).cells.toList none, ptrTo)) := by
  intro σ w ρ ρ' p hi h
  cases h
  refine ⟨.cells (ρ' x).cells t, .pointer (some ⟨w.heap.size, 0, none⟩), ?_, (by simp), fun τ i hle hi' => ⟨real_cells ((hi x (by simp [ho, Op.operands])).mono hle).cells, .ptr hi'⟩⟩
  simp [execOp, ho, Instr.box, newVar, newRow]
theorem makeMap_ok {t : TypeId} (ho : o.op = .makeMap t none) : NewOk P o (fun _ => some (.map [] 0, fun i => .map (some i))) := by
  intro σ w ρ ρ' p hi h
  cases h
  refine ⟨.map #[] 0, .map (some w.heap.size), ?_, (by simp), fun τ i hle hi' => ⟨.map .nil, .map hi'⟩⟩
  simp [execOp, ho, Instr.makeMap]
theorem buildSl_ok (hT : TabOk P T) {t e : TypeId} {len n : Nat} {ps : Array (Nat × Operand)} {z : Value} (ho : o.op = .buildSlice t len ps) (hd : T.und t = some (.slice e)) (hn : T.size e = some n) (hz : T.zero e = some z)
    (hc : (Nat.beq (lenL z.cells.toList) n && Nat.ble (len * n) 16777216) = true) :
    NewOk P o (fun ρ => ob (fillL ρ (placesA n ps.toList) (repeatL z.cells.toList len)) fun c => some (.cells c none, fun i => .slice (some ⟨i, 0, none⟩) len len)) := by
  intro σ w ρ ρ' p hi h
  obtain ⟨c, h1, h2⟩ := ob_eq h
  cases h2
  obtain ⟨hz1, hz2⟩ := zero_run hT (w := w) hz
  simp only [Bool.and_eq_true] at hc
  have hzn := beq_t hc.1
  rw [lenL_eq] at hzn
  have hle := ble_t hc.2
  obtain ⟨i1, i2⟩ := placesA_ok n ps.toList
  have hmem : ∀ x ∈ ps.toList, VRel σ (ρ x.2) (ρ' x.2) := fun x hx => hi _ (by
    simp only [ho, Op.operands, List.mem_map]
    exact ⟨x, hx, rfl⟩)
  let Z : Array Value := if len * n = 0 then #[] else z.cells
  have hZ : ((Array.range (len * n)).map fun i => Z[i % Z.size]!).toList = repeatL z.cells.toList len := by
    have e := repeat_range z.cells.toList len
    rw [hzn] at e
    by_cases h0 : len * n = 0
    · rw [← e]; simp [h0]
    · rw [← e]; simp [Z, h0]
  obtain ⟨R, k1, k2⟩ := fill_ok (σ := σ) (ρ := ρ) (ρ' := ρ') (fun i => some (i * n, n)) ps.toList _ (repeatL z.cells.toList len) c ((Array.range (len * n)).map fun i => Z[i % Z.size]!) hmem i1 i2
    (by rw [hZ]; exact rel_repeat (closedV_rel hz2).cells len) h1
  refine ⟨.cells R e, .slice (some ⟨w.heap.size, 0, none⟩) len len, ?_, (by simp), fun τ i hle' hi' => ⟨real_cells (k2.mono hle'), .slice (o := 0) (o' := 0) hi' ⟨rfl, rfl⟩⟩⟩
  have e3 : (ps.map fun p => (p.1, ρ' p.2)).toList = ps.toList.map fun p => (p.1, ρ' p.2) := by simp
  have hnot : ¬ len * n > 2 ^ 24 := by simp; exact hle
  simp only [execOp, ho, Sem.run_bind, Instr.buildSlice, und_run hT hd, size_run hT hn, andThen_ok', Sem.run_ite, hnot, if_false, Sem.run_pure]
  by_cases h0 : len * n = 0
  · have hk : Instr.fill (fun i => some (i * n, n)) ((Array.range (len * n)).map fun i => (#[] : Array Value)[i % (#[] : Array Value).size]!) (ps.toList.map fun p => (p.1, ρ' p.2)) = some R := by
      have := k1; simp only [Z, if_pos h0] at this; exact this
    simp only [if_pos h0, andThen_ok', e3, hk, newRow, Sem.run_bind, Sem.run_pure, run_newObj, World.alloc_eq]
  · have hk : Instr.fill (fun i => some (i * n, n)) ((Array.range (len * n)).map fun i => z.cells[i % z.cells.size]!) (ps.toList.map fun p => (p.1, ρ' p.2)) = some R := by
      have := k1; simp only [Z, if_neg h0] at this; exact this
    simp only [if_neg h0, hz1, andThen_ok', e3, hk, newRow, Sem.run_bind, Sem.run_pure, run_newObj, World.alloc_eq]
theorem bytes_run (hT : TabOk P T) {w : World} {t : TypeId} {n : Nat} (h : T.bytes t = some n) : ∃ i, (typeInfo t).run P w = .ok i w ∧ i.bytes = n := by
  obtain ⟨i, h1, h2⟩ := ob_eq h
  simp only [Option.some.injEq] at h2
  exact ⟨i, by simp [typeInfo, hT.types h1], h2⟩
theorem makeSl_ok (hT : TabOk P T) {t e : TypeId} {l c : Operand} {n by' : Nat} {z : Value} (ho : o.op = .makeSlice t l c) (hd : T.und t = some (.slice e)) (hn : T.size e = some n) (hz : T.zero e = some z) (hby : T.bytes e = some by')
    (hc : (Nat.beq (lenL z.cells.toList) n && Nat.ble by' 1048576) = true) : NewOk P o (eMakeSl z.cells.toList n l c) := by
  intro σ w ρ ρ' p hi h
  obtain ⟨ln, h1, h2⟩ := ob_eq h
  obtain ⟨cn, h3, h4⟩ := ob_eq h2
  obtain ⟨h5, h6⟩ := gd_eq h4
  cases h6
  simp only [Bool.and_eq_true] at hc h5
  have hzn := beq_t hc.1
  rw [lenL_eq] at hzn
  have b1 := ble_t hc.2
  have b2 := ble_t h5.1.1
  have b3 := ble_t h5.1.2
  obtain ⟨hz1, hz2⟩ := zero_run hT (w := w) hz
  obtain ⟨inf, hb1, hb2⟩ := bytes_run hT (w := w) hby
  obtain ⟨kl, hl⟩ := (hi l (by simp [ho, Op.operands])).of_nat h1
  obtain ⟨kc, hcv⟩ := (hi c (by simp [ho, Op.operands])).of_nat h3
  let Z : Array Value := if cn * n = 0 then #[] else z.cells
  have hZ : ((Array.range (cn * n)).map fun i => Z[i % Z.size]!).toList = repeatL z.cells.toList cn := by
    have e := repeat_range z.cells.toList cn
    rw [hzn] at e
    by_cases h0 : cn * n = 0
    · rw [← e]; simp [h0]
    · rw [← e]; simp [Z, h0]
  refine ⟨.cells ((Array.range (cn * n)).map fun i => Z[i % Z.size]!) e, .slice (some ⟨w.heap.size, 0, none⟩) ln cn, ?_, (by simp), fun τ i hle' hi' => ⟨real_cells (by rw [hZ]; exact rel_repeat (closedV_rel hz2).cells cn), .slice (o := 0) (o' := 0) hi' ⟨rfl, rfl⟩⟩⟩
  have w1 : IntKind.i64.wrap (ln : Int) = ln := IntWalk.i64_in _ (by omega)
  have w2 : IntKind.i64.wrap (cn : Int) = cn := IntWalk.i64_in _ (by omega)
  have hmul : ((by' * cn : Nat) : Int) ≤ ((68719476736 : Nat) : Int) := Int.ofNat_le.2 (Nat.le_trans (Nat.mul_le_mul b1 b3) (by decide))
  have t2 : ¬ (2 ^ 48 < (by' : Int) * cn) := by
    rw [← Int.natCast_mul]
    exact Int.not_lt.2 (Int.le_trans hmul (by decide))
  have g1 : (decide ((cn : Int) < 0) || decide ((by' : Int) * cn > 2 ^ 48)) = false := by
    rw [Bool.or_eq_false_iff]
    exact ⟨decide_eq_false (by omega), decide_eq_false t2⟩
  have g2 : decide ((ln : Int) < 0) = false := decide_eq_false (by omega)
  have g3 : decide ((ln : Int) > cn) = false := decide_eq_false (by omega)
  simp only [execOp, ho, Sem.run_bind, Instr.makeSlice, und_run hT hd, hl, hcv, asInt, asIntOf, andThen_ok', Sem.run_pure, hb1, hb2, w1, w2, g1, g2, g3, Bool.or_false, Bool.false_eq_true, if_false, run_askRoom, size_run hT hn, Int.toNat_natCast, Sem.run_ite]
  by_cases h0 : cn * n = 0
  · simp only [if_pos h0, andThen_ok', newRow, Sem.run_bind, Sem.run_pure, run_newObj, World.alloc_eq, Z]
  · simp only [if_neg h0, hz1, andThen_ok', newRow, Sem.run_bind, Sem.run_pure, run_newObj, World.alloc_eq, Z]
end
end Go.Proofs.Yteeamkdblcinnaa.Kern
