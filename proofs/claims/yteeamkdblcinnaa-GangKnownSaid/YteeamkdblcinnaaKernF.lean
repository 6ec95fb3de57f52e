/-
  Comparison, arithmetic and length are calculated rightly. It holds of every program whose table of types and functions fits (TabOk).
-/
import Derived.Test.YteeamkdblcinnaaKernE
import Derived.Laws.StructEq
namespace Go.Proofs.Yteeamkdblcinnaa.Kern
open Go Go.RowKit

theorem closed1_eq {σ : Ren} {v v' : Value} (h : closed1 v = true) (hr : VRel σ v v') : v' = v := by
  unfold closed1 at h
  split at h
  · exact hr.of_bool
  · exact hr.of_int
  · exact hr.of_string
  · cases hr; rfl
  · cases hr; rfl
  · cases hr; rfl
  · cases hr; rfl
  · cases hr; rfl
  · cases h
theorem closedL_eq {σ : Ren} : ∀ {l l' : List Value}, l.all closed1 = true → LRel σ l l' → l' = l
  | [], _, _, .nil => rfl
  | v :: l, _, h, .cons hv ht => by
    simp at h
    rw [closed1_eq h.1 hv, closedL_eq (by simpa using h.2) ht]

theorem boolEq_eq (a b : Bool) : boolEq a b = (a == b) := by cases a <;> cases b <;> rfl
theorem litEq_iff (a b : Lit) (h : litEq a b = true) : a = b := by
  unfold litEq at h
  split at h
  · rw [boolEq_eq] at h; simp at h; rw [h]
  · simp only [Bool.and_eq_true, intEq_eq, beq_iff_eq] at h
    rw [kindEq_eq h.1, h.2]
  · rw [bytesEq_eq] at h; simp at h; rw [h]
  · rfl
  · simp only [Bool.and_eq_true, decide_eq_true_eq] at h
    rw [h.1, beq_t h.2]
  · cases h
theorem litEq_self : ∀ (a : Lit), litEq a a = true
  | .bool a => by rw [litEq, boolEq_eq]; simp
  | .int k a => by simp [litEq, kindEq_self, intEq_eq]
  | .string a => by rw [litEq, bytesEq_eq]; simp
  | .nil => rfl
  | .float k a => by simp [litEq]
theorem litsEq_iff : ∀ (a b : List Lit), litsEq a b = true ↔ a = b
  | [], [] => by simp [litsEq]
  | [], _ :: _ => by simp [litsEq]
  | _ :: _, [] => by simp [litsEq]
  | a :: x, b :: y => by
    simp only [litsEq, Bool.and_eq_true, litsEq_iff x y, List.cons.injEq]
    exact ⟨fun h => ⟨litEq_iff _ _ h.1, h.2⟩, fun h => ⟨by rw [h.1]; exact litEq_self _, h.2⟩⟩

theorem eqBin_eq {op : BinOp} {r : Bool} {v : Value} (h : eqBin op r = some v) : (op = .eql ∧ v = .bool r) ∨ (op = .neq ∧ v = .bool (!r)) := by
  unfold eqBin at h
  split at h
  · left; exact ⟨rfl, by simpa using h.symm⟩
  · right; exact ⟨rfl, by simpa using h.symm⟩
  · cases h

section
variable {P : Program} {w : World}
theorem equal_agg {t : TypeId} {a b : Array Value} {r : Bool} (hk : P.keyTypeAt 20 t = true) (h : gd (a.toList.all closed1 && b.toList.all closed1 && Value.formed P t (.agg a) && Value.formed P t (.agg b))
    (ob (P.keyLits 21 t a.toList) fun la => ob (P.keyLits 21 t b.toList) fun lb => some (litsEq la lb)) = some r) : (Op.equalIn 10000 t (.agg a) (.agg b)).run P w = .ok r w := by
  obtain ⟨h1, h2⟩ := gd_eq h
  obtain ⟨la, h3, h4⟩ := ob_eq h2
  obtain ⟨lb, h5, h6⟩ := ob_eq h4
  simp only [Bool.and_eq_true] at h1
  obtain ⟨r', e1, e2⟩ := run_equalIn_deep (P := P) 9980 20 t hk w 21 21 (.agg a) (.agg b) la lb h1.1.2 h1.2 h3 h5
  cases h6
  have : r' = litsEq la lb := by
    rw [Bool.eq_iff_iff, e2, litsEq_iff]
  rw [this] at e1
  exact e1

theorem eqD_in {σ : Ren} {d : TypeDesc} {t : TypeId} (hd : P.underlying t = some d) {x y x' y' : Value} {r : Bool} (hx : VRel σ x x') (hy : VRel σ y y') (h : eqD d x y = some r) (n : Nat) :
    (Op.equalIn (n + 1) t x' y').run P w = .ok r w := by
  have ul := run_underlying (P := P) hd
  unfold eqD at h
  split at h
  · rw [hx.of_bool, hy.of_bool]; simp only [Option.some.injEq] at h; subst h; simp [Op.equalIn, ul, boolEq_eq]
  · cases hx; cases hy <;> cases h <;> simp [Op.equalIn, ul]
  · cases hx; cases hy; cases h; simp [Op.equalIn, ul]
  · cases hx; cases hy <;> cases h <;> simp [Op.equalIn, ul]
  · cases hx; cases hy; cases h; simp [Op.equalIn, ul]
  · cases hx; cases hy <;> cases h <;> simp [Op.equalIn, ul]
  · cases hx; cases hy; cases h; simp [Op.equalIn, ul]
  · cases hx; cases hy; cases h; simp [Op.equalIn, ul]
  · cases hx; cases hy <;> cases h <;> simp [Op.equalIn, ul]
  · cases hy; cases hx <;> cases h <;> simp [Op.equalIn, ul]
  · cases hx; cases hy; cases h; simp [Op.equalIn, ul]
  · cases hx; cases hy; cases h; simp [Op.equalIn, ul]
  · cases h
theorem eqD_guard {σ : Ren} {d : TypeDesc} {t : TypeId} {x y x' y' : Value} {r : Bool} (hx : VRel σ x x') (hy : VRel σ y y') (h : eqD d x y = some r) (op : BinOp) (a b : Operand) :
    (eqGuard op t a b x' y').run P w = .ok () w := by
  unfold eqD at h
  split at h
  · rw [hx.of_bool, hy.of_bool]; cases op <;> rfl
  · cases hx; cases hy <;> cases op <;> rfl
  · cases hx; cases hy; cases op <;> rfl
  · cases hx; cases hy <;> cases op <;> rfl
  · cases hx; cases hy; cases op <;> rfl
  · cases hx; cases hy <;> cases op <;> rfl
  · cases hx; cases hy; cases op <;> rfl
  · cases hx; cases hy; cases op <;> rfl
  · cases hx; cases hy <;> cases op <;> rfl
  · cases hy; cases hx <;> cases op <;> rfl
  · cases hx; cases hy; cases op <;> rfl
  · cases hx; cases hy; cases op <;> rfl
  · cases h
theorem eqD_bin {σ : Ren} {d : TypeDesc} {t : TypeId} {x y x' y' : Value} {r : Bool} (hx : VRel σ x x') (hy : VRel σ y y') (h : eqD d x y = some r) :
    binOp .eql t x' y' = (do pure (.bool (← Op.equal t x' y'))) ∧ binOp .neq t x' y' = (do pure (.bool (!(← Op.equal t x' y')))) := by
  unfold eqD at h
  split at h
  · rw [hx.of_bool, hy.of_bool]; exact ⟨rfl, rfl⟩
  · cases hx; cases hy <;> exact ⟨rfl, rfl⟩
  · cases hx; cases hy; exact ⟨rfl, rfl⟩
  · cases hx; cases hy <;> exact ⟨rfl, rfl⟩
  · cases hx; cases hy; exact ⟨rfl, rfl⟩
  · cases hx; cases hy <;> exact ⟨rfl, rfl⟩
  · cases hx; cases hy; exact ⟨rfl, rfl⟩
  · cases hx; cases hy; exact ⟨rfl, rfl⟩
  · cases hx; cases hy <;> exact ⟨rfl, rfl⟩
  · cases hy; cases hx <;> exact ⟨rfl, rfl⟩
  · cases hx; cases hy; exact ⟨rfl, rfl⟩
  · cases hx; cases hy; exact ⟨rfl, rfl⟩
  · cases h

theorem le_not (a b : Int) : decide (a ≤ b) = !decide (b < a) := by by_cases h : b < a <;> simp [h] <;> omega
theorem bt_not (b : Bool) : bt b false true = !b := by cases b <;> rfl
theorem nz {b : Int} (hz : bt (intEq b 0) false true = true) : b ≠ 0 := by
  intro e; subst e; rw [intEq_eq] at hz; simp at hz
theorem intBin_run {op : BinOp} {t : TypeId} {k : IntKind} {a b : Int} {v : Value} (h : intBin op k a b = some v) : (binOp op t (.int k a) (.int k b)).run P w = .ok v w := by
  unfold intBin at h
  split at h
  · cases h; simp [binOp, Op.intArith, wrapF_eq]
  · cases h; simp [binOp, Op.intArith, wrapF_eq]
  · cases h; simp [binOp, Op.intArith, wrapF_eq]
  · cases h; simp [binOp, Op.intCmp, intEq_eq]
  · cases h; simp [binOp, Op.intCmp, intEq_eq, bt_not, bne]
  · cases h; simp [binOp, Op.intCmp, intLt_eq]
  · cases h; simp [binOp, Op.intCmp, intLt_eq, bt_not, le_not]
  · cases h; simp [binOp, Op.intCmp, intLt_eq]
  · cases h; simp [binOp, Op.intCmp, intLt_eq, bt_not, le_not]
  · obtain ⟨hz, h⟩ := gd_eq h
    cases h; simp [binOp, Op.intDiv, nz hz, wrapF_eq]
  · obtain ⟨hz, h⟩ := gd_eq h
    cases h; simp [binOp, Op.intDiv, nz hz]
  · cases h; simp [binOp, Op.intBits]
  · cases h; simp [binOp, Op.intBits]
  · cases h; simp [binOp, Op.intBits]
  · cases h; simp [binOp, Op.intBits]
  · cases h
theorem shl_run {t : TypeId} {k k' : IntKind} {a b : Int} {v : Value} (h : shlF k a b = some v) : (binOp .shl t (.int k a) (.int k' b)).run P w = .ok v w ∧ closed1 v = true := by
  unfold shlF at h
  split at h
  · cases h; exact ⟨by simp [binOp, Op.shift]; omega, rfl⟩
  · cases h
theorem shr_run {t : TypeId} {k k' : IntKind} {a b : Int} {v : Value} (h : shrF k a b = some v) : (binOp .shr t (.int k a) (.int k' b)).run P w = .ok v w ∧ closed1 v = true := by
  unfold shrF at h
  split at h
  · cases h; exact ⟨by simp [binOp, Op.shift]; omega, rfl⟩
  · cases h
end

theorem intBin_closed {op : BinOp} {k : IntKind} {a b : Int} {v : Value} (h : intBin op k a b = some v) : closed1 v = true := by
  unfold intBin at h
  split at h
  · cases h; rfl
  · cases h; rfl
  · cases h; rfl
  · cases h; rfl
  · cases h; rfl
  · cases h; rfl
  · cases h; rfl
  · cases h; rfl
  · cases h; rfl
  · cases (gd_eq h).2; rfl
  · cases (gd_eq h).2; rfl
  · cases h; rfl
  · cases h; rfl
  · cases h; rfl
  · cases h; rfl
  · cases h
theorem intOp_run {P : Program} {w : World} {op : BinOp} {t : TypeId} {k : IntKind} {a : Int} {p : IntKind × Int} {v : Value} (h : intOp op k a p = some v) : (binOp op t (.int k a) (.int p.1 p.2)).run P w = .ok v w ∧ closed1 v = true := by
  unfold intOp at h
  split at h
  · exact shl_run h
  · exact shr_run h
  · obtain ⟨h3, h4⟩ := gd_eq h
    rw [← kindEq_eq h3]
    exact ⟨intBin_run h4, intBin_closed h4⟩

section
variable {P : Program} {T : Tab} {o : Oper}
theorem andThen_ok' {α β : Type} {a : α} {w : World} {k : α → World → Result β} : (Result.ok a w).andThen k = k a w := rfl

theorem bin_ok (hT : TabOk P T) (hP : T.prog = P) {op : BinOp} {t yT : TypeId} {x y : Operand} {d : TypeDesc} (ho : o.op = .binOp op t x y yT) (hd : T.und t = some d) :
    PureOk P o (binV T d t (T.prog.keyTypeAt 20 t && !T.prog.eqGuardType T.prog.depth t) op x y) := by
  intro N σ s w ρ ρ' v hw hi h
  have hx := hi x (by simp [ho, Op.operands])
  have hy := hi y (by simp [ho, Op.operands])
  have hd' := und_ok hT hd
  unfold binV at h
  cases hc : intOfV (ρ x) with
  | some p =>
    rw [hc] at h
    obtain ⟨q, h1, h2⟩ := ob_eq h
    rw [intOfV_eq hc] at hx
    rw [intOfV_eq h1] at hy
    obtain hx' := hx.of_int
    obtain hy' := hy.of_int
    obtain ⟨this, hcl⟩ := intOp_run (P := P) (w := w) (t := t) h2
    have hg : (eqGuard op t x y (.int p.1 p.2) (.int q.1 q.2)).run P w = .ok () w := by cases op <;> rfl
    refine ⟨v, ?_, ?_⟩
    · simp only [execOp, ho, hx', hy', Sem.run_bind, hg, this, andThen_ok', Sem.run_pure]
    · exact closed1_rel hcl
  | none =>
    rw [hc] at h
    change binV2 T d t _ op (ρ x) (ρ y) = some v at h
    unfold binV2 at h
    split at h
    · rename_i a b ha hb
      obtain ⟨hfl, h1⟩ := gd_eq h
      simp only [Bool.and_eq_true, Bool.not_eq_true', hP] at hfl
      obtain ⟨r, h2, h3⟩ := ob_eq h1
      rw [ha] at hx
      rw [hb] at hy
      obtain ⟨a', ea, ra⟩ := hx.of_agg
      obtain ⟨b', eb, rb⟩ := hy.of_agg
      unfold aggEq at h2
      rw [hP] at h2
      have hcl := (gd_eq h2).1
      simp only [Bool.and_eq_true] at hcl
      have e1 : a' = a := by
        have := closedL_eq hcl.1.1.1 ra
        exact Array.toList_inj.1 this
      have e2 : b' = b := by
        have := closedL_eq hcl.1.1.2 rb
        exact Array.toList_inj.1 this
      subst e1 e2
      have he := equal_agg (w := w) hfl.1 h2
      have hg : (eqGuard op t x y (.agg a') (.agg b')).run P w = .ok () w := by cases op <;> simp [eqGuard, hfl.2]
      rcases eqBin_eq h3 with ⟨rfl, rfl⟩ | ⟨rfl, rfl⟩
      · exact ⟨_, by simp only [execOp, ho, ea, eb, Sem.run_bind, hg, andThen_ok', run_eql_struct, he, Sem.run_pure], .bool _⟩
      · exact ⟨_, by simp only [execOp, ho, ea, eb, Sem.run_bind, hg, andThen_ok', run_neq_struct, he, Sem.run_pure], .bool _⟩
    · rename_i a b ha hb
      rw [ha] at hx
      rw [hb] at hy
      have ea := hx.of_string
      have eb := hy.of_string
      have hbe : (a.toList == b.toList) = bytesEq a.data.toList b.data.toList := by rw [bytesEq_eq, ByteArray.toList_eq, ByteArray.toList_eq]
      have hx1 : a.data.toList = a.toList := (ByteArray.toList_eq _).symm
      have hx2 : b.data.toList = b.toList := (ByteArray.toList_eq _).symm
      unfold strBin at h
      split at h
      · obtain ⟨h1, h2⟩ := gd_eq h
        cases h2
        simp only [Bool.and_eq_true] at h1
        have l1 := ble_t h1.1
        have l2 := ble_t h1.2
        rw [lenL_eq, Array.length_toList] at l1 l2
        have l1' : a.size ≤ 65536 := l1
        have l2' : b.size ≤ 65536 := l2
        have hmax : IntKind.i64.max = 9223372036854775807 := by decide
        have hno : ¬ (((a.size + b.size : Nat) : Int) > IntKind.i64.max) := by rw [hmax]; omega
        have happ : a ++ b = ⟨⟨a.data.toList ++ b.data.toList⟩⟩ := by
          apply ByteArray.ext
          rw [ByteArray.data_append]
          apply Array.ext'
          simp
        refine ⟨.string (a ++ b), ?_, by rw [happ]; exact .string _⟩
        simp [execOp, ho, ea, eb, eqGuard, binOp, Op.stringOp, hmax]
        omega
      · cases h
        exact ⟨(.bool (Op.bytesLess a.toList b.toList)), by simp [execOp, ho, ea, eb, eqGuard, binOp, Op.stringOp], by rw [hx1, hx2]; exact .bool _⟩
      · cases h
        exact ⟨(.bool (Op.bytesLess a.toList b.toList || a.toList == b.toList)), by simp [execOp, ho, ea, eb, eqGuard, binOp, Op.stringOp], by rw [← hbe, hx1, hx2]; exact .bool _⟩
      · cases h
        exact ⟨(.bool !(Op.bytesLess a.toList b.toList || a.toList == b.toList)), by simp [execOp, ho, ea, eb, eqGuard, binOp, Op.stringOp], by rw [← hbe, hx1, hx2]; exact .bool _⟩
      · cases h
        exact ⟨(.bool !(Op.bytesLess a.toList b.toList)), by simp [execOp, ho, ea, eb, eqGuard, binOp, Op.stringOp], by rw [hx1, hx2]; exact .bool _⟩
      · rcases eqBin_eq h with ⟨rfl, rfl⟩ | ⟨rfl, rfl⟩
        · exact ⟨_, by simp [execOp, ho, ea, eb, eqGuard, binOp, Op.stringOp, ← hbe], .bool _⟩
        · exact ⟨_, by simp [execOp, ho, ea, eb, eqGuard, binOp, Op.stringOp, ← hbe], .bool _⟩
    · obtain ⟨r, h2, h3⟩ := ob_eq h
      have he := eqD_in (w := w) hd' hx hy h2 9999
      have hg := eqD_guard (P := P) (w := w) (t := t) hx hy h2 op x y
      obtain ⟨b1, b2⟩ := eqD_bin (t := t) hx hy h2
      have he' : (Op.equal t (ρ' x) (ρ' y)).run P w = .ok r w := he
      rcases eqBin_eq h3 with ⟨rfl, rfl⟩ | ⟨rfl, rfl⟩
      · exact ⟨_, by simp only [execOp, ho, Sem.run_bind, hg, andThen_ok', b1, he', Sem.run_pure], .bool _⟩
      · exact ⟨_, by simp only [execOp, ho, Sem.run_bind, hg, andThen_ok', b2, he', Sem.run_pure], .bool _⟩

theorem un_ok {op : UnOp} {t : TypeId} {x : Operand} (ho : o.op = .unOp op t x) : PureOk P o (fun ρ _ => unV op (ρ x)) := by
  intro N σ s w ρ ρ' v hw hi h
  have hx := hi x (by simp [ho, Op.operands])
  simp only [unV] at h
  split at h
  · rename_i b hb
    rw [hb] at hx
    have := hx.of_bool
    cases h
    exact ⟨.bool (!b), by simp [execOp, ho, this, Op.unary], by rw [bt_not]; exact .bool _⟩
  · rename_i k n hb
    rw [hb] at hx
    have := hx.of_int
    cases h
    exact ⟨.int k (k.wrap (0 - n)), by simp [execOp, ho, this, Op.unary, Op.intArith], by rw [wrapF_eq]; exact .int _ _⟩
  · cases h

theorem call_arg_mem {c : Call} {b : Builtin} (hc : c.callee = .builtin b) {x : Operand} (h : x ∈ c.args.toList) : x ∈ (Op.call c).operands.toList := by
  simp only [Op.operands, Call.operands, hc]
  simpa using h
theorem lenStr_ok (hT : TabOk P T) {c : Call} {t : TypeId} {x : Operand} {ts : List TypeId} {xs : List Operand} (ho : o.op = .call c) (hc : c.callee = .builtin .len) (ht : c.argTypes.toList = t :: ts) (ha : c.args.toList = x :: xs)
    (hd : T.und t = some .string) : PureOk P o (vLenStr x) := by
  intro N σ s w ρ ρ' v hw hi h
  have hx := hi x (by rw [ho]; exact call_arg_mem hc (by rw [ha]; simp))
  have e1 : c.argTypes[0]? = some t := by rw [← Array.getElem?_toList, ht]; rfl
  have e2 : (c.args.map ρ')[0]? = some (ρ' x) := by rw [← Array.getElem?_toList]; simp [ha]
  unfold vLenStr at h
  split at h
  · rename_i str hs
    rw [hs] at hx
    have := hx.of_string
    cases h
    refine ⟨_, ?_, .int _ _⟩
    simp [execOp, ho, resolve, hc, invoke, builtin, Builtin.len_, e1, e2, und_run hT hd, this, goInt, lenL_eq]
  · cases h
theorem lenSl_ok (hT : TabOk P T) {c : Call} {t e : TypeId} {x : Operand} {ts : List TypeId} {xs : List Operand} (ho : o.op = .call c) (hc : c.callee = .builtin .len) (ht : c.argTypes.toList = t :: ts) (ha : c.args.toList = x :: xs)
    (hd : T.und t = some (.slice e)) : PureOk P o (vLenSl x) := by
  intro N σ s w ρ ρ' v hw hi h
  have hx := hi x (by rw [ho]; exact call_arg_mem hc (by rw [ha]; simp))
  have e1 : c.argTypes[0]? = some t := by rw [← Array.getElem?_toList, ht]; rfl
  have e2 : (c.args.map ρ')[0]? = some (ρ' x) := by rw [← Array.getElem?_toList]; simp [ha]
  obtain ⟨q, h1, h2⟩ := ob_eq h
  rw [sliceOf_eq h1] at hx
  cases h2
  rcases hx.of_slice with ⟨_, e⟩ | ⟨_, _, _, _, _, _, _, _, _, _, e⟩ <;>
    exact ⟨_, by simp [execOp, ho, resolve, hc, invoke, builtin, Builtin.len_, e1, e2, und_run hT hd, e, goInt], .int _ _⟩
theorem lenArr_ok (hT : TabOk P T) {c : Call} {t e : TypeId} {n : Nat} {x : Operand} {ts : List TypeId} {xs : List Operand} (ho : o.op = .call c) (hc : c.callee = .builtin .len) (ht : c.argTypes.toList = t :: ts) (ha : c.args.toList = x :: xs)
    (hd : T.und t = some (.array n e)) : PureOk P o (fun _ _ => some (.int .i64 (.ofNat n))) := by
  intro N σ s w ρ ρ' v hw hi h
  have e1 : c.argTypes[0]? = some t := by rw [← Array.getElem?_toList, ht]; rfl
  have e2 : (c.args.map ρ')[0]? = some (ρ' x) := by rw [← Array.getElem?_toList]; simp [ha]
  cases h
  exact ⟨_, by simp [execOp, ho, resolve, hc, invoke, builtin, Builtin.len_, e1, e2, und_run hT hd, goInt], .int _ _⟩

theorem mapAt_rel {N : Nat} {σ : Ren} {s : St} {w : World} (hw : WRel N σ s w) {x x' : Value} {es : List (Value × Value × Nat)} (hx : VRel σ x x') (h : mapAt s.heap x = some es) :
    (x' = .map none ∧ es = []) ∨ ∃ b E c, x' = .map (some b) ∧ w.heap[b]? = some (.map E c) ∧ ERel σ es E.toList := by
  unfold mapAt at h
  split at h
  · cases h; exact .inl ⟨hx.of_mapNil, rfl⟩
  · obtain ⟨b, sh, ex, hs, e⟩ := hx.of_map
    obtain ⟨p, h1, h2⟩ := ob_eq h
    cases h2
    obtain ⟨E, k1, k2⟩ := hw.mapAt hs h1
    exact .inr ⟨b, E, _, e, k1, k2⟩
  · cases h
theorem lenMap_ok (hT : TabOk P T) {c : Call} {t kt e : TypeId} {x : Operand} {ts : List TypeId} {xs : List Operand} (ho : o.op = .call c) (hc : c.callee = .builtin .len) (ht : c.argTypes.toList = t :: ts) (ha : c.args.toList = x :: xs)
    (hd : T.und t = some (.map kt e)) : PureOk P o (vLenMap x) := by
  intro N σ s w ρ ρ' v hw hi h
  have hx := hi x (by rw [ho]; exact call_arg_mem hc (by rw [ha]; simp))
  have e1 : c.argTypes[0]? = some t := by rw [← Array.getElem?_toList, ht]; rfl
  have e2 : (c.args.map ρ')[0]? = some (ρ' x) := by rw [← Array.getElem?_toList]; simp [ha]
  obtain ⟨es, h1, h2⟩ := ob_eq h
  cases h2
  rcases mapAt_rel hw hx h1 with ⟨e, rfl⟩ | ⟨b, E, cl, e, hb, hE⟩
  · exact ⟨_, by simp [execOp, ho, resolve, hc, invoke, builtin, Builtin.len_, e1, e2, und_run hT hd, e, goInt, lenL_eq], .int _ _⟩
  · have hl : E.size = es.length := by simpa using hE.length
    exact ⟨_, by simp [execOp, ho, resolve, hc, invoke, builtin, Builtin.len_, e1, e2, und_run hT hd, e, goInt, lenL_eq, getObj, Sem.run, hb, hl], .int _ _⟩

theorem indexStr_ok (hT : TabOk P T) {t : TypeId} {x i : Operand} (ho : o.op = .index t x i) (hd : T.und t = some .string) : PureOk P o (vIndexStr x i) := by
  intro N σ s w ρ ρ' v hw hi h
  obtain ⟨j, h1, h2⟩ := ob_eq h
  obtain ⟨k, hk⟩ := (hi i (by simp [ho, Op.operands])).of_nat h1
  have hx := hi x (by simp [ho, Op.operands])
  split at h2
  · rename_i str hs
    rw [hs] at hx
    have e := hx.of_string
    obtain ⟨b, h3, h4⟩ := ob_eq h2
    cases h4
    rw [nthL_eq] at h3
    have hb : str[j]? = some b := by
      have h3' : str.data[j]? = some b := by simpa using h3
      have hlt := (Array.getElem?_eq_some_iff.1 h3').1
      rw [getElem?_pos str j hlt]
      exact congrArg some (Array.getElem?_eq_some_iff.1 h3').2
    exact ⟨_, by simp [execOp, ho, Instr.index, und_run hT hd, e, hk, asIntOf, hb], .int _ _⟩
  · cases h2
end
end Go.Proofs.Yteeamkdblcinnaa.Kern
