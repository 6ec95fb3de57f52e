/-
  Least and greatest numbers, copies and checks for nil are calculated rightly. It holds of every program whose table of types and functions fits (TabOk).
-/
import Derived.Test.YteeamkdblcinnaaKernS
namespace Go.Proofs.Yteeamkdblcinnaa.Kern
open Go Go.RowKit

section
variable {P : Program} {T : Tab} {o : Oper}

theorem ext2_ok {σ : Ren} {w : World} {mx : Bool} {x y x' y' v : Value} (hx : VRel σ x x') (hy : VRel σ y y') (h : ext2 mx x y = some v) :
    ((if mx then Builtin.max2 else Builtin.min2) x' y').run P w = .ok v w ∧ VRel σ v v := by
  obtain ⟨p, h1, h2⟩ := ob_eq h
  obtain ⟨q, h3, h4⟩ := ob_eq h2
  cases h4
  rw [intOfV_eq h1] at hx
  rw [intOfV_eq h3] at hy
  rw [hx.of_int, hy.of_int]
  refine ⟨?_, .int _ _⟩
  cases mx with
  | true =>
    simp only [bt_true, intLt_eq, if_true, Builtin.max2]
    by_cases hlt : p.2 < q.2 <;> simp [hlt]
  | false =>
    simp only [bt_false, intLt_eq, Bool.false_eq_true, if_false, Builtin.min2]
    by_cases hlt : q.2 < p.2 <;> simp [hlt]
theorem extL_ok {σ : Ren} {w : World} {mx : Bool} : ∀ {ys ys' : List Value} {x x' v : Value}, LRel σ ys ys' → VRel σ x x' → extL mx ys x = some v →
    ∃ v', (ys'.foldlM (if mx then Builtin.max2 else Builtin.min2) x').run P w = .ok v' w ∧ VRel σ v v'
  | [], _, x, x', v, .nil, hx, h => by
    have h' : some x = some v := h
    cases h'
    exact ⟨x', by simp, hx⟩
  | y :: ys, _, x, x', v, .cons hy ht, hx, h => by
    obtain ⟨z, h1, h2⟩ := ob_eq (show ob (ext2 mx x y) (extL mx ys) = some v from h)
    obtain ⟨k1, k2⟩ := ext2_ok (P := P) (w := w) hx hy h1
    obtain ⟨v', k3, k4⟩ := extL_ok ht k2 h2
    exact ⟨v', by rw [List.foldlM_cons, Sem.run_bind, k1, andThen_ok', k3], k4⟩

theorem mapL_rel {σ : Ren} {ρ ρ' : Env} : ∀ {l : List Operand}, (∀ x ∈ l, VRel σ (ρ x) (ρ' x)) → LRel σ (mapL ρ l) (l.map ρ')
  | [], _ => .nil
  | x :: l, h => .cons (h x (by simp)) (mapL_rel fun y hy => h y (by simp [hy]))

theorem ext_ok {c : Call} {mx : Bool} {x : Operand} {xs : List Operand} (ho : o.op = .call c) (hc : c.callee = .builtin (if mx then .max else .min)) (ha : c.args.toList = x :: xs) : PureOk P o (vExt mx x xs) := by
  intro N σ s w ρ ρ' v hw hi h
  have hm : ∀ y ∈ c.args.toList, VRel σ (ρ y) (ρ' y) := fun y hy => hi y (by rw [ho]; exact call_arg_mem hc hy)
  rw [ha] at hm
  obtain ⟨v', k1, k2⟩ := extL_ok (P := P) (w := w) (mapL_rel fun y hy => hm y (by simp [hy])) (hm x (by simp)) h
  have e : (c.args.map ρ').toList = ρ' x :: xs.map ρ' := by simp [ha]
  refine ⟨v', ?_, k2⟩
  cases mx with
  | true => simp only [execOp, ho, Sem.run_bind, resolve, hc, Sem.run_pure, andThen_ok', invoke, builtin, if_true, Builtin.max_, e] at k1 ⊢; rw [k1]; rfl
  | false => simp only [execOp, ho, Sem.run_bind, resolve, hc, Sem.run_pure, andThen_ok', invoke, builtin, Bool.false_eq_true, if_false, Builtin.min_, e] at k1 ⊢; rw [k1]; rfl

theorem nil_ok {x : Operand} (ho : o.op = .nilCheck x) : PureOk P o (vNil x) := by
  intro N σ s w ρ ρ' v hw hi h
  have hx := hi x (by simp [ho, Op.operands])
  unfold vNil at h
  split at h
  · rename_i a ha
    cases h
    rw [ha] at hx
    generalize he : ρ' x = y at hx
    cases hx with
    | ptr hs => exact ⟨_, by simp [execOp, ho, he], .ptr hs⟩
  · rename_i t u ha
    cases h
    rw [ha] at hx
    generalize he : ρ' x = y at hx
    cases hx with
    | iface _ hs => exact ⟨_, by simp [execOp, ho, he], .iface _ hs⟩
  · rename_i g p q ha
    cases h
    rw [ha] at hx
    generalize he : ρ' x = y at hx
    cases hx with
    | func _ hfn hp hq => exact ⟨_, by simp [execOp, ho, he], .func _ hfn hp hq⟩
  · cases h

theorem slice_shrink {σ : Ren} {a : Option Addr} {l c k : Nat} {v' : Value} (h : VRel σ (.slice a l c) v') (hk : k ≤ l) : ∃ xb xc, v' = .slice xb l xc ∧ VRel σ (.slice a k c) (.slice xb k xc) := by
  rcases h.of_slice with ⟨rfl, rfl⟩ | ⟨i, o, b, sh, x, c', o', rfl, hs, hc, rfl⟩
  · exact ⟨none, c, rfl, .sliceNil _ _⟩
  · refine ⟨_, c', rfl, .slice hs ?_⟩
    cases x with
    | none => exact hc
    | some kz =>
      obtain ⟨d, d1, d2, d3, d4⟩ := hc
      exact ⟨d, d1, d2, d3, by omega⟩

theorem copy_ok (hT : TabOk P T) {c : Call} {t e : TypeId} {x y : Operand} {ts : List TypeId} {xs : List Operand} {n : Nat} (self : Self) (ho : o.op = .call c) (hc : c.callee = .builtin .copy)
    (ht : c.argTypes.toList = t :: ts) (ha : c.args.toList = x :: y :: xs) (hd : T.und t = some (.slice e)) (hn : T.size e = some n) : ActOk P o (eCopy n x y self) := by
  intro N σ s s' w ρ ρ' v hw hi h
  obtain ⟨q, h1, h2⟩ := ob_eq h
  obtain ⟨p, h3, h4⟩ := ob_eq h2
  obtain ⟨new, h5, h6⟩ := ob_eq h4
  have hx := hi x (by rw [ho]; exact call_arg_mem hc (by rw [ha]; simp))
  have hy := hi y (by rw [ho]; exact call_arg_mem hc (by rw [ha]; simp))
  rw [sliceOf_eq h1] at hx
  rw [sliceOf_eq h3] at hy
  obtain ⟨k, hk⟩ : ∃ k, Nat.min p.2.1 q.2.1 = k := ⟨_, rfl⟩
  have hk1 : k ≤ p.2.1 := by rw [← hk]; exact Nat.min_le_left _ _
  have hk2 : k ≤ q.2.1 := by rw [← hk]; exact Nat.min_le_right _ _
  rw [hk] at h5 h6
  obtain ⟨xb, xc, ey, hy'⟩ := slice_shrink hy hk1
  obtain ⟨xb2, xc2, news, ey2, hnew, hnr, hone, hnl⟩ := newCells_ok (P := P) (p := (p.1, k, p.2.2)) hw hy' h5
  simp only [Value.slice.injEq, true_and] at ey2
  obtain ⟨rfl, rfl⟩ := ey2
  have hnw : (Builtin.firstCells n k (.slice xb p.2.1 xc)).run P w = .ok news w := by
    have := hnew w.drawn
    cases xb <;> exact this
  have e0 : c.argTypes = (t :: ts).toArray := by rw [← ht]
  have e0' : c.args.map ρ' = (ρ' x :: ρ' y :: xs.map ρ').toArray := by
    rw [← Array.toList_inj]; simp [ha]
  have hcall : ∀ {base : Option Addr} {cap : Nat} {w' : World}, ρ' x = .slice base q.2.1 cap → (match base with | some a => (storeCells a news.toList).run P w | none => .ok () w) = .ok () w' →
      (execOp ρ' o).run P w = .ok (.value (.int .i64 (k : Int))) w' := by
    intro base cap w' ex hst
    simp only [execOp, ho, Sem.run_bind, resolve, hc, Sem.run_pure, andThen_ok', invoke, builtin, e0, e0', Builtin.copy_, List.getElem?_toArray, List.getElem?_cons_zero, List.getElem?_cons_succ, und_run hT hd, ex, ey, Builtin.lenOf, hk, size_run hT hn, hnw]
    cases base with
    | none => cases hst; rfl
    | some a => simp only at hst; simp only [Sem.run_bind, hst, andThen_ok', Sem.run_pure]; rfl
  cases hz : Nat.beq k 0 with
  | true =>
    rw [hz] at h6
    have hk0 := beq_t hz
    have h7 : some (Value.int .i64 0, s) = some (v, s') := h6
    cases h7
    have hn0 : news = #[] := by
      have := hnr.length
      rw [hnl, hk0] at this
      simp only [Nat.zero_mul, Array.length_toList] at this
      exact Array.size_eq_zero_iff.1 this
    rcases hx.of_slice with ⟨_, ex⟩ | ⟨i, oo, b, sh, ca, c', o', _, hs, hcp, ex⟩
    · exact ⟨σ, w, .int .i64 (k : Int), .inl (hcall ex rfl), Ext.refl, hw, by rw [hk0]; exact .int _ _⟩
    · exact ⟨σ, w, .int .i64 (k : Int), .inl (hcall ex (by rw [hn0]; rfl)), Ext.refl, hw, by rw [hk0]; exact .int _ _⟩
  | false =>
    rw [hz] at h6
    have hkne := beq_f hz
    obtain ⟨p', g1, g2⟩ := ob_eq (show copyTo s q.1 new k = some (v, s') from h6)
    obtain ⟨cc, g3, g4⟩ := ob_eq g2
    obtain ⟨cc', g5, g6⟩ := ob_eq g4
    obtain ⟨s1, g7, g8⟩ := ob_eq g6
    cases g8
    have ea := addrOf_eq g1
    simp only [Value.pointer.injEq] at ea
    rw [ea] at hx
    rcases hx.of_slice with ⟨e, _⟩ | ⟨i, oo, b, sh, ca, c', o', e, hs, hcp, ex⟩
    · cases e
    simp only [Option.some.injEq, Addr.mk.injEq] at e
    obtain ⟨rfl, rfl, -⟩ := e
    have hoff := hcp.off (.inl (by omega))
    subst hoff
    obtain ⟨C, ee, fr, ⟨hg, hb, hl, hr⟩, hz0⟩ := hw.cells hs g3
    obtain rfl := hz0 (.inl (upd_eq g7).1.1)
    obtain ⟨p1, p2⟩ := putL_eq _ _ _ _ g5
    have hxl := hnr.length
    have hfit : sh + p'.2 + 0 + news.toList.length ≤ C.size := by omega
    have hst := run_storeCells_at P b (sh + p'.2) ee news.toList 0 C w hb (by simpa using hfit) hone
    rw [setRow_putObj hb] at hst
    exact ⟨σ, _, .int .i64 (k : Int), .inl (hcall ex (by simpa only [Nat.add_zero] using hst)), Ext.upd hw hs g7, hw.upd hs (cellsAt_eq g3 (upd_eq g7).1.1) (by simp) g7 (real_over (e := ee) hg hl hr hnr g5), .int _ _⟩

theorem makeMapN_ok (hT : TabOk P T) {t kt e : TypeId} {r : Operand} (ho : o.op = .makeMap t (some r)) (hd : T.und t = some (.map kt e)) : NewOk P o (fun ρ => ob (intOfV (ρ r)) fun _ => some (.map [] 0, fun i => .map (some i))) := by
  intro σ w ρ ρ' p hi h
  obtain ⟨q, h1, h2⟩ := ob_eq h
  cases h2
  have hr := hi r (by simp [ho, Op.operands])
  rw [intOfV_eq h1] at hr
  refine ⟨.map #[] 0, .map (some w.heap.size), ?_, (by simp), fun τ i hle hi' => ⟨.map .nil, .map hi'⟩⟩
  simp [execOp, ho, Instr.makeMap, und_run hT hd, hr.of_int, asInt, asIntOf]

theorem cap_ok (hT : TabOk P T) {c : Call} {t e : TypeId} {x : Operand} {ts : List TypeId} {xs : List Operand} (ho : o.op = .call c) (hc : c.callee = .builtin .cap) (ht : c.argTypes.toList = t :: ts) (ha : c.args.toList = x :: xs)
    (hd : T.und t = some (.slice e)) : PureOk P o (vCapNil x) := by
  intro N σ s w ρ ρ' v hw hi h
  have hx := hi x (by rw [ho]; exact call_arg_mem hc (by rw [ha]; simp))
  have e0 : c.argTypes = (t :: ts).toArray := by rw [← ht]
  have e0' : c.args.map ρ' = (ρ' x :: xs.map ρ').toArray := by
    rw [← Array.toList_inj]; simp [ha]
  unfold vCapNil at h
  split at h
  · rename_i l cp hxv
    cases h
    rw [hxv] at hx
    rcases hx.of_slice with ⟨_, ex⟩ | ⟨_, _, _, _, _, _, _, ea, _⟩
    · refine ⟨.int .i64 cp, ?_, .int _ _⟩
      simp only [execOp, ho, Sem.run_bind, resolve, hc, Sem.run_pure, andThen_ok', invoke, builtin, e0, e0', Builtin.cap_, List.getElem?_toArray, List.getElem?_cons_zero, und_run hT hd, ex]
      rfl
    · cases ea
  · cases h
theorem growNil_run (hT : TabOk P T) {w : World} {t t1 ty e : TypeId} {k0 : IntKind} {n by' : Nat} {z : Value} (hd : T.und t = some (.slice e)) (hd1 : T.und t1 = some (.int k0)) (hn : T.size e = some n) (hby : T.bytes e = some by') (hz : T.zero e = some z)
    (hb : by' ≤ 1048576) (hzn : z.cells.toList.length = n) {kk : IntKind} {m : Nat} (hm : 0 < m) (hm2 : m ≤ 65536) :
    ∃ K, m ≤ K ∧ (Builtin.append_ #[t, t1] ty #[.slice none 0 0, .int kk m]).run P w =
        .ok (.slice (some ⟨w.heap.size, 0, none⟩) m K) (w.drew.alloc (.cells (Builtin.zeroCells z.cells m ++ Builtin.zeroCells z.cells (K - m)) e)) := by
  obtain ⟨inf, hb1, hb2⟩ := bytes_run hT (w := w) hby
  obtain ⟨hz1, -⟩ := zero_run hT (w := w.drew) hz
  have w1 : IntKind.i64.wrap (m : Int) = m := IntWalk.i64_in _ (by omega)
  have g1 : ¬ ((m : Int) < 0) := by omega
  have hmul : ((m * by' : Nat) : Int) ≤ ((68719476736 : Nat) : Int) := Int.ofNat_le.2 (Nat.le_trans (Nat.mul_le_mul hm2 hb) (by decide))
  have g2 : ¬ ((m : Int) * (by' : Int) > 2 ^ 48) := by
    rw [← Int.natCast_mul]
    exact Int.not_lt.2 (Int.le_trans hmul (by decide))
  have hsl := nextslicecap_le (show 0 < 0 + m by omega)
  have hbig : ¬ (((0 + m : Nat) : Int) > IntKind.i64.max) := by
    have : IntKind.i64.max = 9223372036854775807 := by decide
    rw [this]; omega
  have hroom : ¬ (Builtin.nextslicecap (0 + m) 0 * by' > 2 ^ 48) := by
    have h1 : Builtin.nextslicecap (0 + m) 0 * by' ≤ (2 * 1048576) * 1048576 := Nat.mul_le_mul (by omega) hb
    exact Nat.not_lt.2 (Nat.le_trans h1 (by decide))
  have hle : ¬ (0 + m ≤ 0) := by omega
  refine ⟨0 + m + w.tape w.drawn (.appendCap (0 + m) 0 e) % (2 ^ 63 - (0 + m)), by omega, ?_⟩
  have hti : (typeInfo e).run P w.drew = .ok inf w.drew := by
    obtain ⟨i, h1, h2⟩ := ob_eq hby
    have e1 : (typeInfo e).run P w = .ok i w := by simp [typeInfo, hT.types h1]
    have e2 : (typeInfo e).run P w.drew = .ok i w.drew := by simp [typeInfo, hT.types h1]
    rw [e1] at hb1
    cases hb1
    exact e2
  have hzz : Builtin.zeroCells z.cells m = if m * n = 0 then #[] else Builtin.zeroCells z.cells m := by
    by_cases h0 : m * n = 0
    · rw [if_pos h0]
      unfold Builtin.zeroCells
      have : m * z.cells.size = 0 := by rw [← Array.length_toList, hzn]; exact h0
      rw [this]; simp
    · rw [if_neg h0]
  rw [hzz]
  by_cases h0 : m * n = 0
  · simp only [Builtin.append_, Sem.run_bind, und_run hT hd, und_run hT hd1, size_run hT hn, andThen_ok', asInt, asIntOf, Sem.run_pure, w1, g1, g2, hle, if_false, if_true, Bool.false_eq_true, Bool.not_true, Bool.not_false,
      List.getElem?_toArray, List.getElem?_cons_zero, List.getElem?_cons_succ, hb1, hb2, hbig, false_and, hroom, run_choose, Question.forced, Question.cut, World.drew_eq, hti, run_askRoom, hz1, newRow, run_newObj, World.alloc_eq, Sem.run_ite, Int.toNat_natCast, Builtin.firstCells, if_pos h0]
    simp only [Nat.zero_add, Array.empty_append]; rfl
  · simp only [Builtin.append_, Sem.run_bind, und_run hT hd, und_run hT hd1, size_run hT hn, andThen_ok', asInt, asIntOf, Sem.run_pure, w1, g1, g2, hle, if_false, if_true, Bool.false_eq_true, Bool.not_true, Bool.not_false,
      List.getElem?_toArray, List.getElem?_cons_zero, List.getElem?_cons_succ, hb1, hb2, hbig, false_and, hroom, run_choose, Question.forced, Question.cut, World.drew_eq, hti, run_askRoom, hz1, newRow, run_newObj, World.alloc_eq, Sem.run_ite, Int.toNat_natCast, Builtin.firstCells, if_neg h0]
    simp only [Nat.zero_add, Array.empty_append]; rfl
theorem grow_ok (hT : TabOk P T) {c : Call} {t t1 e : TypeId} {k0 : IntKind} {x y : Operand} {ts : List TypeId} {xs : List Operand} {n by' : Nat} {z : Value} (self : Self) (ho : o.op = .call c) (hc : c.callee = .builtin .append)
    (ht : c.argTypes.toList = t :: t1 :: ts) (ha : c.args.toList = x :: y :: xs) (hd : T.und t = some (.slice e)) (hd1 : T.und t1 = some (.int k0)) (hn : T.size e = some n) (hby : T.bytes e = some by') (hz : T.zero e = some z)
    (hck : (Nat.ble by' 1048576 && Nat.beq (lenL z.cells.toList) n) = true) : ActOk P o (eGrow z.cells.toList n x y self) := by
  intro N σ s s' w ρ ρ' v hw hi h
  simp only [Bool.and_eq_true] at hck
  have hbb := ble_t hck.1
  have hzn := beq_t hck.2
  rw [lenL_eq] at hzn
  have hx := hi x (by rw [ho]; exact call_arg_mem hc (by rw [ha]; simp))
  have hy := hi y (by rw [ho]; exact call_arg_mem hc (by rw [ha]; simp))
  have e0 : c.argTypes = (t :: t1 :: ts).toArray := by rw [← ht]
  have e0' : c.args.map ρ' = (ρ' x :: ρ' y :: xs.map ρ').toArray := by
    rw [← Array.toList_inj]; simp [ha]
  have hcall : ∀ {v' : Value} {w' : World}, (Builtin.append_ #[t, t1] o.type #[ρ' x, ρ' y]).run P w = .ok v' w' → (execOp ρ' o).run P w = .ok (.value v') w' := by
    intro v' w' hrun
    have hsame : Builtin.append_ c.argTypes o.type (c.args.map ρ') = Builtin.append_ #[t, t1] o.type #[ρ' x, ρ' y] := by
      rw [e0, e0']
      simp only [Builtin.append_, List.getElem?_toArray, List.getElem?_cons_zero, List.getElem?_cons_succ]
    simp only [execOp, ho, Sem.run_bind, resolve, hc, Sem.run_pure, andThen_ok', invoke, builtin, hsame, hrun]
  unfold eGrow at h
  split at h
  · rename_i hxv
    rw [hxv] at hx
    obtain ⟨m, h1, h2⟩ := ob_eq h
    obtain ⟨h3, h4⟩ := gd_eq (show gd (Nat.blt 0 m && Nat.ble m 65536) _ = some (v, s') from h2)
    obtain ⟨s1, h5, h6⟩ := ob_eq h4
    cases h6
    simp only [Bool.and_eq_true] at h3
    have hm := blt_t h3.1
    have hm2 := ble_t h3.2
    obtain ⟨ky, hyv⟩ := hy.of_nat h1
    rcases hx.of_slice with ⟨_, ex⟩ | ⟨_, _, _, _, _, _, _, ea, _⟩
    · obtain ⟨K, hK, hrun⟩ := growNil_run hT (w := w) (ty := o.type) hd hd1 hn hby hz hbb hzn (kk := ky) hm hm2
      have hcl := (zero_run hT (w := w) hz).2
      have hZ : (Builtin.zeroCells z.cells m).toList = repeatL z.cells.toList m := by
        have e := repeat_range z.cells.toList m
        rw [← e]
        simp [Builtin.zeroCells]
      have hsz : (Builtin.zeroCells z.cells m ++ Builtin.zeroCells z.cells (K - m)).size = K * n := by
        simp only [Array.size_append, Builtin.zeroCells, Array.size_map, Array.size_range]
        rw [← Array.length_toList (xs := z.cells), hzn, ← Nat.add_mul]
        congr 1; omega
      have hrl : (repeatL z.cells.toList m).length = m * n := by rw [repeat_get, hzn]
      have hreal : Real (σ.add s.next w.heap.size 0 (some (K, n))) 0 (some (K, n)) (.cells (repeatL z.cells.toList m) (some n)) (.cells (Builtin.zeroCells z.cells m ++ Builtin.zeroCells z.cells (K - m)) e (0, 0)) := by
        refine .cells ⟨rfl, by rw [hsz]; omega⟩ (by rw [hsz, hrl, Nat.zero_add]; exact Nat.mul_le_mul_right n hK) ?_
        have hr : LRel (σ.add s.next w.heap.size 0 (some (K, n))) (repeatL z.cells.toList m) (repeatL z.cells.toList m) := rel_repeat (closedV_rel hcl).cells m
        simp only [List.drop_zero, Array.toList_append, hZ]
        rw [List.take_left]
        exact hr
      obtain ⟨f1, f2⟩ := fresh_name hw h5 hreal
      refine ⟨_, _, .slice (some ⟨w.heap.size, 0 + 0, none⟩) m K, .inl (hcall ?_), f1, f2, .slice (o' := 0) Ren.add_same ⟨0, by omega, by omega, .inl (by simp), .inl rfl⟩⟩
      rw [ex, hyv]
      exact hrun
    · cases ea
  · cases h
end
end Go.Proofs.Yteeamkdblcinnaa.Kern
