/-
  Appends are calculated rightly. It holds of every program whose table of types and functions fits (TabOk).
-/
import Derived.Test.YteeamkdblcinnaaKernI
namespace Go.Proofs.Yteeamkdblcinnaa.Kern
open Go Go.RowKit

section
variable {P : Program} {T : Tab} {o : Oper}

theorem loads_ok {N : Nat} {σ : Ren} {s : St} {w : World} (hw : WRel N σ s w) {i b sh : Nat} {x : Cap} (hs : σ i = some (b, sh, x)) {c : List Value × Option Nat} (h3 : cellsAt s.heap i = some c) {off k : Nat} {l : List Value}
    (h : takeL k (dropL off c.1) = some l) : ∃ l' : Array Value, (∀ d, (loadCells ⟨b, sh + off, none⟩ k).run P { w with drawn := d } = .ok l' { w with drawn := d }) ∧ LRel σ l l'.toList := by
  obtain ⟨C, e, fr, ⟨-, hb, hl, hr⟩, -⟩ := hw.cells hs h3
  rw [dropL_eq] at h
  obtain ⟨hn, rfl⟩ := takeL_eq _ _ _ h
  refine ⟨((C.toList.drop (sh + off)).take k).toArray, ?_, ?_⟩
  · intro d
    have hlen : ((C.toList.drop (sh + off)).take k).length = k := by simp at hn ⊢; omega
    have := run_loadCells_list (P := P) (w := { w with drawn := d }) ⟨b, sh + off, none⟩ ((C.toList.drop (sh + off)).take k) (fun j u hu => by
      rw [addr_add]
      refine cell_at (w := { w with drawn := d }) hb ?_
      rw [List.getElem?_take] at hu
      split at hu
      · rw [List.getElem?_drop] at hu; simpa using hu
      · cases hu)
    rw [hlen] at this
    exact this
  · have := (hr.drop off).take k
    have e : ((List.take c.1.length (List.drop sh C.toList)).drop off).take k = (C.toList.drop (sh + off)).take k := by
      rw [List.drop_take, List.drop_drop, List.take_take]
      congr 1
      simp at hn; omega
    rw [e] at this
    exact this

theorem firstCells_slice {w : World} {a : Addr} {k size : Nat} {l' : Array Value} {len cap : Nat} (h : (loadCells a (k * size)).run P w = .ok l' w) : (Builtin.firstCells size k (.slice (some a) len cap)).run P w = .ok l' w := h

/-- What 'append' does, by whether there is room. -/
theorem append_run (hT : TabOk P T) {w : World} {t t1 ty e e1 : TypeId} {n by' : Nat} {z : Value} (hd : T.und t = some (.slice e)) (hd1 : T.und t1 = some (.slice e1)) (hn : T.size e = some n) (hby : T.bytes e = some by') (hz : T.zero e = some z)
    (hb : by' ≤ 1048576) {base xb : Option Addr} {sLen sCap m xc : Nat} (hneed : sLen + m ≤ 1048576) {olds news : Array Value}
    (hnew : ∀ d, (Builtin.firstCells n m (.slice xb m xc)).run P { w with drawn := d } = .ok news { w with drawn := d }) :
    (sLen + m ≤ sCap → ∀ w1, (match base with | some a => (storeCells (a.add (sLen * n)) news.toList).run P w | none => .ok () w) = .ok () w1 →
      (Builtin.append_ #[t, t1] ty #[.slice base sLen sCap, .slice xb m xc]).run P w = .ok (.slice base (sLen + m) sCap) w1) ∧
    (¬ sLen + m ≤ sCap → (∀ d, (Builtin.firstCells n sLen (.slice base sLen sCap)).run P { w with drawn := d } = .ok olds { w with drawn := d }) →
      ∃ K, sLen + m ≤ K ∧ (Builtin.append_ #[t, t1] ty #[.slice base sLen sCap, .slice xb m xc]).run P w =
        .ok (.slice (some ⟨w.heap.size, 0, none⟩) (sLen + m) K) (w.drew.alloc (.cells (olds ++ news ++ Builtin.zeroCells z.cells (K - (sLen + m))) e))) := by
  obtain ⟨inf, hb1, hb2⟩ := bytes_run hT (w := w) hby
  obtain ⟨hz1, -⟩ := zero_run hT (w := w.drew) hz
  have hnw : (Builtin.firstCells n m (.slice xb m xc)).run P w = .ok news w := hnew w.drawn
  constructor
  · intro hle w1 hst
    simp only [Builtin.append_, Sem.run_bind, und_run hT hd, und_run hT hd1, size_run hT hn, andThen_ok', Builtin.lenOf, Sem.run_pure, hnw, hle, if_true, Bool.false_eq_true, if_false, Bool.not_false,
      List.getElem?_toArray, List.getElem?_cons_zero, List.getElem?_cons_succ]
    cases base with
    | none => simp only at hst; cases hst; rfl
    | some a => simp only at hst; simp only [hst, andThen_ok', Sem.run_bind, Sem.run_pure]
  · intro hle hold
    have hlt : sCap < sLen + m := by omega
    have hsl := nextslicecap_le hlt
    have hbig : ¬ (((sLen + m : Nat) : Int) > IntKind.i64.max) := by
      have : IntKind.i64.max = 9223372036854775807 := by decide
      rw [this]; omega
    have hroom : ¬ (Builtin.nextslicecap (sLen + m) sCap * by' > 2 ^ 48) := by
      have h1 : Builtin.nextslicecap (sLen + m) sCap * by' ≤ (2 * 1048576) * 1048576 := Nat.mul_le_mul (by omega) hb
      exact Nat.not_lt.2 (Nat.le_trans h1 (by decide))
    refine ⟨sLen + m + w.tape w.drawn (.appendCap (sLen + m) sCap e) % (2 ^ 63 - (sLen + m)), by omega, ?_⟩
    have hold' := hold (w.drawn + 1)
    have hnew' := hnew (w.drawn + 1)
    simp only [World.drew_eq] at hold' hnew'
    have hti : (typeInfo e).run P w.drew = .ok inf w.drew := by
      have := bytes_run hT (w := w.drew) hby
      obtain ⟨i2, k1, k2⟩ := this
      obtain ⟨i, h1, h2⟩ := ob_eq hby
      have e1 : (typeInfo e).run P w = .ok i w := by simp [typeInfo, hT.types h1]
      have e2 : (typeInfo e).run P w.drew = .ok i w.drew := by simp [typeInfo, hT.types h1]
      rw [e1] at hb1
      cases hb1
      exact e2
    simp only [Builtin.append_, Sem.run_bind, und_run hT hd, und_run hT hd1, size_run hT hn, andThen_ok', Builtin.lenOf, Sem.run_pure, hle, if_false, Bool.false_eq_true, Bool.not_false, if_true,
      List.getElem?_toArray, List.getElem?_cons_zero, List.getElem?_cons_succ, hb1, hb2, hbig, false_and, hroom, run_choose, Question.forced, Question.cut, World.drew_eq, hti, run_askRoom, hold', hnew', hz1, newRow, run_newObj, World.alloc_eq, Sem.run_ite]
    rfl

theorem WRel.drewN {N : Nat} {σ : Ren} {s : St} {w : World} (h : WRel N σ s w) (d : Nat) : WRel N σ s { w with drawn := d } := ⟨h.base, h.lt, h.fresh, h.real, h.inj⟩
/-- A block of which nothing is known any more may be changed. -/
theorem WRel.scrap {N : Nat} {σ : Ren} {s : St} {w : World} (h : WRel N σ s w) {b : Nat} (hb : ∀ {j sh x o}, σ j = some (b, sh, x) → s.heap.get j = some o → o = .dead) (O : Obj) : WRel N σ s (w.putObj b O) := by
  refine ⟨by simpa using h.base, fun hi => by simpa using h.lt hi, h.fresh, fun {i b' sh x o} hi ho => ?_, h.inj⟩
  obtain ⟨O', k1, k2⟩ := h.real hi ho
  by_cases e : b' = b
  · subst e
    have := hb hi ho
    subst this
    have hlt := (h.lt hi).2
    exact ⟨(w.putObj b' O).heap[b']'(by simpa using hlt), by simp, .deadR _⟩
  · exact ⟨O', by rw [World.putObj_heap_other e]; exact k1, k2⟩

theorem newCells_ok {N : Nat} {σ : Ren} {s : St} {w : World} (hw : WRel N σ s w) {n : Nat} {p : Option Addr × Nat × Nat} {x' : Value} (hx : VRel σ (.slice p.1 p.2.1 p.2.2) x') {new : List Value} (h : newCells s.heap n p = some new) :
    ∃ xb xc news, x' = .slice xb p.2.1 xc ∧ (∀ d, (Builtin.firstCells n p.2.1 (.slice xb p.2.1 xc)).run P { w with drawn := d } = .ok news { w with drawn := d }) ∧ LRel σ new news.toList ∧ (∀ v ∈ news.toList, v.oneCell' = true) ∧ new.length = p.2.1 * n := by
  obtain ⟨xb, m, xc⟩ := p
  cases xb with
  | none =>
    obtain ⟨h1, h2⟩ := gd_eq h
    have hm : m = 0 := beq_t h1
    subst hm
    cases h2
    rcases hx.of_slice with ⟨_, e⟩ | ⟨_, _, _, _, _, _, _, e, _⟩
    · exact ⟨none, xc, #[], e, fun d => rfl, .nil, by simp, by simp⟩
    · cases e
  | some a =>
    change ob (addrOf (.pointer (some a))) (fun p => ob (cellsAt s.heap p.1) fun c => ob (takeL (m * n) (dropL p.2 c.1)) fun l => gd (l.all oneV) (some l)) = some new at h
    obtain ⟨p, h1, h2⟩ := ob_eq h
    obtain ⟨c, h3, h4⟩ := ob_eq h2
    obtain ⟨l, h5, h6⟩ := ob_eq h4
    obtain ⟨h7, h8⟩ := gd_eq h6
    cases h8
    have e1 := addrOf_eq h1
    simp only [Value.pointer.injEq, Option.some.injEq] at e1
    subst e1
    rcases hx.of_slice with ⟨e, _⟩ | ⟨i, o, b, sh, x, c', oo, e, hs, hcap, ex⟩
    · cases e
    · simp only [Option.some.injEq, Addr.mk.injEq] at e
      obtain ⟨rfl, rfl, -⟩ := e
      obtain ⟨l', k1, k2⟩ : ∃ l' : Array Value, (∀ d, (loadCells ⟨b, sh + oo, none⟩ (m * n)).run P { w with drawn := d } = .ok l' { w with drawn := d }) ∧ LRel σ new l'.toList := by
        by_cases hm : 0 < m
        · have hoff := hcap.off (.inl hm)
          subst hoff
          exact loads_ok (P := P) hw hs h3 h5
        · have hm0 : m = 0 := by omega
          subst hm0
          rw [Nat.zero_mul] at h5 ⊢
          obtain ⟨_, rfl⟩ := takeL_eq _ _ _ h5
          exact ⟨#[], fun d => run_loadCells_list (P := P) (w := { w with drawn := d }) ⟨b, sh + oo, none⟩ [] (fun j u hu => by simp at hu), by simpa using LRel.nil⟩
      refine ⟨_, c', l', ex, fun d => ?_, k2, oneL_rel h7 k2, ?_⟩
      · exact k1 d
      · rw [dropL_eq] at h5
        obtain ⟨g1, rfl⟩ := takeL_eq _ _ _ h5
        simp at g1 ⊢; omega

theorem fresh_name {N : Nat} {σ : Ren} {s s' : St} {w : World} {o : AObj} {O : Obj} {x : Cap} (hw : WRel N σ s w) (hp : s.push o = some s') (hr : Real (σ.add s.next w.heap.size 0 x) 0 x o O) :
    Ext N σ (σ.add s.next w.heap.size 0 x) s s' w (w.drew.alloc O) ∧ WRel N (σ.add s.next w.heap.size 0 x) s' (w.drew.alloc O) := by
  have hwd : WRel N σ s w.drew := hw.drewN _
  have e1 := Ext.push (x := x) (O := O) hwd hp
  have e2 := WRel.push (x := x) (O := O) hwd hp hr
  exact ⟨⟨e1.le, e1.same, e1.next, (Below.refl _ _).drew.trans e1.below⟩, e2⟩

theorem append_ok (hT : TabOk P T) {c : Call} {t t1 e e1 : TypeId} {x y : Operand} {ts : List TypeId} {xs : List Operand} {n by' : Nat} {z : Value} (self : Self) (ho : o.op = .call c) (hc : c.callee = .builtin .append)
    (ht : c.argTypes.toList = t :: t1 :: ts) (ha : c.args.toList = x :: y :: xs) (hd : T.und t = some (.slice e)) (hd1 : T.und t1 = some (.slice e1)) (hn : T.size e = some n) (hby : T.bytes e = some by') (hz : T.zero e = some z)
    (hck : (Nat.ble by' 1048576 && Nat.beq (lenL z.cells.toList) n) = true) : ActOk P o (eAppend n x y self) := by
  intro N σ s s' w ρ ρ' v hw hi h
  obtain ⟨q, h1, h2⟩ := ob_eq h
  obtain ⟨p, h3, h4⟩ := ob_eq h2
  obtain ⟨new, h5, h6⟩ := ob_eq h4
  obtain ⟨h7, h8⟩ := gd_eq h6
  simp only [Bool.and_eq_true] at hck
  have hbb := ble_t hck.1
  have hzn := beq_t hck.2
  rw [lenL_eq] at hzn
  have hneed := ble_t h7
  have hx := hi x (by rw [ho]; exact call_arg_mem hc (by rw [ha]; simp))
  have hy := hi y (by rw [ho]; exact call_arg_mem hc (by rw [ha]; simp))
  have hxv := sliceOf_eq h1
  have hx0 := hx
  rw [hxv] at hx
  rw [sliceOf_eq h3] at hy
  obtain ⟨xb, xc, news, ey, hnew, hnr, hone, hnl⟩ := newCells_ok (P := P) hw hy h5
  have e0 : c.argTypes = (t :: t1 :: ts).toArray := by rw [← ht]
  have e0' : c.args.map ρ' = (ρ' x :: ρ' y :: xs.map ρ').toArray := by
    rw [← Array.toList_inj]; simp [ha]
  have hnews : news.toList.length = p.2.1 * n := by rw [hnr.length, hnl]
  -- the call is the builtin's
  have hcall : ∀ {v' : Value} {w' : World}, (Builtin.append_ #[t, t1] o.type #[ρ' x, ρ' y]).run P w = .ok v' w' → (execOp ρ' o).run P w = .ok (.value v') w' := by
    intro v' w' hrun
    have hsame : Builtin.append_ c.argTypes o.type (c.args.map ρ') = Builtin.append_ #[t, t1] o.type #[ρ' x, ρ' y] := by
      rw [e0, e0']
      simp only [Builtin.append_, List.getElem?_toArray, List.getElem?_cons_zero, List.getElem?_cons_succ]
    simp only [execOp, ho, Sem.run_bind, resolve, hc, Sem.run_pure, andThen_ok', invoke, builtin, hsame, hrun]
  cases hcap : Nat.ble (q.2.1 + p.2.1) q.2.2 with
  | true =>
    rw [hcap] at h8
    have hle := ble_t hcap
    cases hm0 : Nat.beq p.2.1 0 with
    | true =>
      rw [hm0] at h8
      have hm := beq_t hm0
      have h10 : some (ρ x, s) = some (v, s') := h8
      cases h10
      have hn0 : news = #[] := by
        rw [hm, Nat.zero_mul] at hnews
        exact Array.toList_inj.1 (List.eq_nil_of_length_eq_zero hnews)
      rcases hx.of_slice with ⟨ea, ex⟩ | ⟨i, oo, b, sh, ca, c', o', ea, hs, hcp, ex⟩
      · refine ⟨σ, w, ρ' x, .inl (hcall ?_), Ext.refl, hw, hx0⟩
        rw [ex, ey]
        have := (append_run hT (w := w) (ty := o.type) hd hd1 hn hby hz hbb (base := none) (sLen := q.2.1) (sCap := q.2.2) hneed (olds := #[]) hnew).1 (by omega) w rfl
        rw [hm] at this ⊢
        exact this
      · have hcc := hcp.le
        refine ⟨σ, w, ρ' x, .inl (hcall ?_), Ext.refl, hw, hx0⟩
        rw [ex, ey]
        have := (append_run hT (w := w) (ty := o.type) hd hd1 hn hby hz hbb (base := some ⟨b, sh + o', none⟩) (sLen := q.2.1) (sCap := c') hneed (olds := #[]) hnew).1 (by omega) w (by rw [hn0]; rfl)
        rw [hm] at this ⊢
        exact this
    | false =>
      rw [hm0] at h8
      have hmne := beq_f hm0
      obtain ⟨p', g1, g2⟩ := ob_eq (show appRoom s n q p.2.1 new = some (v, s') from h8)
      obtain ⟨cc, g3, g4⟩ := ob_eq g2
      obtain ⟨cc', g5, g6⟩ := ob_eq g4
      obtain ⟨s1, g7, g8⟩ := ob_eq g6
      cases g8
      have ea := addrOf_eq g1
      simp only [Value.pointer.injEq] at ea
      rw [ea] at hx
      rcases hx.of_slice with ⟨e, _⟩ | ⟨i, oo, b, sh, ca, c', o', e, hs, hcp, ex⟩
      · cases e
      simp only [Option.some.injEq, Addr.mk.injEq] at e
      obtain ⟨rfl, rfl, -⟩ := e
      have hcc := hcp.le
      have hoff := hcp.off (.inr (by omega))
      subst hoff
      obtain ⟨C, ee, fr, ⟨hg, hb, hl, hr⟩, hz0⟩ := hw.cells hs g3
      obtain rfl := hz0 (.inl (upd_eq g7).1.1)
      obtain ⟨p1, p2⟩ := putL_eq _ _ _ _ g5
      have hxl := hnr.length
      have hfit : sh + (p'.2 + q.2.1 * n) + 0 + news.toList.length ≤ C.size := by omega
      have hst := run_storeCells_at P b (sh + (p'.2 + q.2.1 * n)) ee news.toList 0 C w hb (by simpa using hfit) hone
      rw [setRow_putObj hb] at hst
      have hap := (append_run hT (w := w) (ty := o.type) hd hd1 hn hby hz hbb (base := some ⟨b, sh + p'.2, none⟩) (sLen := q.2.1) (sCap := c') hneed (olds := #[]) hnew).1 (by omega) _ (by simp only [addr_add, Nat.add_assoc] at hst ⊢; exact hst)
      refine ⟨σ, _, .slice (some ⟨b, sh + p'.2, none⟩) (q.2.1 + p.2.1) c', .inl (hcall ?_), Ext.upd hw hs g7, hw.upd hs (cellsAt_eq g3 (upd_eq g7).1.1) (by simp) g7 (real_over (e := ee) hg hl hr hnr g5), ?_⟩
      · rw [ex, ey]
        simpa only [Nat.add_zero, Nat.zero_add, Nat.add_assoc] using hap
      · rw [ea]
        refine .slice hs ?_
        cases ca with
        | none => exact ⟨rfl, hcp.2⟩
        | some kz => obtain ⟨d, d1, d2, d3, d4⟩ := hcp; exact ⟨d, d1, d2, d3, .inl rfl⟩
  | false =>
    rw [hcap] at h8
    simp only [bt_false] at h8
    have hgt := ble_f hcap
    -- a new block
    have grow : ∀ {σ1 : Ren} {s1 s2 : St} {base : Option Addr} {cap : Nat} {old : List Value} {olds : Array Value}, WRel N σ1 s1 w → Ext N σ σ1 s s1 w w → ρ' x = .slice base q.2.1 cap → ¬ q.2.1 + p.2.1 ≤ cap →
        (∀ d, (Builtin.firstCells n q.2.1 (.slice base q.2.1 cap)).run P { w with drawn := d } = .ok olds { w with drawn := d }) → LRel σ old olds.toList → old.length = q.2.1 * n →
        s1.push (.cells (old ++ new) (some n)) = some s2 → s2 = s' → v = .slice (some ⟨s1.next, 0, none⟩) (q.2.1 + p.2.1) (q.2.1 + p.2.1) →
        ∃ τ w' v', ((execOp ρ' o).run P w = .ok (.value v') w' ∨ (execOp ρ' o).run P w = .ok .skip w' ∧ v' = undef) ∧ Ext N σ τ s s' w w' ∧ WRel N τ s' w' ∧ VRel τ v v' := by
      intro σ1 s1 s2 base cap old olds hw1 hext ex hcap' hold hor hol hp es ev
      subst es ev
      obtain ⟨K, hK, hrun⟩ := (append_run hT (w := w) (ty := o.type) hd hd1 hn hby hz hbb (base := base) (sLen := q.2.1) (sCap := cap) hneed (olds := olds) hnew).2 hcap' hold
      have hsz : (olds ++ news ++ Builtin.zeroCells z.cells (K - (q.2.1 + p.2.1))).size = K * n := by
        have l1 : olds.size = q.2.1 * n := by have := hor.length; rw [hol] at this; simpa using this
        have l2 : news.size = p.2.1 * n := by simpa using hnews
        have l3 : (Builtin.zeroCells z.cells (K - (q.2.1 + p.2.1))).size = (K - (q.2.1 + p.2.1)) * n := by
          simp only [Builtin.zeroCells, Array.size_map, Array.size_range]
          congr 1
        rw [Array.size_append, Array.size_append, l1, l2, l3, ← Nat.add_mul, ← Nat.add_mul]
        congr 1; omega
      have hreal : Real (σ1.add s1.next w.heap.size 0 (some (K, n))) 0 (some (K, n)) (.cells (old ++ new) (some n)) (.cells (olds ++ news ++ Builtin.zeroCells z.cells (K - (q.2.1 + p.2.1))) e (0, 0)) := by
        have hll : (old ++ new).length = (q.2.1 + p.2.1) * n := by rw [List.length_append, hol, hnl, Nat.add_mul]
        refine .cells ⟨rfl, by rw [hsz]; omega⟩ (by rw [hsz, hll, Nat.zero_add]; exact Nat.mul_le_mul_right n hK) ?_
        have hle := Ren.le_trans hext.le (Ren.le_add (b := w.heap.size) (sh := 0) (x := some (K, n)) (hw1.fresh (Nat.le_refl _)))
        have hr := (hor.append hnr).mono hle
        have hln : (old ++ new).length = (olds.toList ++ news.toList).length := hr.length.symm
        simp only [List.drop_zero, Array.toList_append]
        rw [hln, List.take_left]
        exact hr
      obtain ⟨f1, f2⟩ := fresh_name hw1 hp hreal
      refine ⟨_, _, .slice (some ⟨w.heap.size, 0 + 0, none⟩) (q.2.1 + p.2.1) K, .inl (hcall ?_), hext.trans f1, f2, .slice (o' := 0) Ren.add_same ⟨0, by omega, by omega, .inl (by simp), .inl rfl⟩⟩
      rw [ex, ey]
      exact hrun
    obtain ⟨qb, ql, qc⟩ := q
    cases qb with
    | none =>
      obtain ⟨g1, g2⟩ := gd_eq h8
      have hl0 : ql = 0 := beq_t g1
      obtain ⟨s1, g3, g4⟩ := ob_eq g2
      cases g4
      rcases hx.of_slice with ⟨_, ex⟩ | ⟨_, _, _, _, _, _, _, ea, _⟩
      · refine grow (old := []) (olds := #[]) hw Ext.refl ex hgt (fun d => rfl) .nil (by simp [hl0]) g3 rfl (by simp [hl0])
      · cases ea
    | some a =>
      change ob (addrOf (.pointer (some a))) (fun p' => ob (cellsAt s.heap p'.1) fun c => ob (takeL (ql * n) (dropL p'.2 c.1)) fun old => ob (killF s n c.2 p'.1) fun s =>
        exNew s (.cells (old ++ new) (some n)) fun i => .slice (some ⟨i, 0, none⟩) (ql + p.2.1) (ql + p.2.1)) = some (v, s') at h8
      obtain ⟨p', g1, g2⟩ := ob_eq h8
      obtain ⟨cc, g3, g4⟩ := ob_eq g2
      obtain ⟨old, g5, g6⟩ := ob_eq g4
      obtain ⟨s1, g7, g8⟩ := ob_eq g6
      obtain ⟨s2, g9, g10⟩ := ob_eq g8
      cases g10
      have ea := addrOf_eq g1
      simp only [Value.pointer.injEq, Option.some.injEq] at ea
      subst ea
      rcases hx.of_slice with ⟨ea, _⟩ | ⟨i, oo, b, sh, ca, c', o', ea, hs, hcp, ex⟩
      · cases ea
      simp only [Option.some.injEq, Addr.mk.injEq] at ea
      obtain ⟨rfl, rfl, -⟩ := ea
      obtain ⟨olds, k1, k2⟩ : ∃ l' : Array Value, (∀ d, (loadCells ⟨b, sh + o', none⟩ (ql * n)).run P { w with drawn := d } = .ok l' { w with drawn := d }) ∧ LRel σ old l'.toList := by
        by_cases hm : 0 < ql
        · have hoff := hcp.off (.inl hm)
          rw [hoff]
          exact loads_ok (P := P) hw hs g3 g5
        · have hm0 : ql = 0 := by omega
          subst hm0
          rw [Nat.zero_mul] at g5 ⊢
          obtain ⟨_, rfl⟩ := takeL_eq _ _ _ g5
          exact ⟨#[], fun d => run_loadCells_list (P := P) (w := { w with drawn := d }) ⟨b, sh + o', none⟩ [] (fun j u hu => by simp at hu), by simpa using LRel.nil⟩
      have hol : old.length = ql * n := by
        rw [dropL_eq] at g5
        obtain ⟨f1, rfl⟩ := takeL_eq _ _ _ g5
        simp at f1 ⊢; omega
      obtain ⟨C, ee, fr, ⟨hg, hb, hl, hr⟩, hz0⟩ := hw.cells hs g3
      obtain ⟨cl, gr⟩ := cc
      cases gr with
      | none =>
        cases ca with
        | some k => exact hg.elim
        | none =>
          change some s = some s1 at g7
          cases g7
          have : c' = qc := hcp.2
          exact grow hw Ext.refl ex (by rw [this]; exact hgt) k1 k2 hol g9 rfl rfl
      | some zz =>
        cases ca with
        | none => exact hg.elim
        | some kz =>
          obtain ⟨K, sz⟩ := kz
          obtain ⟨rfl, hKC⟩ := hg
          obtain ⟨d, hcK, hc', hoz, _⟩ := hcp
          change gd (Nat.beq sz n) (s.upd p'.1 .dead) = some s1 at g7
          obtain ⟨f1, f2⟩ := gd_eq g7
          have hszn := beq_t f1
          subst hszn
          obtain rfl := hz0 (.inr rfl)
          have hwk := hw.kill f2
          obtain ⟨ft, fs1⟩ := upd_eq f2
          have hxk : Ext N σ σ s s1 w w := ⟨σ.le_refl, fun _ _ => rfl, by rw [fs1]; exact Nat.le_refl _, Below.refl _ _⟩
          by_cases hin : ql + p.2.1 ≤ c'
          · -- there is room: the new cells lie behind the old ones
            have hoff : o' = d * sz := by
              simp only at hgt hin
              rcases hoz with h | h
              · exact h
              · exact absurd (Nat.le_trans hin (by rw [h]; exact Nat.zero_le _)) hgt
            have hroom : sh + o' + c' * sz ≤ C.size := by
              have : (c' + d) * sz = K * sz := by rw [hc']
              rw [Nat.add_mul] at this
              omega
            obtain ⟨S, hS⟩ : ∃ S, S = sh + o' := ⟨_, rfl⟩
            rw [← hS] at ex k1 hroom
            obtain ⟨ft2, fs2⟩ := push_eq g9
            have hdead : ∀ {j sh' x' o'}, σ j = some (b, sh', x') → s1.heap.get j = some o' → o' = .dead := by
              intro j sh' x' o' hj ho'
              rw [fs1, Tree.get_setN] at ho'
              by_cases ej : j = p'.1
              · rw [if_pos ej] at ho'; cases ho'; rfl
              · rw [if_neg ej] at ho'
                exact Classical.byContradiction fun hnd => ej (hw.inj hs hj (cellsAt_eq g3 ft.1) ho' (by simp) hnd rfl).symm
            have hfit : S + ql * sz + 0 + news.toList.length ≤ C.size := by
              rw [hnews]
              have : (ql + p.2.1) * sz ≤ c' * sz := Nat.mul_le_mul_right _ hin
              rw [Nat.add_mul] at this
              omega
            have hst := run_storeCells_at P b (S + ql * sz) ee news.toList 0 C w hb (by simpa using hfit) hone
            rw [setRow_putObj hb] at hst
            have hap := (append_run hT (w := w) (ty := o.type) hd hd1 hn hby hz hbb (base := some ⟨b, S, none⟩) (sLen := ql) (sCap := c') hneed (olds := #[]) hnew).1 hin _ (by simp only [addr_add]; exact hst)
            let O : Obj := .cells (C.toList.take (S + ql * sz + 0) ++ news.toList ++ C.toList.drop (S + ql * sz + 0 + news.toList.length)).toArray ee (0, 0)
            have hw2 : WRel N σ s' (w.putObj b O) := (hwk.scrap hdead O).junk g9
            have hnone : σ s1.next = none := hwk.fresh (Nat.le_refl _)
            have hleA := Ren.le_add (b := b) (sh := S) (x := some (c', sz)) hnone
            have hll : (old ++ new).length = (ql + p.2.1) * sz := by rw [List.length_append, hol, hnl, Nat.add_mul]
            have hreal : Real (σ.add s1.next b S (some (c', sz))) S (some (c', sz)) (.cells (old ++ new) (some sz)) O := by
              have hCs : (C.toList.take (S + ql * sz + 0) ++ news.toList ++ C.toList.drop (S + ql * sz + 0 + news.toList.length)).toArray.size = C.size := by
                simp at hfit ⊢; omega
              refine .cells ⟨rfl, by rw [hCs]; exact hroom⟩ ?_ ?_
              · rw [hCs, hll]
                have : (ql + p.2.1) * sz ≤ c' * sz := Nat.mul_le_mul_right _ hin
                omega
              · refine LRel.mono hleA ?_
                have hr2 := k2.append hnr
                have key : List.take (old ++ new).length (List.drop S (C.toList.take (S + ql * sz + 0) ++ news.toList ++ C.toList.drop (S + ql * sz + 0 + news.toList.length))) = olds.toList ++ news.toList := by
                  have h1 : olds.toList = (C.toList.drop (S)).take (ql * sz) := by
                    have a1 := run_loadCells_list (P := P) (w := w) ⟨b, S, none⟩ ((C.toList.drop (S)).take (ql * sz)) (fun j u hu => by
                      rw [addr_add]
                      refine cell_at hb ?_
                      rw [List.getElem?_take] at hu
                      split at hu
                      · rw [List.getElem?_drop] at hu; simpa using hu
                      · cases hu)
                    have hlen : ((C.toList.drop (S)).take (ql * sz)).length = ql * sz := by simp at hfit ⊢; omega
                    rw [hlen] at a1
                    have a2 := k1 w.drawn
                    have a3 : (loadCells ⟨b, S, none⟩ (ql * sz)).run P w = .ok olds w := a2
                    rw [a1] at a3
                    simp only [Result.ok.injEq, and_true] at a3
                    rw [← a3]
                  have h2 : olds.toList.length = ql * sz := by rw [k2.length, hol]
                  rw [hll, h1]
                  apply List.ext_getElem?
                  intro i
                  have hfit' : S + ql * sz + p.2.1 * sz ≤ C.size := by rw [hnews] at hfit; omega
                  simp only [List.getElem?_take, List.getElem?_drop, List.getElem?_append, List.length_append, List.length_take, List.length_drop, Nat.add_zero, Array.length_toList, Nat.add_mul]
                  have m1 : min (S + ql * sz) C.size = S + ql * sz := by omega
                  have m2 : min (ql * sz) (C.size - S) = ql * sz := by omega
                  simp only [m1, m2]
                  have hn' : news.size = p.2.1 * sz := by simpa using hnews
                  by_cases i1 : i < ql * sz
                  · simp [i1, show i < ql * sz + p.2.1 * sz by omega, show S + i < S + ql * sz by omega, show S + i < S + ql * sz + news.size by omega]
                  · by_cases i2 : i < ql * sz + p.2.1 * sz
                    · simp [i1, i2, show ¬ S + i < S + ql * sz by omega, show S + i < S + ql * sz + news.size by omega, show S + i - (S + ql * sz) = i - ql * sz by omega]
                    · have : news.toList[i - ql * sz]? = none := by rw [List.getElem?_eq_none]; simp [hn']; omega
                      simp only [if_neg i2, if_neg i1, this]
                simp only []
                rw [key]
                exact hr2
            refine ⟨σ.add s1.next b S (some (c', sz)), w.putObj b O, .slice (some ⟨b, S + 0, none⟩) (ql + p.2.1) c', .inl (hcall ?_), ?_, ?_, .slice (o' := 0) Ren.add_same ⟨0, by omega, by omega, .inl (by simp), .inl rfl⟩⟩
            · rw [ex, ey]
              exact hap
            · refine hxk.trans ⟨hleA, fun i hi' => Ren.add_ne (by omega), by rw [fs2]; simp, below_putObj ((hw.lt hs).1.1 ft.1)⟩
            · exact hw2.name hnone (by rw [fs2]; simp) (by rw [fs2]; simp [Tree.get_setN]) ft2 ((hw.lt hs).1.1 ft.1) (World.putObj_heap_same (hw.lt hs).2) hreal (fun j sh' x' o' hj ho' => by
                have hjn : j ≠ s1.next := fun e => by rw [e, hnone] at hj; cases hj
                rw [fs2] at ho'
                simp only [Tree.get_setN, if_neg hjn] at ho'
                exact hdead hj ho')
          · exact grow hwk hxk ex hin k1 k2 hol g9 rfl rfl
end
end Go.Proofs.Yteeamkdblcinnaa.Kern
