/-
  Calls of function values and rounds of loops over functions are calculated rightly. It holds of every program whose table of types and functions fits (TabOk).
-/
import Derived.Test.YteeamkdblcinnaaKernK
import Derived.RangeFuncCalls
namespace Go.Proofs.Yteeamkdblcinnaa.Kern
open Go Go.RowKit

inductive MarkRel (σ : Ren) : List Nat → List Deferred → Prop
  | nil : MarkRel σ [] []
  | cons {m b s : Nat} {x : Cap} {ms : List Nat} {ds : List Deferred} (h : σ m = some (b, s, x)) (t : MarkRel σ ms ds) : MarkRel σ (m :: ms) ({ target := .collected b, args := #[] } :: ds)
theorem MarkRel.mono {σ τ : Ren} (hle : σ.le τ) : ∀ {ms : List Nat} {ds : List Deferred}, MarkRel σ ms ds → MarkRel τ ms ds
  | _, _, .nil => .nil
  | _, _, .cons h t => .cons (hle _ _ h) (t.mono hle)

structure FRel (σ : Ren) (n : Nat) (f : Fr) (a : Act) : Prop where
  size : a.tmps.size = n
  tmps : ∀ t, VRel σ (f.get t) (a.tmps.getD t undef)
  marks : MarkRel σ f.marks a.defers
theorem FRel.mono {σ τ : Ren} (hle : σ.le τ) {n : Nat} {f : Fr} {a : Act} (h : FRel σ n f a) : FRel τ n f a := ⟨h.size, fun t => (h.tmps t).mono hle, h.marks.mono hle⟩

theorem Fr.get_put {f : Fr} {d t : Nat} {v : Value} (_ : d < top) : (f.put (some d) v).get t = if t = d then v else f.get t := by
  change Option.rec (motive := fun _ => Value) undef (fun v => v) ((f.tmps.set v (d + 1) d).get t) = _
  rw [Tree.get_setN]
  by_cases e : t = d
  · simp [e]
  · simp only [if_neg e]; rfl
theorem getD_put {a : Array Value} {d t : Nat} {v : Value} (h : d < a.size) : (a.setIfInBounds d v).getD t undef = if t = d then v else a.getD t undef := by
  simp only [Array.getD_eq_getD_getElem?, Array.getElem?_setIfInBounds]
  by_cases e : d = t
  · subst e; simp [h]
  · simp [e, Ne.symm e]
theorem dstOk_some {n d : Nat} (h : dstOk n (some d) = true) : d < n := blt_t h
theorem FRel.put {σ : Ren} {n : Nat} {f : Fr} {a : Act} (h : FRel σ n f a) (hn : n < top) {dst : Option Tmp} (hd : dstOk n dst = true) {v v' : Value} (hv : VRel σ v v') : FRel σ n (f.put dst v) (a.put dst v') := by
  cases dst with
  | none => exact h
  | some d =>
    have hlt := dstOk_some hd
    refine ⟨by simp [Act.put, h.size], fun t => ?_, h.marks⟩
    rw [Fr.get_put (Nat.lt_trans hlt hn)]
    simp only [Act.put]
    rw [getD_put (by rw [h.size]; exact hlt)]
    by_cases e : t = d
    · rw [if_pos e, if_pos e]; exact hv
    · rw [if_neg e, if_neg e]; exact h.tmps t
theorem FRel.eval {σ : Ren} {n : Nat} {f : Fr} {a : Act} (h : FRel σ n f a) {x : Operand} (hx : constOk x = true) : VRel σ (f.eval x) (a.eval x) := by
  cases x with
  | tmp t => exact h.tmps t
  | const v => exact closedV_rel hx
  | global g => simp [constOk] at hx
  | func g => exact .func _ (fun l e => by cases e) .nil .nil

/-- The fences that a calculated run is in. -/
def FOk (F : Fence) (rd : Bool) : Prop := (rd = false ∧ F = Fence.wide) ∨ (rd = true ∧ ∃ b, F = Fence.wide.inRound b)
theorem FOk.fn {F : Fence} {rd : Bool} (h : FOk F rd) (f : FuncId) : F.fn f := by
  rcases h with ⟨_, rfl⟩ | ⟨_, b, rfl⟩ <;> trivial
theorem FOk.depth {F : Fence} {rd : Bool} (h : FOk F rd) : F.depth = none := by
  rcases h with ⟨_, rfl⟩ | ⟨_, b, rfl⟩ <;> rfl
theorem FOk.inRound {F : Fence} {rd : Bool} (h : FOk F rd) (b : Nat) : F.inRound b = Fence.wide.inRound b := by
  rcases h with ⟨_, rfl⟩ | ⟨_, b', rfl⟩ <;> rfl
theorem FOk.calls {F : Fence} {rd : Bool} (h : FOk F rd) {n : Nat} {P : Program} {f : FuncId} {args : Array Value} {w : World} {R : Ending → World → Prop} (hc : Calls P f args w R) : CallsIn F n P f args w R := by
  rcases h with ⟨_, rfl⟩ | ⟨_, b, rfl⟩
  · exact callsIn_wide.2 hc
  · exact CallsIn.inRound b (callsIn_wide.2 hc)

noncomputable def toExit : Ex → Exit
  | .normal => .normal
  | .exit id => .exit id
  | .goto l => .goto l
  | .ret => .ret

structure SelfOk (P : Program) (S : Self) : Prop where
  callee : ∀ {g args s r}, S.call g args s = some r → ∃ fn, P.funcs[g]? = some fn ∧ (fn.name == "runtime.NumGoroutine") = false ∧ fn.body.isSome = true
  call : ∀ {g args s v s' N σ w} {args' : Array Value}, S.call g args s = some (v, s') → WRel N σ s w → LRel σ args args'.toList →
    Calls P g args' w fun e w' => ∃ τ v', e = .returned v' ∧ Ext N σ τ s s' w w' ∧ WRel N τ s' w' ∧ VRel τ v v'
  code : ∀ {rd n c f s e f' s' N σ w a F m}, S.code rd n c f s = some (e, f', s') → FOk F rd → n < top → FRel σ n f a → WRel N σ s w → ∀ {Q : Exit → Act → World → Prop},
    (∀ τ a' w', Ext N σ τ s s' w w' → FRel τ n f' a' → WRel N τ s' w' → Q (toExit e) a' w') → c.wpIn F m P Q a w

section
variable {P : Program} {T : Tab}

theorem loopAt_eq {s : St} {l : Nat} {r : ALoop} (h : loopAt s l = some r) : s.heap.get l = some (.loop r) := by
  obtain ⟨o, h1, h2⟩ := ob_eq h
  rw [h1, loopOf_eq h2]
theorem WRel.loop {N : Nat} {σ : Ren} {s : St} {w : World} (hw : WRel N σ s w) {l b sh : Nat} {x : Cap} (hs : σ l = some (b, sh, x)) {r : ALoop} (h : loopAt s l = some r) : ∃ R, w.heap[b]? = some (.loop R) ∧ LoopRel σ r R := by
  obtain ⟨O, h1, h2⟩ := hw.real hs (loopAt_eq h)
  cases h2 with
  | loop h => exact ⟨_, h1, h⟩

theorem putAll_rel {σ : Ren} {n : Nat} (hn : n < top) : ∀ (ts : List Tmp) (vs : List Value) (vs' : List Value) (f : Fr) (A : Array Value), ts.length = vs.length → LRel σ vs vs' → ts.all (fun t => Nat.blt t n) = true →
    A.size = n → (∀ t, VRel σ (f.get t) (A.getD t undef)) →
    ((ts.zip vs').foldl (fun (tmps : Array Value) (p : Tmp × Value) => tmps.setIfInBounds p.1 p.2) A).size = n ∧ (putAll ts vs f).marks = f.marks ∧
    ∀ t, VRel σ ((putAll ts vs f).get t) (((ts.zip vs').foldl (fun (tmps : Array Value) (p : Tmp × Value) => tmps.setIfInBounds p.1 p.2) A).getD t undef)
  | [], vs, vs', f, A, hl, _, _, hA, hf => ⟨hA, rfl, hf⟩
  | t :: ts, [], vs', f, A, hl, _, _, hA, hf => by simp at hl
  | t :: ts, v :: vs, _, f, A, hl, .cons (v' := v') (l' := vs') hv ht, hall, hA, hf => by
    simp at hall
    have hlt := blt_t (by simpa using hall.1 : Nat.blt t n = true)
    have := putAll_rel hn ts vs vs' (f.put (some t) v) (A.setIfInBounds t v') (by simpa using hl) ht (by simpa using hall.2) (by simpa using hA) (fun u => by
      rw [Fr.get_put (Nat.lt_trans hlt hn), getD_put (by rw [hA]; exact hlt)]
      by_cases e : u = t
      · rw [if_pos e, if_pos e]; exact hv
      · rw [if_neg e, if_neg e]; exact hf u)
    exact this

theorem methodF_run (hT : TabOk P T) {t : TypeId} {name : String} {g : FuncId} (h : methodF T t name = some g) (v : Value) (w : World) (n : Nat) : (method (n + 1) t v name).run P w = .ok (g, v) w := by
  obtain ⟨i, h1, h2⟩ := ob_eq h
  obtain ⟨m, h3, h4⟩ := ob_eq h2
  obtain ⟨h5, h6⟩ := gd_eq h4
  obtain ⟨⟨f, q⟩, h7, h8⟩ := ob_eq h6
  obtain ⟨h9, h10⟩ := gd_eq h8
  obtain ⟨d, h11, h12⟩ := ob_eq h10
  have hq : q = false := by simpa using h9
  subst hq
  have hi := hT.types h1
  have hd := und_ok hT h11
  have hnp : (∀ e, d ≠ .pointer e) ∧ f = g := by
    split at h12
    · cases h12
    · rename_i hne
      cases h12
      exact ⟨fun e he => hne e he, rfl⟩
  obtain ⟨hnp, rfl⟩ := hnp
  have hpath : m.path.toList = [] := by
    have : m.path = #[] := by simpa using h5
    rw [this]
  have hfind : i.methods.find? (·.name == name) = some m := by rw [← Array.find?_toList]; exact h3
  have hti : (typeInfo t).run P w = .ok i w := by simp [typeInfo, hi]
  have hrec : ∀ wr, (receiverAt t (.val v) false wr).run P w = .ok v w := fun wr => by
    unfold receiverAt
    simp only [Sem.run_bind, und_run hT h11, Result.andThen]
    cases d <;> first | (exact absurd rfl (hnp _)) | simp [Place.get]
  unfold method
  simp only [Sem.run_bind, hti, Result.andThen_ok, hfind, hpath, follow, Sem.run_pure, h7, hrec]
/-- A call of a method behind an interface. -/
theorem invoke_ok (hT : TabOk P T) {self : Self} (hself : SelfOk P self) {o : Oper} {c : Call} {r : Operand} {name : String} (ho : o.op = .call c) (hc : c.callee = .invoke r name) {F : Fence} {rd : Bool} (hF : FOk F rd) {m N : Nat} {σ : Ren} {s s' : St} {w : World} {ρ : Env} {a : Act} {v : Value}
    (hw : WRel N σ s w) (hi : ∀ x ∈ o.op.operands.toList, VRel σ (ρ x) (a.eval x)) (h : eInvoke T r name c.args.toList self ρ s = some (v, s')) {next : Act → World → Prop} {Q : Exit → Act → World → Prop}
    (hnext : ∀ τ w' v', Ext N σ τ s s' w w' → WRel N τ s' w' → VRel τ v v' → next (a.put o.dst v') w') : o.uponIn F m P a next Q ((execOp a.eval o).run P w) := by
  have hg : VRel σ (ρ r) (a.eval r) := hi r (by rw [ho]; simp [Op.operands, Call.operands, hc])
  have hargs : LRel σ (mapL ρ c.args.toList) (c.args.map a.eval).toList := by
    rw [mapL_eq, Array.toList_map]
    have hm : ∀ l : List Operand, (∀ x ∈ l, VRel σ (ρ x) (a.eval x)) → LRel σ (l.map ρ) (l.map a.eval) := by
      intro l
      induction l with
      | nil => intro _; exact .nil
      | cons y l ih => intro hl; exact .cons (hl y (by simp)) (ih fun x hx => hl x (by simp [hx]))
    exact hm _ fun x hx => hi x (by rw [ho]; simp [Op.operands, Call.operands, hc]; right; simpa using hx)
  unfold eInvoke at h
  split at h
  · rename_i t x hr
    rw [hr] at hg
    obtain ⟨k, h1, h2⟩ := ob_eq h
    generalize hge : a.eval r = gv at hg
    cases hg with
    | iface _ hx =>
      rename_i x'
      obtain ⟨fn, e1, e2, e3⟩ := hself.callee h2
      obtain ⟨body, hb⟩ := Option.isSome_iff_exists.1 e3
      have e2' : ¬ fn.name = "runtime.NumGoroutine" := by simpa using e2
      have hmr := methodF_run hT h1 x' w (P.types.size + 99)
      have hrun : (execOp a.eval o).run P w = .ok (.enter k (#[x'] ++ c.args.map a.eval)) w := by
        have hm2 : (method (P.types.size + Made.depth) t x' name).run P w = .ok (k, x') w := hmr
        have hsz : (c.args.map a.eval).extract 0 c.args.size = c.args.map a.eval := by
          have := Array.extract_size (xs := c.args.map a.eval)
          rw [Array.size_map] at this; exact this
        have h0 : (#[Value.iface t x'] ++ c.args.map a.eval)[0]? = some (Value.iface t x') := by rw [Array.getElem?_append_left (show 0 < (#[Value.iface t x'] : Array Value).size from Nat.zero_lt_one)]; rfl
        simp [execOp, ho, resolve, hc, hge, invoke, h0, callMethod, hm2, callFunc, e1, e2', hb, hsz]
      rw [hrun, Oper.uponIn_enter]
      refine ⟨(fun hd => by rw [hF.depth] at hd; cases hd), ?_⟩
      have hl : LRel σ (x :: mapL ρ c.args.toList) (#[x'] ++ c.args.map a.eval).toList := by
        simp only [Array.toList_append]
        exact .cons hx hargs
      refine (hF.calls (hself.call h2 hw hl)).mono fun e w' he => ?_
      obtain ⟨τ, v', rfl, hx, hw', hv⟩ := he
      exact hnext τ w' v' hx hw' hv
  · cases h
/-- A call of a function value. -/
theorem callV_ok {self : Self} (hself : SelfOk P self) {o : Oper} {c : Call} {g : Operand} (ho : o.op = .call c) (hc : c.callee = .value g) {F : Fence} {rd : Bool} (hF : FOk F rd) {m N : Nat} {σ : Ren} {s s' : St} {w : World} {ρ : Env} {a : Act} {v : Value}
    (hw : WRel N σ s w) (hi : ∀ x ∈ o.op.operands.toList, VRel σ (ρ x) (a.eval x)) (h : eCall g c.args.toList self ρ s = some (v, s')) {next : Act → World → Prop} {Q : Exit → Act → World → Prop}
    (hnext : ∀ τ w' v', Ext N σ τ s s' w w' → WRel N τ s' w' → VRel τ v v' → next (a.put o.dst v') w') : o.uponIn F m P a next Q ((execOp a.eval o).run P w) := by
  have hg : VRel σ (ρ g) (a.eval g) := hi g (by rw [ho]; simp [Op.operands, Call.operands, hc])
  have hargs : LRel σ (mapL ρ c.args.toList) (c.args.map a.eval).toList := by
    rw [mapL_eq, Array.toList_map]
    have hm : ∀ l : List Operand, (∀ x ∈ l, VRel σ (ρ x) (a.eval x)) → LRel σ (l.map ρ) (l.map a.eval) := by
      intro l
      induction l with
      | nil => intro _; exact .nil
      | cons y l ih => intro hl; exact .cons (hl y (by simp)) (ih fun x hx => hl x (by simp [hx]))
    exact hm _ fun x hx => hi x (by rw [ho]; simp [Op.operands, Call.operands, hc]; right; simpa using hx)
  unfold eCall callV at h
  split at h
  · rename_i fn first captured hfv
    rw [hfv] at hg
    split at h
    · rename_i k
      generalize hge : a.eval g = gv at hg
      cases hg with
      | func _ hfn hp hq =>
        rename_i p' q'
        obtain ⟨fn, e1, e2, e3⟩ := hself.callee h
        obtain ⟨body, hb⟩ := Option.isSome_iff_exists.1 e3
        have e2' : ¬ fn.name = "runtime.NumGoroutine" := by simpa using e2
        have hrun : (execOp a.eval o).run P w = .ok (.enter k (p' ++ c.args.map a.eval ++ q')) w := by
          simp [execOp, ho, resolve, hc, hge, Deferred.ofValue, invoke, callFunc, e1, e2', hb]
        rw [hrun, Oper.uponIn_enter]
        refine ⟨(fun hd => by rw [hF.depth] at hd; cases hd), ?_⟩
        have hl : LRel σ (first.toList ++ mapL ρ c.args.toList ++ captured.toList) (p' ++ c.args.map a.eval ++ q').toList := by
          simp only [Array.toList_append]
          exact (hp.append hargs).append hq
        refine (hF.calls (hself.call h hw hl)).mono fun e w' he => ?_
        obtain ⟨τ, v', rfl, hx, hw', hv⟩ := he
        exact hnext τ w' v' hx hw' hv
    · rename_i l
      generalize hge : a.eval g = gv at hg
      cases hg with
      | func _ hfn hp hq => exact absurd rfl (hfn l)
      | yield hs =>
        rename_i b sh x
        obtain ⟨r, h1, h2⟩ := ob_eq h
        obtain ⟨h3, h4⟩ := gd_eq h2
        obtain ⟨p, h5, h6⟩ := ob_eq h4
        obtain ⟨h7, h8⟩ := gd_eq h6
        obtain ⟨r1, h9, h10⟩ := ob_eq h8
        obtain ⟨h11, h12⟩ := gd_eq h10
        obtain ⟨s2, h13, h14⟩ := ob_eq h12
        obtain ⟨p3, h15, h16⟩ := ob_eq h14
        obtain ⟨r2, h17, h18⟩ := ob_eq h16
        obtain ⟨s4, h19, h20⟩ := ob_eq h18
        cases h20
        simp only [Bool.and_eq_true] at h3 h11
        obtain ⟨ex1, f1, s1⟩ := p
        have hnorm : ex1 = .normal := by cases ex1 <;> simp [isNormal] at h7 <;> rfl
        subst hnorm
        obtain ⟨ex3, f3, s3⟩ := p3
        obtain ⟨R, hR, hL⟩ := hw.loop hs h1
        have hlen : (c.args.map a.eval).size = R.params.size := by
          have e1 := beq_t h3.1.1
          rw [lenL_eq, lenL_eq] at e1
          have e2 := hargs.length
          have e3 : R.params.size = r.params.length := by rw [← hL.params]; simp
          simp at e1 e2 ⊢
          simp [e3, ← e1, e2]
        have hyield := run_yield (P := P) (args := c.args.map a.eval) hR hlen
        have hrun : (execOp a.eval o).run P w = .ok (.round b R.fn ((R.params.zip (c.args.map a.eval)).foldl (fun tmps (t, a) => tmps.setIfInBounds t a) R.tmps) R.assign R.body) w := by
          simp [execOp, ho, resolve, hc, hge, Deferred.ofValue, invoke, hyield]
        rw [hrun, Oper.uponIn_round]
        refine ⟨(fun hd => by rw [hF.depth] at hd; cases hd), ?_⟩
        have hnt : r.n < top := blt_t h3.2
        have hput := putAll_rel (σ := σ) hnt r.params (mapL ρ c.args.toList) (c.args.map a.eval).toList ⟨r.tmps, []⟩ R.tmps (by
          have e1 := beq_t h3.1.1
          rw [lenL_eq, lenL_eq] at e1
          simpa using e1.symm) hargs h3.1.2 hL.size hL.tmps
        have hfold : (R.params.zip (c.args.map a.eval)).foldl (fun tmps (t, a) => tmps.setIfInBounds t a) R.tmps = (r.params.zip (c.args.map a.eval).toList).foldl (fun (tmps : Array Value) (p : Tmp × Value) => tmps.setIfInBounds p.1 p.2) R.tmps := by
          rw [← Array.foldl_toList, Array.toList_zip, hL.params]
        rw [hfold]
        rw [hL.assign, hL.body]
        have hFr : FOk (F.inRound b) true := .inr ⟨rfl, b, hF.inRound b⟩
        have hfr : FRel σ r.n (putAll r.params (#[].toList ++ mapL ρ c.args.toList) ⟨r.tmps, []⟩) { tmps := (r.params.zip (c.args.map a.eval).toList).foldl (fun (tmps : Array Value) (p : Tmp × Value) => tmps.setIfInBounds p.1 p.2) R.tmps, defers := [] } :=
          ⟨hput.1, hput.2.2, by simp only [List.nil_append]; rw [hput.2.1]; exact .nil⟩
        refine roundIn_of_wpIn (hF.fn _) ?_
        refine hself.code h5 hFr hnt hfr hw ?_
        intro τ1 a1 w1 x1 fr1 hw1
        have hs1 := x1.le _ _ hs
        obtain ⟨R1, hR1, hL1⟩ := hw1.loop hs1 h9
        have hst1 : R1.state = .ready := by rw [hL1.state]; simp [loopState, h11.1]
        refine ⟨_, run_beginRound hR1 hst1, ?_⟩
        have hj1 : r1.jump = none := by simpa using h11.2
        have hw2 := hw1.upd (O := .loop { R1 with state := .busy }) hs1 (loopAt_eq h9) (by simp) h13 (.loop ⟨rfl, by rw [hL1.jump, hj1], hL1.size, hL1.tmps, hL1.params, hL1.assign, hL1.body⟩)
        have x2 := Ext.upd (O := .loop { R1 with state := .busy }) hw1 hs1 h13
        refine hself.code h15 hFr hnt fr1 hw2 ?_
        intro τ3 a3 w3 x3 fr3 hw3
        have hs3 := x3.le _ _ hs1
        obtain ⟨R3, hR3, hL3⟩ := hw3.loop hs3 h17
        have hend := fun jump => run_endRound (P := P) jump hR3
        have hw4 := hw3.upd (O := .loop { R3 with state := if (jumpOf ex3).isNone then .ready else .done, pending := jumpOf ex3 }) hs3 (loopAt_eq h17) (by simp) h19
          (.loop ⟨by cases hj : jumpOf ex3 <;> simp [loopState], rfl, hL3.size, hL3.tmps, hL3.params, hL3.assign, hL3.body⟩)
        have x4 := Ext.upd (O := .loop { R3 with state := if (jumpOf ex3).isNone then .ready else .done, pending := jumpOf ex3 }) hw3 hs3 h19
        have hfin := hnext τ3 _ (.bool (jumpOf ex3).isNone) (x1.trans (x2.trans (x3.trans x4))) hw4 (.bool _)
        cases ex3 with
        | normal => exact ⟨_, _, hend none, hfin⟩
        | ret => exact ⟨_, _, hend (some .ret), hfin⟩
        | exit id => exact ⟨_, _, hend (some (.exit id)), hfin⟩
        | goto l => exact ⟨_, _, hend (some (.goto l)), hfin⟩
    · cases h
  · cases h
end
end Go.Proofs.Yteeamkdblcinnaa.Kern
