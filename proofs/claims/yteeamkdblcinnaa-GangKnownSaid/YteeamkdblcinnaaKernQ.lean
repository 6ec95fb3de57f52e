/-
  A closed call that the calculation finds true returns true in the model and leaves the old memory as it was. It holds of every program whose table of types and functions fits (TabOk).
-/
import Derived.Test.YteeamkdblcinnaaKernO
namespace Go.Proofs.Yteeamkdblcinnaa.Kern
open Go Go.RowKit

/-- What is shown of a run, with the start of a round beside it. -/
structure SelfOk2 (P : Program) (S : Self) : Prop extends SelfOk P S where
  again : ∀ {rd n c f s e f' s' N σ w a F m}, S.code rd n (.loop c) f s = some (e, f', s') → FOk F rd → n < top → FRel σ n f a → WRel N σ s w → ∀ {Q : Exit → Act → World → Prop},
    (∀ τ a' w', Ext N σ τ s s' w w' → FRel τ n f' a' → WRel N τ s' w' → Q (toExit e) a' w') → againIn F m P c Q a w

theorem cSeq_eq {self : Self} {rd : Bool} {n : Nat} {b : Code} {r : Option (Ex × Fr × St)} {q : Ex × Fr × St} (h : cSeq self rd n b r = some q) :
    ∃ e f s, r = some (e, f, s) ∧ ((e = .normal ∧ self.code rd n b f s = some q) ∨ (e ≠ .normal ∧ q = (e, f, s))) := by
  obtain ⟨⟨e, f, s⟩, h1, h2⟩ := ob_eq h
  refine ⟨e, f, s, h1, ?_⟩
  cases e with
  | normal => exact .inl ⟨rfl, h2⟩
  | exit id => exact .inr ⟨by simp, (Option.some.inj h2).symm⟩
  | goto l => exact .inr ⟨by simp, (Option.some.inj h2).symm⟩
  | ret => exact .inr ⟨by simp, (Option.some.inj h2).symm⟩
theorem then_ne {K : Act → World → Prop} {Q : Exit → Act → World → Prop} {e : Ex} (he : e ≠ .normal) {a : Act} {w : World} (h : Q (toExit e) a w) : Exit.then K Q (toExit e) a w := by
  cases e with
  | normal => exact absurd rfl he
  | exit id => exact h
  | goto l => exact h
  | ret => exact h

section
variable {P : Program} {T : Tab} {self : Self} (hT : TabOk P T) (hP : T.prog = P) (hS : SelfOk2 P self)
include hS

theorem again_ok {rd : Bool} {n : Nat} {c : Code} {f f' : Fr} {s s' : St} {e : Ex} {N : Nat} {σ : Ren} {w : World} {a : Act} {F : Fence} {m : Nat} (h : cSeq self rd n (.loop c) (self.code rd n c f s) = some (e, f', s')) (hF : FOk F rd) (hn : n < top)
    (hf : FRel σ n f a) (hw : WRel N σ s w) {Q : Exit → Act → World → Prop} (hQ : ∀ τ a' w', Ext N σ τ s s' w w' → FRel τ n f' a' → WRel N τ s' w' → Q (toExit e) a' w') : againIn F m P c Q a w := by
  obtain ⟨e1, f1, s1, h1, h2⟩ := cSeq_eq h
  refine again_of_round (hS.code h1 hF hn hf hw fun τ a1 w1 hx hf1 hw1 => ?_)
  rcases h2 with ⟨rfl, h2⟩ | ⟨hne, h2⟩
  · exact hS.again h2 hF hn hf1 hw1 fun τ2 a2 w2 x2 f2 k2 => hQ τ2 a2 w2 (hx.trans x2) f2 k2
  · cases h2
    exact then_ne hne (hQ τ a1 w1 hx hf1 hw1)

include hT hP

theorem code_ok {rd : Bool} {n : Nat} {c : Code} {f f' : Fr} {s s' : St} {e : Ex} {N : Nat} {σ : Ren} {w : World} {a : Act} {F : Fence} {m : Nat} (h : codeF T self rd n c f s = some (e, f', s')) (hF : FOk F rd) (hn : n < top)
    (hf : FRel σ n f a) (hw : WRel N σ s w) {Q : Exit → Act → World → Prop} (hQ : ∀ τ a' w', Ext N σ τ s s' w w' → FRel τ n f' a' → WRel N τ s' w' → Q (toExit e) a' w') : c.wpIn F m P Q a w := by
  cases c with
  | skip =>
    have h' : some (Ex.normal, f, s) = some (e, f', s') := h
    cases h'
    exact wpIn_skip (hQ σ a w Ext.refl hf hw)
  | label l =>
    have h' : some (Ex.normal, f, s) = some (e, f', s') := h
    cases h'
    exact wpIn_label (hQ σ a w Ext.refl hf hw)
  | exit id =>
    have h' : some (Ex.exit id, f, s) = some (e, f', s') := h
    cases h'
    exact wpIn_exit (hQ σ a w Ext.refl hf hw)
  | goto l =>
    have h' : some (Ex.goto l, f, s) = some (e, f', s') := h
    cases h'
    exact wpIn_goto (hQ σ a w Ext.refl hf hw)
  | ret =>
    have h' : some (Ex.ret, f, s) = some (e, f', s') := h
    cases h'
    exact wpIn_ret (hQ σ a w Ext.refl hf hw)
  | refuse r =>
    have h' : none = some (e, f', s') := h
    cases h'
  | seq x y =>
    obtain ⟨e1, f1, s1, h1, h2⟩ := cSeq_eq (show cSeq self rd n y (self.code rd n x f s) = some (e, f', s') from h)
    refine wpIn_seq (hS.code h1 hF hn hf hw fun τ a1 w1 hx hf1 hw1 => ?_)
    rcases h2 with ⟨rfl, h2⟩ | ⟨hne, h2⟩
    · exact hS.code h2 hF hn hf1 hw1 fun τ2 a2 w2 x2 f2 k2 => hQ τ2 a2 w2 (hx.trans x2) f2 k2
    · cases h2
      exact then_ne hne (hQ τ a1 w1 hx hf1 hw1)
  | cond o x y =>
    obtain ⟨h1, h2⟩ := gd_eq (show gd (constOk o) (cCond self rd n (f.eval o) x y f s) = some (e, f', s') from h)
    obtain ⟨t, h3, h4⟩ := ob_eq h2
    have hv := hf.eval h1
    rw [boolOf_eq h3] at hv
    refine wpIn_cond hv.of_bool ?_
    cases t with
    | true => exact hS.code h4 hF hn hf hw hQ
    | false => exact hS.code h4 hF hn hf hw hQ
  | block id c =>
    obtain ⟨⟨e1, f1, s1⟩, h1, h2⟩ := ob_eq (show cBlock id (self.code rd n c f s) = some (e, f', s') from h)
    refine wpIn_block (hS.code h1 hF hn hf hw fun τ a1 w1 hx hf1 hw1 => ?_)
    cases e1 with
    | normal => cases h2; exact hQ τ a1 w1 hx hf1 hw1
    | goto l => cases h2; exact hQ τ a1 w1 hx hf1 hw1
    | ret => cases h2; exact hQ τ a1 w1 hx hf1 hw1
    | exit j =>
      have h2' : bt (Nat.beq j id) (some (Ex.normal, f1, s1)) (some (Ex.exit j, f1, s1)) = some (e, f', s') := h2
      cases hj : Nat.beq j id with
      | true =>
        rw [hj] at h2'
        cases h2'
        have := beq_t hj
        subst this
        simpa [toExit, Exit.inBlock] using hQ τ a1 w1 hx hf1 hw1
      | false =>
        rw [hj] at h2'
        cases h2'
        have := beq_f hj
        simpa [toExit, Exit.inBlock, this] using hQ τ a1 w1 hx hf1 hw1
  | loop c => exact loop_of_again (again_ok hS (show cSeq self rd n (.loop c) (self.code rd n c f s) = some (e, f', s') from h) hF hn hf hw hQ)
  | scope c =>
    obtain ⟨⟨e1, f1, s1⟩, h1, h2⟩ := ob_eq (show cScope (self.code rd n c f s) = some (e, f', s') from h)
    refine wpIn_scope (hS.code h1 hF hn hf hw fun τ a1 w1 hx hf1 hw1 => ?_)
    cases e1 with
    | normal => cases h2; exact hQ τ a1 w1 hx hf1 hw1
    | goto l => cases h2
    | ret => cases h2; exact hQ τ a1 w1 hx hf1 hw1
    | exit j => cases h2; exact hQ τ a1 w1 hx hf1 hw1
  | region id ops draw =>
    cases draw with
    | true =>
      obtain ⟨l, h1, h2⟩ := ob_eq (show ob (plan T n ops) (fun l => ob (planRun self l [] f s) fun p => some (Ex.normal, p)) = some (e, f', s') from h)
      obtain ⟨⟨f1, s1⟩, h3, h4⟩ := ob_eq h2
      cases h4
      exact drawn_ok hT hP hS.toSelfOk hn hF h1 h3 hf hw hQ
    | false =>
      obtain ⟨l, h1, h2⟩ := ob_eq (show ob (compOps T n ops.toList ops.toList) (fun l => ob (opsF self l f s) fun p => some (Ex.normal, p)) = some (e, f', s') from h)
      obtain ⟨⟨f1, s1⟩, h3, h4⟩ := ob_eq h2
      cases h4
      refine wpIn_region (ops_ok hT hP hS.toSelfOk hn hF ops.toList (List.range ops.size) l (by simp) ?_ h1 h3 hf hw hQ)
      intro k i o hk ho
      have hi : k = i := by
        rw [List.getElem?_range (by
          have := (List.getElem?_eq_some_iff.1 hk).1
          simpa using this)] at hk
        exact Option.some.inj hk
      subst hi
      simpa using ho
  | rangeFunc g ps assign body =>
    obtain ⟨hrd, h2⟩ := gd_eq (show gd (bt rd false true) (cRange self n g ps.toList assign body f s) = some (e, f', s') from h)
    have hrd' : rd = false := by cases rd <;> simp_all
    subst hrd'
    have hFw : F = Fence.wide := by
      rcases hF with ⟨_, h⟩ | ⟨h, _⟩
      · exact h
      · cases h
    subst hFw
    obtain ⟨hg, h4⟩ := gd_eq h2
    obtain ⟨s1, h5, h6⟩ := ob_eq h4
    obtain ⟨s2, h7, h8⟩ := ob_eq h6
    obtain ⟨q, h9, h10⟩ := ob_eq h8
    obtain ⟨⟨v, s3⟩, h11, h12⟩ := ob_eq h10
    obtain ⟨r, h13, h14⟩ := ob_eq h12
    obtain ⟨h15, h16⟩ := gd_eq h14
    obtain ⟨s4, h17, h18⟩ := ob_eq h16
    have hw1 := hw.push (x := none) (O := .deferred (some [])) h5 .deferred
    have x1 := Ext.push (x := none) (O := .deferred (some [])) hw h5
    have hf1 := hf.mono x1.le
    refine wpIn_rangeFunc fun fn hfn => ?_
    obtain ⟨L, hL⟩ : ∃ L : Loop, L = { state := .ready, pending := none, fn, tmps := a.tmps, params := ps, assign, body, defers := w.heap.size } := ⟨_, rfl⟩
    have hrel : ∀ τ : Ren, FRel τ n f a → LoopRel τ ⟨true, none, n, f.tmps, ps.toList, assign, body⟩ L := by
      intro τ ht
      subst hL
      exact ⟨rfl, rfl, ht.size, fun t => ht.tmps t, rfl, rfl, rfl⟩
    have hle2 := Ren.le_add (b := (w.alloc (.deferred (some []))).heap.size) (sh := 0) (x := none) (hw1.fresh (Nat.le_refl s1.next))
    have hw2 := hw1.push (x := none) (O := .loop L) h7 (.loop (hrel _ (hf1.mono hle2)))
    have x2 := Ext.push (x := none) (O := .loop L) hw1 h7
    have hf2 := hf1.mono x2.le
    have hgv := hf2.eval hg
    have hq : f.eval g = .func (.func q.1) ⟨q.2.1⟩ ⟨q.2.2⟩ := by
      unfold funcOf at h9
      split at h9
      · cases h9; assumption
      · cases h9
    rw [hq] at hgv
    generalize hge : a.eval g = gv at hgv
    cases hgv with
    | func _ hfn' hp hqq =>
      rename_i p' q'
      obtain ⟨fn2, e1, e2, e3⟩ := hS.callee h11
      obtain ⟨body2, hb⟩ := Option.isSome_iff_exists.1 e3
      have e2' : ¬ fn2.name = "runtime.NumGoroutine" := by simpa using e2
      have hloopσ : ((σ.add s.next w.heap.size 0 none).add s1.next (w.alloc (.deferred (some []))).heap.size 0 none) s1.next = some (w.heap.size + 1, 0, none) := by
        rw [Ren.add_same]; simp
      refine ⟨w.heap.size + 1, [{ target := .collected w.heap.size, args := #[] }], (w.alloc (.deferred (some []))).alloc (.loop L), { target := .fn (.func q.1) q', args := p' ++ #[.func (.yield (w.heap.size + 1)) #[] #[]] }, (w.alloc (.deferred (some []))).alloc (.loop L), q.1,
        p' ++ #[.func (.yield (w.heap.size + 1)) #[] #[]] ++ q', (w.alloc (.deferred (some []))).alloc (.loop L), (by rw [hL]; exact run_enterLoop_outer _ _ _ _ _), ?_, fun _ _ => trivial, ?_, (fun hd => by cases hd), ?_⟩
      · simp [resolve, hge, Deferred.ofValue]
        rfl
      · simp [invoke, callFunc, e1, e2', hb]
      · have hargs : LRel ((σ.add s.next w.heap.size 0 none).add s1.next (w.alloc (.deferred (some []))).heap.size 0 none) (q.2.1 ++ [.func (.yield s1.next) #[] #[]] ++ q.2.2) (p' ++ #[Value.func (.yield (w.heap.size + 1)) #[] #[]] ++ q').toList := by
          simp only [Array.toList_append]
          exact (hp.append (.cons (.yield hloopσ) .nil)).append hqq
        have hcall := hS.call h11 hw2 hargs
        refine callsIn_wide.2 (hcall.mono ?_)
        · intro e' w' he
          obtain ⟨τ, v', rfl, x3, hw3, -⟩ := he
          have hl3 := x3.le _ _ hloopσ
          obtain ⟨R3, hR3, hL3⟩ := hw3.loop hl3 h13
          have hnb : R3.state ≠ .busy := by
            rw [hL3.state]
            unfold loopState
            cases hr : r.ready <;> cases hj : r.jump <;> simp_all
          have hend := run_endLoop (P := P) hR3 hnb
          have hw4 := hw3.upd (O := .loop { R3 with state := .exhausted }) hl3 (loopAt_eq h13) (by simp) h17 (.deadR _)
          have x4 := Ext.upd (O := .loop { R3 with state := .exhausted }) hw3 hl3 h17
          have hx := x1.trans (x2.trans (x3.trans x4))
          have hmσ : τ s.next = some (w.heap.size, 0, none) := x3.le _ _ (hle2 _ _ Ren.add_same)
          have hf4 : FRel τ n ⟨f.tmps, s.next :: f.marks⟩ { a with defers := [{ target := .collected w.heap.size, args := #[] }] ++ a.defers } :=
            ⟨hf.size, fun t => (hf2.mono x3.le).tmps t, .cons hmσ (hf2.mono x3.le).marks⟩
          generalize w'.putObj (w.heap.size + 1) (.loop { R3 with state := .exhausted }) = W4 at hend hw4 hx
          rw [hL3.jump] at hend
          refine ⟨_, _, hend, ?_⟩
          cases hj : r.jump with
          | none =>
            rw [hj] at h18
            cases h18
            exact hQ τ _ _ hx hf4 hw4
          | some c =>
            rw [hj] at h18
            exact hS.code (show self.code false n c ⟨f.tmps, s.next :: f.marks⟩ s4 = some (e, f', s') from h18) (.inl ⟨rfl, rfl⟩) hn hf4 hw4 fun τ2 a2 w2 k1 k2 k3 => hQ τ2 a2 w2 (hx.trans k1) k2 k3

end

section
variable {P : Program} {T : Tab} {self : Self} (hT : TabOk P T) (hS : SelfOk2 P self)
include hS hT

theorem call_ok {g : FuncId} {args : List Value} {s s' : St} {v : Value} {N : Nat} {σ : Ren} {w : World} {args' : Array Value} (h : callF T self g args s = some (v, s')) (hw : WRel N σ s w) (ha : LRel σ args args'.toList) :
    Calls P g args' w fun e w' => ∃ τ v', e = .returned v' ∧ Ext N σ τ s s' w w' ∧ WRel N τ s' w' ∧ VRel τ v v' := by
  obtain ⟨fn, h1, h2⟩ := ob_eq h
  obtain ⟨c, h3, h4⟩ := ob_eq h2
  obtain ⟨h5, h6⟩ := gd_eq h4
  obtain ⟨⟨e, f, s1⟩, h7, h8⟩ := ob_eq h6
  obtain ⟨h9, h10⟩ := gd_eq h8
  obtain ⟨s2, h11, h12⟩ := ob_eq h10
  obtain ⟨vs, h13, h14⟩ := ob_eq h12
  cases h14
  simp only [Bool.and_eq_true] at h5
  have hle : args.length ≤ fn.ntmps := by have := ble_t h5.1.1; rwa [lenL_eq] at this
  have hnt : fn.ntmps < top := blt_t h5.1.2
  have hal : args.length < top := by have := blt_t h5.2; rwa [lenL_eq] at this
  have hsz : args'.size = args.length := by have := ha.length; simpa using this
  have hf : FRel σ fn.ntmps ⟨Tree.ofList args 0 .leaf, []⟩ { tmps := args' ++ Array.replicate (fn.ntmps - args'.size) undef, defers := [] } := by
    refine ⟨by simp; omega, fun t => ?_, .nil⟩
    change VRel σ (Option.rec (motive := fun _ => Value) undef (fun v => v) ((Tree.ofList args 0 .leaf).get t)) _
    rw [Tree.get_list args t (Nat.le_of_lt hal)]
    cases ht : args[t]? with
    | none =>
      have hge : args'.size ≤ t := by rw [hsz]; simpa using ht
      have : (args' ++ Array.replicate (fn.ntmps - args'.size) undef).getD t undef = undef := by
        simp only [Array.getD_eq_getD_getElem?, Array.getElem?_append_right hge, Array.getElem?_replicate]
        split <;> rfl
      rw [this]
      exact undef_rel
    | some x =>
      obtain ⟨x', k1, k2⟩ := ha.get ht
      have hlt : t < args'.size := by rw [hsz]; exact (List.getElem?_eq_some_iff.1 ht).1
      have : (args' ++ Array.replicate (fn.ntmps - args'.size) undef).getD t undef = x' := by
        simp only [Array.getD_eq_getD_getElem?, Array.getElem?_append_left hlt]
        have : args'[t]? = some x' := by simpa using k1
        rw [this]; rfl
      rw [this]
      exact k2
  refine callsIn_wide.1 (callsIn_of_wp_marks (F := Fence.wide) (n := 0) (hT.funcs h1) h3 trivial ?_)
  refine hS.code h7 (.inl ⟨rfl, rfl⟩) hnt hf hw fun τ a1 w1 x1 f1 k1 => ?_
  have fin : LeavesInM Fence.wide 0 P fn a1.tmps (fun e w' => ∃ τ v', e = .returned v' ∧ Ext N σ τ s s' w w' ∧ WRel N τ s' w' ∧ VRel τ (tupled vs) v') a1.defers .returning w1 := by
    refine leave_ok f1.marks h11 k1 fun w2 x2 k2 => ?_
    obtain ⟨v', q1, q2⟩ := results_ok hT f1 k2 h13
    exact ⟨v', q1, τ, v', rfl, x1.trans x2, k2, q2⟩
  cases e with
  | normal => exact fin
  | ret => exact fin
  | exit id => cases h9
  | goto l => cases h9
end

section
variable {P : Program} {T : Tab}
/-- What the closed call that is taken as known keeps. -/
structure StubOk (P : Program) (T : Tab) : Prop where
  func : ∀ {g}, T.stub = some g → ∃ fn, P.funcs[g]? = some fn ∧ (fn.name == "runtime.NumGoroutine") = false ∧ fn.body.isSome = true
  call : ∀ {g}, T.stub = some g → ∀ w, Calls P g #[] w fun e w' => e = .returned (.bool true) ∧ Below w.heap.size w w'
theorem StubOk.none (h : T.stub = none) : StubOk P T := ⟨fun e => (by rw [h] at e; cases e), fun e => (by rw [h] at e; cases e)⟩
theorem stubHit_eq {g : FuncId} {args : List Value} (h : stubHit T g args = true) : T.stub = some g ∧ args = [] := by
  unfold stubHit at h
  cases hs : T.stub with
  | none => rw [hs] at h; cases h
  | some k =>
    rw [hs] at h
    have h' : bt (Nat.beq k g) (List.rec (motive := fun _ => Bool) true (fun _ _ _ => false) args) false = true := h
    cases hk : Nat.beq k g with
    | false => rw [hk] at h'; cases h'
    | true =>
      rw [hk] at h'
      cases args with
      | nil => exact ⟨by rw [Nat.eq_of_beq_eq_true hk], rfl⟩
      | cons _ _ => cases h'
theorem callS_eq {self : Self} {g : FuncId} {args : List Value} {s : St} {r : Value × St} (h : callS T self g args s = some r) : (T.stub = some g ∧ args = [] ∧ r = (.bool true, s)) ∨ callF T self g args s = some r := by
  unfold callS at h
  cases hb : stubHit T g args with
  | false => rw [hb] at h; exact .inr h
  | true =>
    rw [hb] at h
    exact .inl ⟨(stubHit_eq hb).1, (stubHit_eq hb).2, (Option.some.inj h).symm⟩
theorem WRel.below {N : Nat} {σ : Ren} {s : St} {w w' : World} (h : WRel N σ s w) (hb : Below w.heap.size w w') : WRel N σ s w' :=
  ⟨Nat.le_trans h.base hb.size, fun e => ⟨(h.lt e).1, Nat.lt_of_lt_of_le (h.lt e).2 hb.size⟩, h.fresh, fun e k => by
    obtain ⟨O, hO, hr⟩ := h.real e k
    exact ⟨O, (hb.block _ (h.lt e).2).trans hO, hr⟩, h.inj⟩
theorem run_ok (hT : TabOk P T) (hP : T.prog = P) (hst : StubOk P T) : ∀ n, SelfOk2 P (run T n)
  | 0 => {
      callee := fun h => by cases h
      call := fun h => by cases h
      code := fun h => by cases h
      again := fun h => by cases h }
  | n + 1 =>
    have ih := run_ok hT hP hst n
    { callee := fun {g args s r} h => by
        rcases callS_eq (show callS T (run T n) g args s = some r from h) with ⟨h1, _, _⟩ | h
        · exact hst.func h1
        · obtain ⟨fn, h1, h2⟩ := ob_eq h
          obtain ⟨c, h3, _⟩ := ob_eq h2
          exact ⟨fn, hT.funcs h1, hT.names h1, by rw [h3]; rfl⟩
      call := fun {g args s v s' N σ w args'} h hw ha => by
        rcases callS_eq (show callS T (run T n) _ _ _ = _ from h) with ⟨h1, rfl, h2⟩ | h
        · cases h2
          have : args' = #[] := by
            have := ha.length
            exact Array.eq_empty_of_size_eq_zero (by simpa using this)
          subst this
          exact (hst.call h1 w).mono fun e w' ⟨he, hb⟩ => ⟨σ, .bool true, he, ⟨σ.le_refl, fun _ _ => rfl, Nat.le_refl _, hb.mono hw.base⟩, hw.below hb, .bool _⟩
        · exact call_ok hT ih h hw ha
      code := fun h hF hn hf hw => code_ok hT hP ih (show codeF T (run T n) _ _ _ _ _ = _ from h) hF hn hf hw
      again := fun {rd n' c f s e f' s' N σ w a F m} h hF hn hf hw => again_ok ih (show cSeq (run T n) rd n' (.loop c) ((run T n).code rd n' c f s) = some (e, f', s') from h) hF hn hf hw }

/-- A closed call that a calculation finds true. -/
theorem calls_of_run (hT : TabOk P T) (hP : T.prog = P) (hst : StubOk P T) {n : Nat} {g : FuncId} (h : isTrue ((run T n).call g [] ⟨.leaf, 0⟩) = true) (w : World) : Calls P g #[] w fun e w' => e = .returned (.bool true) ∧ Below w.heap.size w w' := by
  have hw : WRel w.heap.size (fun _ => none) ⟨.leaf, 0⟩ w := ⟨Nat.le_refl _, (fun h => by cases h), fun _ => rfl, (fun h => by cases h), (fun h => by cases h)⟩
  have key : ∃ s', (run T n).call g [] ⟨.leaf, 0⟩ = some (.bool true, s') := by
    unfold isTrue at h
    split at h
    · exact ⟨_, by assumption⟩
    · cases h
  obtain ⟨s', hs⟩ := key
  refine ((run_ok hT hP hst n).call hs hw (args' := #[]) .nil).mono fun e w' he => ?_
  obtain ⟨τ, v', rfl, hx, _, hv⟩ := he
  rw [hv.of_bool]
  exact ⟨rfl, hx.below⟩

/-- The table of a program. -/
noncomputable def tabOf (P : Program) (stub : Option FuncId := none) : Tab := ⟨Tree.ofList P.types.toList 0 .leaf, Tree.ofList P.funcs.toList 0 .leaf, P, stub⟩
noncomputable def tabFits (P : Program) : Bool :=
  Nat.ble (lenL P.types.toList) top && Nat.ble (lenL P.funcs.toList) top && P.funcs.toList.all (fun f => !(f.name == "runtime.NumGoroutine")) && P.follows .mixedOrders
theorem tabOf_ok {stub : Option FuncId} (h : tabFits P = true) : TabOk P (tabOf P stub) := by
  simp only [tabFits, Bool.and_eq_true] at h
  obtain ⟨⟨⟨h1, h2⟩, h3⟩, h4⟩ := h
  have l1 : P.types.toList.length ≤ top := by have := ble_t h1; rwa [lenL_eq] at this
  have l2 : P.funcs.toList.length ≤ top := by have := ble_t h2; rwa [lenL_eq] at this
  have hfun : ∀ {f fn}, (tabOf P stub).funcs.get f = some fn → P.funcs[f]? = some fn := fun {f fn} e => by
    have e' : (Tree.ofList P.funcs.toList 0 .leaf).get f = some fn := e
    rw [Tree.get_list _ _ l2] at e'
    simpa using e'
  refine ⟨fun {t i} e => ?_, hfun, fun {f fn} e => ?_, h4⟩
  · have e' : (Tree.ofList P.types.toList 0 .leaf).get t = some i := e
    rw [Tree.get_list _ _ l1] at e'
    have e2 : P.types[t]? = some i := by simpa using e'
    have hlt : t < P.types.size := (Array.getElem?_eq_some_iff.1 e2).1
    change (if t < P.types.size then P.types[t]? else _) = some i
    rw [if_pos hlt, e2]
  · have := List.all_eq_true.1 h3 fn (by
      have := hfun e
      rw [← Array.getElem?_toList] at this
      exact List.mem_of_getElem? this)
    simpa using this
end
end Go.Proofs.Yteeamkdblcinnaa.Kern
