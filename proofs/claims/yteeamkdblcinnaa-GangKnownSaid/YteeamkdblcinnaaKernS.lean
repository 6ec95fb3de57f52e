/-
  Slices of slices, arrays and strings are calculated rightly. It holds of every program whose table of types and functions fits (TabOk).
-/
import Derived.Test.YteeamkdblcinnaaKernJ
namespace Go.Proofs.Yteeamkdblcinnaa.Kern
open Go Go.RowKit

theorem boundF_some {v : Value} {y d r : Nat} (h : boundF (some v) y d = some r) : ∃ k, v = .int k (.ofNat r) ∧ r ≤ y := by
  unfold boundF at h
  split at h
  · rename_i e; cases e
  · rename_i k i e
    cases e
    split at h
    · rename_i hb
      cases h
      exact ⟨k, rfl, ble_t hb⟩
    · cases h
  · cases h
theorem boundF_none {y d r : Nat} (h : boundF none y d = some r) : r = d := by
  have : some d = some r := h
  cases this; rfl

section
variable {P : Program} {T : Tab} {o : Oper}

theorem sliceBound_run {w : World} {k : IntKind} {i y : Nat} (h : i ≤ y) (code : BoundsCode) : (Instr.sliceBound (.int k (i : Int)) y code).run P w = .ok i w := by
  simp [Instr.sliceBound, asIntOf]
  omega

/-- A bound, as it is in both. -/
def BoundIs (v : Option Value) (y d r : Nat) : Prop := (v = none ∧ r = d) ∨ ∃ k, v = some (.int k (.ofNat r)) ∧ r ≤ y
theorem boundF_rel {σ : Ren} {ρ ρ' : Env} {x : Option Operand} {y d r : Nat} (h : boundF (x.map ρ) y d = some r) (hi : ∀ z, x = some z → VRel σ (ρ z) (ρ' z)) : BoundIs (x.map ρ') y d r := by
  cases x with
  | none => exact .inl ⟨rfl, boundF_none h⟩
  | some z =>
    obtain ⟨k, h1, h2⟩ := boundF_some h
    have := hi z rfl
    rw [h1] at this
    exact .inr ⟨k, by simp [this.of_int], h2⟩
theorem bounds_run {w : World} {b : Bool} {len cap h l y : Nat} {lo hi : Option Value} (hh : BoundIs hi y len h) (hy : y ≤ cap) (hl : BoundIs lo h 0 l) : (Instr.sliceBounds b len cap lo hi none).run P w = .ok (l, h, cap) w := by
  unfold Instr.sliceBounds
  rcases hh with ⟨rfl, rfl⟩ | ⟨k, rfl, hk⟩ <;> rcases hl with ⟨rfl, rfl⟩ | ⟨k', rfl, hk'⟩
  · simp
  · simp [sliceBound_run hk']
  · simp [sliceBound_run (Nat.le_trans hk hy)]
  · simp [sliceBound_run (Nat.le_trans hk hy), sliceBound_run hk']

theorem slice_mem {t : TypeId} {x : Operand} {lo hi : Option Operand} (ho : o.op = .slice t x lo hi none) : x ∈ o.op.operands.toList ∧ (∀ z, lo = some z → z ∈ o.op.operands.toList) ∧ (∀ z, hi = some z → z ∈ o.op.operands.toList) := by
  rw [ho]
  refine ⟨?_, fun z e => ?_, fun z e => ?_⟩ <;> (try subst e) <;> simp [Op.operands]

theorem sliceS_ok (hT : TabOk P T) {t e : TypeId} {x : Operand} {lo hi : Option Operand} {n : Nat} (ho : o.op = .slice t x lo hi none) (hd : T.und t = some (.slice e)) (hn : T.size e = some n) : PureOk P o (vSliceS n x lo hi) := by
  intro N σ s w ρ ρ' v hw hop h
  obtain ⟨m1, m2, m3⟩ := slice_mem ho
  obtain ⟨q, h1, h2⟩ := ob_eq h
  obtain ⟨hh, h3, h4⟩ := ob_eq h2
  obtain ⟨ll, h5, h6⟩ := ob_eq h4
  obtain ⟨h7, h8⟩ := gd_eq h6
  cases h8
  simp only [Bool.and_eq_true] at h7
  have hlh := ble_t h7.1
  have hhc := ble_t h7.2.1
  have b1 := boundF_rel h3 (fun z e => hop z (m3 z e))
  have b2 := boundF_rel h5 (fun z e => hop z (m2 z e))
  have hx := hop x m1
  rw [sliceOf_eq h1] at hx
  rcases hx.of_slice with ⟨ea, ex⟩ | ⟨i, oo, b, sh, ca, c', o', ea, hs, hcp, ex⟩
  · refine ⟨.slice none (hh - ll) (q.2.2 - ll), ?_, ?_⟩
    · simp only [execOp, ho, Instr.sliceAt, Sem.run_bind, und_run hT hd, andThen_ok', Instr.slice, ex, Option.map_none, bounds_run b1 (Nat.le_refl _) b2, size_run hT hn, Sem.run_pure]
      by_cases hm : q.2.2 = ll <;> simp [hm]
    · rw [ea]
      cases Nat.blt ll q.2.2 <;> exact .sliceNil _ _
  · have hcc := hcp.le
    obtain ⟨p, g1, g2⟩ : ∃ c, cellsAt s.heap i = some c ∧ (∀ z, c.2 = some z → z = n) := by
      have hg := h7.2.2
      rw [ea] at hg
      change Option.rec (motive := fun _ => Bool) false (fun c => Option.rec (motive := fun _ => Bool) true (fun z => Nat.beq z n) c.2) (cellsAt s.heap i) = true at hg
      cases hc : cellsAt s.heap i with
      | none => rw [hc] at hg; cases hg
      | some c =>
        rw [hc] at hg
        refine ⟨c, rfl, fun z hz => ?_⟩
        have hg' : Option.rec (motive := fun _ => Bool) true (fun z => Nat.beq z n) c.2 = true := hg
        rw [hz] at hg'
        exact beq_t hg'
    obtain ⟨C, ee, fr, ⟨hg, hb, hl, hr⟩, -⟩ := hw.cells hs g1
    -- the true base
    let base : Addr := if c' = ll then ⟨b, sh + o', none⟩ else ⟨b, sh + o' + ll * n, none⟩
    have hrun : (execOp ρ' o).run P w = .ok (.value (.slice (some base) (hh - ll) (c' - ll))) w := by
      simp only [execOp, ho, Instr.sliceAt, Sem.run_bind, und_run hT hd, andThen_ok', Instr.slice, ex, Option.map_none, bounds_run b1 hcc b2, size_run hT hn, Sem.run_pure]
      by_cases hm : c' = ll
      · simp [base, hm]
      · simp [base, hm, addr_add]
    refine ⟨_, hrun, ?_⟩
    rw [ea]
    cases hlt : Nat.blt ll q.2.2 with
    | true =>
      have hlt' := blt_t hlt
      have hoff := hcp.off (.inr (by omega))
      have hb' : base = ⟨b, sh + (oo + ll * n), none⟩ := by
        simp only [base]
        rw [if_neg (by omega), hoff, Nat.add_assoc]
      rw [hb']
      change VRel σ (.slice (some ((⟨i, oo, none⟩ : Addr).add (ll * n))) (hh - ll) (q.2.2 - ll)) _
      rw [addr_add]
      refine .slice hs ?_
      cases ca with
      | none => exact ⟨rfl, by rw [hcp.2]⟩
      | some kz =>
        obtain ⟨K, z⟩ := kz
        obtain ⟨d, d1, d2, d3, d4⟩ := hcp
        have hz : z = n := by
          obtain ⟨cl, gr⟩ := p
          cases gr with
          | none => exact hg.elim
          | some z' => exact hg.1.trans (g2 z' rfl)
        refine ⟨d + ll, by omega, by omega, .inl ?_, .inl rfl⟩
        rw [Nat.add_mul, hz]
        rcases d3 with d3 | d3
        · rw [← hz, ← d3, hoff]
        · omega
    | false =>
      have hge := blt_f hlt
      have hl0 : hh - ll = 0 := by omega
      have hc0 : q.2.2 - ll = 0 := by omega
      change VRel σ (.slice (some ⟨i, oo, none⟩) (hh - ll) (q.2.2 - ll)) _
      cases ca with
      | none =>
        have hb' : base = ⟨b, sh + o', none⟩ := by
          simp only [base]
          rw [if_pos (by have := hcp.2; omega)]
        rw [hb']
        exact .slice hs ⟨hcp.1, by rw [hcp.2]⟩
      | some kz =>
        obtain ⟨K, z⟩ := kz
        obtain ⟨d, d1, d2, d3, d4⟩ := hcp
        have hz : z = n := by
          obtain ⟨cl, gr⟩ := p
          cases gr with
          | none => exact hg.elim
          | some z' => exact hg.1.trans (g2 z' rfl)
        by_cases hm : c' = ll
        · have hb' : base = ⟨b, sh + o', none⟩ := by simp only [base]; rw [if_pos hm]
          rw [hb']
          exact .slice hs ⟨d + ll, by omega, by omega, .inr (by omega), .inr ⟨hl0, hc0⟩⟩
        · have hb' : base = ⟨b, sh + (o' + ll * n), none⟩ := by simp only [base]; rw [if_neg hm, Nat.add_assoc]
          rw [hb']
          refine .slice hs ⟨d + ll, by omega, by omega, .inl ?_, .inr ⟨hl0, hc0⟩⟩
          rw [Nat.add_mul, hz]
          rcases d3 with d3 | d3
          · rw [← hz, ← d3]
          · omega

theorem sliceA_ok (hT : TabOk P T) {t e : TypeId} {x : Operand} {lo hi : Option Operand} {n len : Nat} (ho : o.op = .slice t x lo hi none) (hd : T.und t = some (.array len e)) (hn : T.size e = some n) : PureOk P o (vSliceA len n x lo hi) := by
  intro N σ s w ρ ρ' v hw hop h
  obtain ⟨m1, m2, m3⟩ := slice_mem ho
  obtain ⟨p, h1, h2⟩ := ob_eq h
  obtain ⟨c, h3, h4⟩ := ob_eq h2
  obtain ⟨h5, h6⟩ := gd_eq h4
  obtain ⟨hh, h7, h8⟩ := ob_eq h6
  obtain ⟨ll, h9, h10⟩ := ob_eq h8
  obtain ⟨h11, h12⟩ := gd_eq h10
  cases h12
  simp only [Bool.and_eq_true] at h11
  have hlh := ble_t h11.1
  have hhc := ble_t h11.2
  have b1 := boundF_rel h7 (fun z e => hop z (m3 z e))
  have b2 := boundF_rel h9 (fun z e => hop z (m2 z e))
  obtain ⟨b, sh, ca, hs, ha⟩ := (hop x m1).of_addr h1
  obtain ⟨C, ee, fr, ⟨hg, hb, hl, hr⟩, -⟩ := hw.cells hs h3
  have hca : ca = none := by
    obtain ⟨cl, gr⟩ := c
    cases gr with
    | none =>
      cases ca with
      | none => rfl
      | some k => exact hg.elim
    | some z => simp at h5
  subst hca
  let base : Addr := if len = ll then ⟨b, sh + p.2, none⟩ else ⟨b, sh + p.2 + ll * n, none⟩
  have hrun : (execOp ρ' o).run P w = .ok (.value (.slice (some base) (hh - ll) (len - ll))) w := by
    simp only [execOp, ho, Instr.sliceAt, Sem.run_bind, und_run hT hd, andThen_ok', Instr.sureAddr, ha, Option.map_none, bounds_run b1 (Nat.le_refl _) b2, size_run hT hn, Sem.run_pure]
    by_cases hm : len = ll
    · simp [base, hm]
    · simp [base, hm, addr_add]
  refine ⟨_, hrun, ?_⟩
  cases hlt : Nat.blt ll len with
  | true =>
    have hlt' := blt_t hlt
    have hb' : base = ⟨b, sh + (p.2 + ll * n), none⟩ := by simp only [base]; rw [if_neg (by omega), Nat.add_assoc]
    rw [hb']
    exact .slice hs ⟨rfl, rfl⟩
  | false =>
    have hge := blt_f hlt
    have hb' : base = ⟨b, sh + p.2, none⟩ := by simp only [base]; rw [if_pos (by omega)]
    rw [hb']
    exact .slice hs ⟨rfl, rfl⟩

theorem sliceStr_ok (hT : TabOk P T) {t : TypeId} {x : Operand} {lo hi : Option Operand} (ho : o.op = .slice t x lo hi none) (hd : T.und t = some .string) : PureOk P o (vSliceStr x lo hi) := by
  intro N σ s w ρ ρ' v hw hop h
  obtain ⟨m1, m2, m3⟩ := slice_mem ho
  unfold vSliceStr at h
  split at h
  · rename_i st hst
    obtain ⟨hh, h7, h8⟩ := ob_eq h
    obtain ⟨ll, h9, h10⟩ := ob_eq h8
    obtain ⟨h11, h12⟩ := gd_eq h10
    obtain ⟨bs, h13, h14⟩ := ob_eq h12
    cases h14
    simp only [Bool.and_eq_true] at h11
    have hlh := ble_t h11.1
    have hhc := ble_t h11.2
    rw [lenL_eq] at h7 hhc
    have b1 := boundF_rel h7 (fun z e => hop z (m3 z e))
    have b2 := boundF_rel h9 (fun z e => hop z (m2 z e))
    have hx := hop x m1
    rw [hst] at hx
    have hsz : st.data.toList.length = st.size := by rw [Array.length_toList]; rfl
    rw [hsz] at b1 hhc
    rw [dropL_eq] at h13
    obtain ⟨h15, rfl⟩ := takeL_eq _ _ _ h13
    have hex : st.extract ll hh = ⟨⟨(st.data.toList.drop ll).take (hh - ll)⟩⟩ := by
      apply ByteArray.ext
      rw [ByteArray.data_extract]
      apply Array.ext'
      rw [Array.toList_extract, List.extract_eq_take_drop]
    refine ⟨.string (st.extract ll hh), ?_, ?_⟩
    · simp only [execOp, ho, Instr.sliceAt, Sem.run_bind, und_run hT hd, andThen_ok', Instr.slice, hx.of_string, Option.map_none, Option.isSome_none, Bool.false_eq_true, if_false, bounds_run b1 (Nat.le_refl _) b2, Sem.run_pure]
    · rw [hex]
      exact .string _
  · cases h
end
end Go.Proofs.Yteeamkdblcinnaa.Kern
