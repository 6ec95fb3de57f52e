/-
  . They hold with no condition but those that are written in each theorem.
-/
import Derived.Test.YtnhokodcmeekhaaPU1
import Derived.Test.YtnhokodcmeekhaaPU2
import Derived.Test.YtnhokodcmeekhaaPU3
import Derived.Test.YtnhokodcmeekhaaPU4
set_option linter.unusedSimpArgs false
set_option linter.unusedVariables false
namespace Go.Proofs.Ytnhokodcmeekhaa
open Go Kern
theorem lowF_congr {n w : Nat} {L M : Nat → Frac} (h : ∀ i, i < n → L i = M i) (hw : w < n) : lowF n L w = lowF n M w := by
  unfold lowF
  rw [h w hw]
  congr 1
  refine List.map_congr_left fun p hp => ?_
  have := across_mem.1 hp
  rw [h p.1 (by omega), h p.2 (by omega)]
theorem rupF_congr {n w : Nat} {L H M K : Nat → Frac} (h : ∀ i, i < n → L i = M i) (h2 : ∀ i, i < n → H i = K i) (hw : w < n) : rupF n L H w = rupF n M K w := by
  unfold rupF
  rw [h2 w hw]
  congr 1
  refine List.map_congr_left fun p hp => ?_
  have := rtoward_mem.1 hp
  rw [h p.1 (by omega), h2 p.2 (by omega)]
theorem row_ref {m : Nat} {lo hi : Int} {ss : List SampD} (h1 : fieldErr m lo hi ss = 0) {w : Nat} (hw : w < m) :
    knownRow m lo hi ss w = [.int .i64 (flF (lowF m (wF fun w => (endN lo hi ss w).1) w)), .int .i64 (ceF (rupF m (wF fun w => (endN lo hi ss w).1) (wF fun w => (endN lo hi ss w).2) w))] := by
  obtain ⟨hm, hb⟩ := base_ok h1
  have e1 : ∀ i, i < m → (bndN m lo hi ss).1 i = wF (fun w => (endN lo hi ss w).1) i := fun i hi => (bnd_end h1 i hi).1
  have e2 : ∀ i, i < m → (bndN m lo hi ss).2 i = wF (fun w => (endN lo hi ss w).2) i := fun i hi => (bnd_end h1 i hi).2
  have hL : ∀ i, i < m → 0 < ((bndN m lo hi ss).1 i).u := fun i hi => (hb i hi).1.mid.2.1
  have hH : ∀ i, i < m → 0 < ((bndN m lo hi ss).2 i).u := fun i hi => (hb i hi).2.1.mid.2.1
  unfold knownRow spC
  rw [← lowF_congr e1 hw, ← rupF_congr e1 e2 hw, ce_eqv (up_pos hL hH hw) (rup_pos hL hH hw) (up_eqv hL hH hw)]
theorem rvals_ok {m : Nat} {lo hi : Int} {ss : List SampD} (h1 : fieldErr m lo hi ss = 0) {w : Nat} (hw : w < m) :
    Mid 3600000 30 (lowF m (wF fun w => (endN lo hi ss w).1) w) ∧ Mid 3600000 30 (rupF m (wF fun w => (endN lo hi ss w).1) (wF fun w => (endN lo hi ss w).2) w) := by
  have hE := fun w => endN_all h1 w
  obtain ⟨hm, _⟩ := base_ok h1
  have hL : ∀ i, i < m → Mid 60000 1 (wF (fun w => (endN lo hi ss w).1) i) := fun i _ => wF_mid (hE i).1
  have hH : ∀ i, i < m → Mid 60000 1 (wF (fun w => (endN lo hi ss w).2) i) := fun i _ => wF_mid (hE i).2
  refine ⟨low_mid (by omega) hw (by decide) (by decide) (by decide) hL, ?_⟩
  exact fore_mid ((hH w hw).mono (by decide) (by decide)) (lines_fit (x0 := wF (fun w => (endN lo hi ss w).2) w) (items := rtowardL m w) (by omega) hw (by decide) (by decide) (by decide) hL hH (hH w hw) fun p hp => by have := rtoward_mem.1 hp; omega).1
theorem OwnG.keepK {n N : Nat} {s s' : St} {w : Value} {l : List (List Value)} (h : OwnG n N s w l) (k : Keep s s') : OwnG n N s' w l := h.keep k.1 fun i _ hi => k.2 i hi
set_option maxRecDepth 100000 in
set_option maxHeartbeats 4000000 in
theorem refKnown_ev (n lo hi : Int) (v : Value) (ss : List SampD) (s : St) (hs : SmAt s v ss) (hl : ss.length ≤ 1000000) : Ev TT 15 [fieldV n lo hi v] s fun r s' => Keep s s' ∧ ∃ w e, r = .tuple #[w, .int .i64 e] ∧ KnownA n lo hi ss w e s' := by
  have hck := refCheck_ev n lo hi v ss
  have hbo := fun (m : Nat) (e : n = m) (s : St) (h : SmAt s v ss) hc => ends_ev m lo hi v ss s h hc
  obtain ⟨a, c, rfl⟩ := hs.shape
  rw [List.length_map] at hs hck hbo ⊢
  unfold fieldV at hck hbo ⊢
  refine Ev.intro (fn := Try.f15) rfl (by kernel_rfl) rfl rfl ?_
  apply zz
  refine Cd.ra (h := ?_)
  apply Run.by_eq
  · intro self
    conv => lhs; simp -implicitDefEqProofs (maxSteps := 300000) (disch := omega) [-getElem?_pos, -getElem?_neg]
  try (with_reducible refine Run.ret ?_)
  apply zz
  refine Cd.ra (h := ?_)
  apply Run.by_eq
  · intro self
    conv => lhs; simp -implicitDefEqProofs (maxSteps := 300000) (disch := omega) [-getElem?_pos, -getElem?_neg]
  try (with_reducible refine Run.ret ?_)
  apply zz
  refine Run.call ((hck _ (hs.keep ⟨by (try simp only [pushed_next', upded_next']); omega, fun i hi => by simp -implicitDefEqProofs (disch := omega) []⟩) hl).mono fun v wy hv => ?_)
  obtain ⟨rfl, y⟩ := hv
  have ya := y.1
  have yb := y.2
  try simp only [pushed_next', upded_next'] at ya yb
  apply Run.by_eq
  · intro self
    conv => lhs; simp -implicitDefEqProofs (maxSteps := 300000) (disch := omega) [-getElem?_pos, -getElem?_neg, yb]
  try (with_reducible refine Run.ret ?_)
  apply zz
  by_cases h1 : fieldErr n lo hi ss = 0
  case neg =>
    apply zz
    refine Cd.ra (h := ?_)
    apply Run.by_eq
    · intro self
      conv => lhs; simp -implicitDefEqProofs (maxSteps := 300000) (disch := omega) [-getElem?_pos, -getElem?_neg, h1]
    try (with_reducible refine Run.ret ?_)
    apply zz
    apply Cd.ite rfl
    · conv => lhs; simp -implicitDefEqProofs (maxSteps := 300000) (disch := omega) [-getElem?_pos, -getElem?_neg]
    all_goals intro c0
    all_goals try (cases c0; done)
    all_goals try simp only [Bool.not_eq_true', Bool.not_eq_false', decide_eq_true_eq, decide_eq_false_iff_not] at c0
    all_goals apply zz
    apply zz
    refine Cd.ra (h := ?_)
    apply Run.by_eq
    · intro self
      conv => lhs; simp -implicitDefEqProofs (maxSteps := 300000) (disch := omega) [-getElem?_pos, -getElem?_neg]
    try (with_reducible refine Run.ret ?_)
    apply zz
    apply Leave.mk (by first | exact .inl rfl | exact .inr rfl) (by simp only [Fr.marks_put, fr0_marks])
    · conv => lhs; simp -implicitDefEqProofs (disch := omega) [Try.results15]
    exact ⟨⟨by (try simp only [pushed_next', upded_next']); omega, fun i hi => by simp -implicitDefEqProofs (disch := omega) [yb]⟩, _, _, rfl, .inl ⟨h1, rfl, rfl⟩⟩
  apply zz
  refine Cd.ra (h := ?_)
  apply Run.by_eq
  · intro self
    conv => lhs; simp -implicitDefEqProofs (maxSteps := 300000) (disch := omega) [-getElem?_pos, -getElem?_neg, h1]
  try (with_reducible refine Run.ret ?_)
  apply zz
  apply Cd.ite rfl
  · conv => lhs; simp -implicitDefEqProofs (maxSteps := 300000) (disch := omega) [-getElem?_pos, -getElem?_neg]
  all_goals intro c0
  all_goals try (cases c0; done)
  all_goals try simp only [Bool.not_eq_true', Bool.not_eq_false', decide_eq_true_eq, decide_eq_false_iff_not] at c0
  all_goals apply zz
  obtain ⟨⟨hn1, hn30⟩, hr, _, hss⟩ := fieldErr_ok h1
  obtain ⟨m, rfl⟩ : ∃ m : Nat, n = m := ⟨n.toNat, by omega⟩
  have va : veq 4 (Value.slice a ss.length c) (Value.slice a ss.length c) = true := slAt_veq hs 3
  apply zz
  refine Cd.ra (h := ?_)
  apply Run.by_eq
  · intro self
    conv => lhs; simp -implicitDefEqProofs (maxSteps := 300000) (disch := omega) [-getElem?_pos, -getElem?_neg, yb, va]
  try (with_reducible refine Run.ret ?_)
  apply zz
  refine Run.call ((hbo m rfl _ (hs.keep ⟨by (try simp only [pushed_next', upded_next']); omega, fun i hi => by simp -implicitDefEqProofs (disch := omega) [yb]⟩) h1).mono fun v wz hv => ?_)
  obtain ⟨z, q1, q2, rfl, hq1, hq2⟩ := hv
  have za := z.1
  have zb := z.2
  have hE := fun w => endN_all h1 w
  have hlo := fun w s' (k : Keep wz s') hw => lower_ev m (fun w => (endN lo hi ss w).1) q1 w s' (hq1.keep k) (by omega) hw fun w _ => (hE w).1
  have hup := fun w s' (k : Keep wz s') hw => upper_ev m (fun w => (endN lo hi ss w).1) (fun w => (endN lo hi ss w).2) q1 q2 w s' (hq1.keep k) (hq2.keep k) (by omega) hw (fun w _ => (hE w).1) fun w _ => (hE w).2
  have hrow := fun w (hw : w < m) => row_ref h1 hw
  have hval := fun w (hw : w < m) => rvals_ok h1 hw
  obtain ⟨a1, c1', rfl⟩ := hq1.shape
  obtain ⟨a2, c2', rfl⟩ := hq2.shape
  rw [List.length_map, List.length_map, List.length_range] at hq1 hq2 hlo hup
  rw [List.length_map, List.length_map, List.length_range] at hup
  rw [List.length_map, List.length_map, List.length_map, List.length_map, List.length_range]
  have v1 := slAt_veq hq1 4
  have v2 := slAt_veq hq2 4
  apply Run.by_eq
  · intro self
    conv => lhs; simp -implicitDefEqProofs (maxSteps := 300000) (disch := omega) [-getElem?_pos, -getElem?_neg, zb, yb]
  try (with_reducible refine Run.ret ?_)
  apply zz
  refine Cd.ra (h := ?_)
  apply Run.by_eq
  · intro self
    conv => lhs; simp -implicitDefEqProofs (maxSteps := 300000) (disch := omega) [-getElem?_pos, -getElem?_neg, v1, v2]
  try (with_reducible refine Run.ret ?_)
  apply zz
  refine Run.call ((rclash_ev m _ _ _ _ _ hq1 hq2 (by omega) (fun w _ => (hE w).1) (fun w _ => (hE w).2)).mono fun v wu hv => ?_)
  obtain ⟨u, hu⟩ := hv
  have ua := u.1
  have ub := u.2
  rcases hu with ⟨rfl, hu⟩ | hT
  case inr =>
    have hT0 := hT
    obtain ⟨i, j, k, t1, t2, t3, t4, b, rfl, _⟩ := hT0
    apply Run.by_eq
    · intro self
      conv => lhs; simp -implicitDefEqProofs (maxSteps := 300000) (disch := omega) [-getElem?_pos, -getElem?_neg]
    try (with_reducible refine Run.ret ?_)
    apply zz
    apply Cd.ite rfl
    · conv => lhs; simp -implicitDefEqProofs (maxSteps := 300000) (disch := omega) [-getElem?_pos, -getElem?_neg]
    all_goals intro c5
    all_goals try (cases c5; done)
    all_goals try simp only [Bool.not_eq_true', Bool.not_eq_false', decide_eq_true_eq, decide_eq_false_iff_not] at c5
    all_goals apply zz
    apply zz
    refine Cd.ra (h := ?_)
    apply Run.by_eq
    · intro self
      conv => lhs; simp -implicitDefEqProofs (maxSteps := 300000) (disch := omega) [-getElem?_pos, -getElem?_neg]
    try (with_reducible refine Run.ret ?_)
    apply zz
    apply Leave.mk (by first | exact .inl rfl | exact .inr rfl) (by simp only [Fr.marks_put, fr0_marks])
    · conv => lhs; simp -implicitDefEqProofs (disch := omega) [Try.results15]
    exact ⟨⟨by (try simp only [pushed_next', upded_next']); omega, fun i hi => by simp -implicitDefEqProofs (disch := omega) [ub, zb, yb]⟩, _, _, rfl, .inr (.inl ⟨h1, rfl, rfl, i, j, k, by omega, by omega, by omega, t4⟩)⟩
  apply Run.by_eq
  · intro self
    conv => lhs; simp -implicitDefEqProofs (maxSteps := 300000) (disch := omega) [-getElem?_pos, -getElem?_neg]
  try (with_reducible refine Run.ret ?_)
  apply zz
  apply Cd.ite rfl
  · conv => lhs; simp -implicitDefEqProofs (maxSteps := 300000) (disch := omega) [-getElem?_pos, -getElem?_neg]
  all_goals intro c5
  all_goals try (cases c5; done)
  all_goals try simp only [Bool.not_eq_true', Bool.not_eq_false', decide_eq_true_eq, decide_eq_false_iff_not] at c5
  all_goals apply zz
  apply zz
  refine Cd.ra (h := ?_)
  apply Run.by_eq
  · intro self
    conv => lhs; simp -implicitDefEqProofs (maxSteps := 300000) (disch := omega) [-getElem?_pos, -getElem?_neg]
  try (with_reducible refine Run.ret ?_)
  apply zz
  refine Cd.ra (h := ?_)
  apply Run.by_eq
  · intro self
    conv => lhs; simp -implicitDefEqProofs (maxSteps := 300000) (disch := omega) [-getElem?_pos, -getElem?_neg]
  try (with_reducible refine Run.ret ?_)
  apply zz
  generalize hLR : lowF m (wF fun w => (endN lo hi ss w).1) = LR at *
  generalize hUR : rupF m (wF fun w => (endN lo hi ss w).1) (wF fun w => (endN lo hi ss w).2) = UR at *
  refine Cd.inv (fun z f s' => ∃ k : Nat, k ≤ m ∧ z = m - k ∧ f.marks = [] ∧ f.get 1 = .pointer (some ⟨s.next, 0, none⟩) ∧ f.get 5 = .slice a1 m c1' ∧ f.get 6 = .slice a2 m c2' ∧ f.get 8 = .int .i64 k ∧ Keep wu s' ∧ OwnG 2 wu.next s' (f.get 7) ((List.range k).map (knownRow m lo hi ss))) m ?_ ?_
  · exact ⟨0, by omega, rfl, by simp, by simp, by simp, by simp, by simp, Keep.refl _, .inl ⟨rfl, by simp⟩⟩
  have hwg : wu.heap.get s.next = some (.cells [.int .i64 m, .int .i64 lo, .int .i64 hi, .slice a ss.length c] none) := by rw [ub _ (by omega), zb _ (by omega), yb _ (by (try simp only [pushed_next']); omega)]; simp -implicitDefEqProofs (disch := omega)
  rintro zz0 f s1 ⟨k, hk, rfl, hmk, g1, g5, g6, g8, hkp, hO⟩
  have hkpa := hkp.1
  have hkpb := hkp.2
  have hg0 := (hkpb _ (by omega)).trans hwg
  by_cases hlt : k < m
  · have hlt' : (k : Int) < m := by omega
    have hrl : ((List.range k).map (knownRow m lo hi ss)).length = k := by simp
    have hrn : (List.range (k + 1)).map (knownRow m lo hi ss) = (List.range k).map (knownRow m lo hi ss) ++ [knownRow m lo hi ss k] := by rw [List.range_succ, List.map_append]; rfl
    have hrw : ∀ y ∈ (List.range k).map (knownRow m lo hi ss), y.length = 2 := fun y hy => by obtain ⟨j, _, rfl⟩ := List.mem_map.1 hy; rfl
    rw [hrow k hlt] at hrn
    have hvk := hval k hlt
    unfold Mid at hvk
    generalize (List.range k).map (knownRow m lo hi ss) = rows at *
    apply zz
    refine Cd.ra (h := ?_)
    apply Run.by_eq
    · intro self
      conv => lhs; simp -implicitDefEqProofs (maxSteps := 300000) (disch := omega) [-getElem?_pos, -getElem?_neg, g8, g1, hg0, hlt']
    try (with_reducible refine Run.ret ?_)
    apply zz
    apply Cd.ite rfl
    · conv => lhs; simp -implicitDefEqProofs (maxSteps := 300000) (disch := omega) [-getElem?_pos, -getElem?_neg]
    all_goals intro c0
    all_goals try (cases c0; done)
    all_goals try simp only [Bool.not_eq_true', Bool.not_eq_false', decide_eq_true_eq, decide_eq_false_iff_not] at c0
    all_goals apply zz
    apply zz
    refine Cd.ra (h := ?_)
    apply Run.by_eq
    · intro self
      conv => lhs; simp -implicitDefEqProofs (maxSteps := 300000) (disch := omega) [-getElem?_pos, -getElem?_neg, g5, g6, g8]
    try (with_reducible refine Run.ret ?_)
    apply zz
    refine Run.call ((hlo k _ (Keep.trans u hkp) hlt).mono fun v wp hv => ?_)
    obtain ⟨rfl, p⟩ := hv
    have pa := p.1
    have pb := p.2
    try simp only [pushed_next', upded_next'] at pa pb
    apply Run.by_eq
    · intro self
      conv => lhs; simp -implicitDefEqProofs (maxSteps := 300000) (disch := omega) [-getElem?_pos, -getElem?_neg]
    try (with_reducible refine Run.ret ?_)
    apply zz
    refine Run.call ((floor_ev (LR k) _ hvk.1.2.1 (by omega)).mono fun v wq hv => ?_)
    obtain ⟨rfl, q⟩ := hv
    have qa := q.1
    have qb := q.2
    try simp only [pushed_next', upded_next'] at qa qb
    have kq : Keep s1 wq := ⟨by omega, fun i hi => (qb i (by omega)).trans (pb i hi)⟩
    apply Run.by_eq
    · intro self
      conv => lhs; simp -implicitDefEqProofs (maxSteps := 300000) (disch := omega) [-getElem?_pos, -getElem?_neg]
    try (with_reducible refine Run.ret ?_)
    apply zz
    refine Run.call ((hup k _ (Keep.trans (Keep.trans u hkp) kq) hlt).mono fun v wt hv => ?_)
    obtain ⟨rfl, t⟩ := hv
    have ta := t.1
    have tb := t.2
    try simp only [pushed_next', upded_next'] at ta tb
    apply Run.by_eq
    · intro self
      conv => lhs; simp -implicitDefEqProofs (maxSteps := 300000) (disch := omega) [-getElem?_pos, -getElem?_neg]
    try (with_reducible refine Run.ret ?_)
    apply zz
    refine Run.call ((ceil_ev (UR k) _ hvk.2.2.1 (by omega)).mono fun v wx hv => ?_)
    obtain ⟨rfl, x⟩ := hv
    have xa := x.1
    have xb := x.2
    try simp only [pushed_next', upded_next'] at xa xb
    have kx : Keep s1 wx := ⟨by omega, fun i hi => (xb i (by omega)).trans ((tb i (by omega)).trans (kq.2 i hi))⟩
    have kx2 : Keep s1 (wx.pushed (.cells [.int .i64 (flF (LR k)), .int .i64 (ceF (UR k))] none)) := kx.pushed _
    obtain ⟨s4, happ, hn4, hk4, hO4⟩ := app_one (n := 2) (b2 := wx.next) (x := [.int .i64 (flF (LR k)), .int .i64 (ceF (UR k))]) (g := none) (hO.keepK kx2) hrw rfl rfl (get_pushed_new _ _) (by (try simp only [pushed_next']); omega) (by omega)
    simp only [pushed_next', hrl] at happ hn4 hO4
    apply Run.by_eq
    · intro self
      conv => lhs; simp -implicitDefEqProofs (maxSteps := 300000) (disch := omega) [-getElem?_pos, -getElem?_neg, happ]
    try (with_reducible refine Run.ret ?_)
    apply zz
    refine Cd.ra (h := ?_)
    apply Run.by_eq
    · intro self
      conv => lhs; simp -implicitDefEqProofs (maxSteps := 300000) (disch := omega) [-getElem?_pos, -getElem?_neg, g8]
    try (with_reducible refine Run.ret ?_)
    apply zz
    refine LoopK.nm (m - (k + 1)) (by omega) ⟨k + 1, by omega, rfl, by simp [hmk], by simp [g1], by simp [g5], by simp [g6], by simp, ⟨by have := kx2.1; (try simp only [pushed_next'] at *); omega, fun i hi => (hk4 i hi).trans ((kx2.2 i (by omega)).trans (hkpb i hi))⟩, ?_⟩
    rw [hrn]; simpa using hO4
  · obtain rfl : k = m := by omega
    have hrw : ∀ y ∈ (List.range k).map (knownRow k lo hi ss), y.length = 2 := fun y hy => by obtain ⟨j, _, rfl⟩ := List.mem_map.1 hy; rfl
    have ho1 : oneV (f.get 7) = true := by
      rcases hO with ⟨_, e3⟩ | ⟨_, e3, _⟩ <;> rw [e3] <;> rfl
    apply zz
    refine Cd.ra (h := ?_)
    apply Run.by_eq
    · intro self
      conv => lhs; simp -implicitDefEqProofs (maxSteps := 300000) (disch := omega) [-getElem?_pos, -getElem?_neg, g8, g1, hg0]
    try (with_reducible refine Run.ret ?_)
    apply zz
    apply Cd.ite rfl
    · conv => lhs; simp -implicitDefEqProofs (maxSteps := 300000) (disch := omega) [-getElem?_pos, -getElem?_neg]
    all_goals intro c0
    all_goals try (cases c0; done)
    all_goals try simp only [Bool.not_eq_true', Bool.not_eq_false', decide_eq_true_eq, decide_eq_false_iff_not] at c0
    all_goals apply zz
    apply zz
    refine Cd.ra (h := ?_)
    apply Run.by_eq
    · intro self
      conv => lhs; simp -implicitDefEqProofs (maxSteps := 300000) (disch := omega) [-getElem?_pos, -getElem?_neg]
    try (with_reducible refine Run.ret ?_)
    apply zz
    apply Leave.mk (by first | exact .inl rfl | exact .inr rfl) (by simp only [Fr.marks_put, fr0_marks, hmk])
    · conv => lhs; simp -implicitDefEqProofs (disch := omega) [Try.results15, hmk]
    exact ⟨⟨by (try simp only [pushed_next'] at *); omega, fun i hi => by rw [hkpb i (by omega), ub i (by omega), zb i (by omega), yb i (by (try simp only [pushed_next']); omega)]; simp -implicitDefEqProofs (disch := omega)⟩, _, _, rfl, .inr (.inr ⟨h1, rfl, by rw [Int.toNat_natCast]; exact hO.sl hrw, fun i j k hi hj hk => by rw [Int.toNat_natCast] at hi hj hk; exact hu i j k hi hj hk⟩)⟩
end Go.Proofs.Ytnhokodcmeekhaa
namespace Go.Proofs.Ytnhokodcmeekhaa
open Go Kern
/-! Comparing spans, and lists -/
theorem unA23 : ∃ f0 f1 : Field, Try.prog.underlying 23 = some (.struct #[f0, f1]) ∧ (f0.type = 3 ∧ f0.offset = 0 ∧ (f0.name != "_") = true) ∧ (f1.type = 3 ∧ f1.offset = 1 ∧ (f1.name != "_") = true) := ⟨_, _, Try.underlying23, ⟨rfl, rfl, by kernel_rfl⟩, rfl, rfl, by kernel_rfl⟩
theorem ceA23 : Try.prog.cellsOf 23 = 2 := by kernel_rfl
theorem unA3 : Try.prog.underlying 3 = some (.int .i64) := by kernel_rfl
theorem ceA3 : Try.prog.cellsOf 3 = 1 := by kernel_rfl
theorem keyLitA3 {d : Nat} {a : Int} (h : (Lit.int .i64 a).wf = true) : Try.prog.keyLits (d + 1) 3 [.int .i64 a] = some [.int .i64 a] := by
  unfold Program.keyLits; rw [unA3]; simp [h]
def In62 (a : Int) : Prop := -4611686018427387904 ≤ a ∧ a ≤ 4611686018427387904
theorem wfA_of {a : Int} (h : In62 a) : (Lit.int .i64 a).wf = true := by
  unfold In62 at h
  simp [Lit.wf, IntKind.min, IntKind.max, IntKind.bits, IntKind.signed]
  omega
theorem keyLits23 {a b : Int} (ha : In62 a) (hb : In62 b) : Try.prog.keyLits 21 23 [.int .i64 a, .int .i64 b] = some [.int .i64 a, .int .i64 b] := by
  obtain ⟨f0, f1, hu, ⟨t0, o0, n0⟩, t1, o1, n1⟩ := unA23
  have k0 := keyLitA3 (d := 19) (wfA_of ha)
  have k1 := keyLitA3 (d := 19) (wfA_of hb)
  unfold Program.keyLits; rw [hu]
  simp only [ceA23, List.length_cons, List.length_nil]
  rw [if_pos (by simp [n0, n1])]
  simp [t0, o0, t1, o1, ceA3, k0, k1]
theorem formed23 (x y : Value) : Value.formed Try.prog 23 (.agg #[x, y]) = true := by
  obtain ⟨f0, f1, hu, _⟩ := unA23
  simp [Value.formed, hu, ceA23]
theorem aggEq23 {a b c d : Int} (ha : In62 a) (hb : In62 b) (hc : In62 c) (hd : In62 d) : aggEq TT 23 #[.int .i64 a, .int .i64 b] #[.int .i64 c, .int .i64 d] = some (decide (a = c ∧ b = d)) := by
  unfold aggEq
  have h1 := keyLits23 ha hb
  have h2 := keyLits23 hc hd
  change gd _ (ob (Try.prog.keyLits 21 23 _) fun la => ob (Try.prog.keyLits 21 23 _) fun lb => some (litsEq la lb)) = _
  rw [h1, h2, show Value.formed TT.prog 23 (.agg #[.int .i64 a, .int .i64 b]) = true from formed23 _ _, show Value.formed TT.prog 23 (.agg #[.int .i64 c, .int .i64 d]) = true from formed23 _ _]
  show gd (_ && true && true) (some (litsEq _ _)) = _
  have : litsEq [.int .i64 a, .int .i64 b] [.int .i64 c, .int .i64 d] = decide (a = c ∧ b = d) := by
    rw [Bool.eq_iff_iff, litsEq_iff, decide_eq_true_eq]
    constructor
    · intro h; simp at h; exact ⟨h.1, h.2⟩
    · rintro ⟨rfl, rfl⟩; rfl
  rw [this]; rfl
theorem flagA23 : (TT.prog.keyTypeAt 20 23 && !TT.prog.eqGuardType TT.prog.depth 23) = true := by kernel_rfl
@[simp] theorem binVal_23ne (f0 f1 : Field) (a b : Array Value) : binVal TT (.struct #[f0, f1]) 23 (TT.prog.keyTypeAt 20 23 && !TT.prog.eqGuardType TT.prog.depth 23) .neq (.agg a) (.agg b) = ob (aggEq TT 23 a b) fun r => some (.bool (!r)) := by
  rw [flagA23]; rfl
def spP (p : Int × Int) : List Value := [.int .i64 p.1, .int .i64 p.2]
abbrev SpAt (s : St) (v : Value) (l : List (Int × Int)) : Prop := SlAt 2 s v (l.map spP)
theorem SpAt.at {s : St} {a : Option Addr} {m c : Nat} {fs : List (Int × Int)} (h : SpAt s (.slice a m c) fs) {k : Nat} {x : Int × Int} (hk : fs[k]? = some x) :
    ∃ b off o cs g, a = some ⟨b, off, none⟩ ∧ b < s.next ∧ s.heap.get b = some o ∧ cellsOf o = some (cs, g) ∧ takeL 2 (cs.drop (off + k * 2)) = some [.int .i64 x.1, .int .i64 x.2] :=
  SlAt.at h (by rw [List.getElem?_map, hk]; rfl)
def SmallP (l : List (Int × Int)) : Prop := ∀ x ∈ l, In62 x.1 ∧ In62 x.2
set_option maxRecDepth 100000 in
set_option maxHeartbeats 4000000 in
theorem spans_ev (v1 v2 : Value) (l1 l2 : List (Int × Int)) (s : St) (h1 : SpAt s v1 l1) (h2 : SpAt s v2 l2) (s1 : SmallP l1) (s2 : SmallP l2) (hl : l1.length ≤ 1000000) (hl2 : l2.length ≤ 1000000) :
    Ev TT 17 [v1, v2] s fun r s' => r = .bool (decide (l1 = l2)) ∧ Keep s s' := by
  obtain ⟨a, c, rfl⟩ := h1.shape
  obtain ⟨a2, c2, rfl⟩ := h2.shape
  rw [List.length_map] at h1 h2 ⊢
  rw [List.length_map]
  have e1 := slAt_veq h1 4
  have e2 := slAt_veq h2 4
  refine Ev.intro (fn := Try.f17) rfl (by kernel_rfl) rfl rfl ?_
  apply zz
  refine Cd.ra (h := ?_)
  apply Run.by_eq
  · intro self
    conv => lhs; simp -implicitDefEqProofs (maxSteps := 300000) (disch := omega) [-getElem?_pos, -getElem?_neg]
  try (with_reducible refine Run.ret ?_)
  apply zz
  by_cases hne : l1.length = l2.length
  case neg =>
    have hne' : ¬ (l1.length : Int) = l2.length := by omega
    have hd : decide (l1 = l2) = false := by simp; intro e; exact hne (by rw [e])
    rw [hd]
    apply zz
    refine Cd.ra (h := ?_)
    apply Run.by_eq
    · intro self
      conv => lhs; simp -implicitDefEqProofs (maxSteps := 300000) (disch := omega) [-getElem?_pos, -getElem?_neg, hne']
    try (with_reducible refine Run.ret ?_)
    apply zz
    apply Cd.ite rfl
    · conv => lhs; simp -implicitDefEqProofs (maxSteps := 300000) (disch := omega) [-getElem?_pos, -getElem?_neg]
    all_goals intro c0
    all_goals try (cases c0; done)
    all_goals try simp only [Bool.not_eq_true', Bool.not_eq_false', decide_eq_true_eq, decide_eq_false_iff_not] at c0
    all_goals apply zz
    apply zz
    refine Cd.ra (h := ?_)
    apply Run.by_eq
    · intro self
      conv => lhs; simp -implicitDefEqProofs (maxSteps := 300000) (disch := omega) [-getElem?_pos, -getElem?_neg]
    try (with_reducible refine Run.ret ?_)
    apply zz
    apply Leave.mk (by first | exact .inl rfl | exact .inr rfl) (by simp only [Fr.marks_put, fr0_marks])
    · conv => lhs; simp -implicitDefEqProofs (disch := omega) [Try.results17]
    exact ⟨rfl, ⟨by (try simp only [pushed_next', upded_next']); omega, fun i hi => by simp -implicitDefEqProofs (disch := omega) []⟩⟩
  have hne' : (l1.length : Int) = l2.length := by omega
  apply zz
  refine Cd.ra (h := ?_)
  apply Run.by_eq
  · intro self
    conv => lhs; simp -implicitDefEqProofs (maxSteps := 300000) (disch := omega) [-getElem?_pos, -getElem?_neg, hne']
  try (with_reducible refine Run.ret ?_)
  apply zz
  apply Cd.ite rfl
  · conv => lhs; simp -implicitDefEqProofs (maxSteps := 300000) (disch := omega) [-getElem?_pos, -getElem?_neg]
  all_goals intro c0
  all_goals try (cases c0; done)
  all_goals try simp only [Bool.not_eq_true', Bool.not_eq_false', decide_eq_true_eq, decide_eq_false_iff_not] at c0
  all_goals apply zz
  apply zz
  refine Cd.ra (h := ?_)
  apply Run.by_eq
  · intro self
    conv => lhs; simp -implicitDefEqProofs (maxSteps := 300000) (disch := omega) [-getElem?_pos, -getElem?_neg]
  try (with_reducible refine Run.ret ?_)
  apply zz
  refine Cd.inv (fun z f s' => ∃ k : Nat, k ≤ l1.length ∧ z = l1.length - k ∧ f.marks = [] ∧ f.get 0 = .slice a l1.length c ∧ f.get 1 = .slice a2 l2.length c2 ∧ f.get 5 = .int .i64 k ∧ Keep s s' ∧ l1.take k = l2.take k) l1.length ?_ ?_
  · exact ⟨0, by omega, rfl, by simp, by simp, by simp, by simp, ⟨by (try simp only [pushed_next', upded_next']); omega, fun i hi => by simp -implicitDefEqProofs (disch := omega) []⟩, by simp⟩
  rintro z f s' ⟨k, hk, rfl, hm, g0, g1, g5, hkp, hz⟩
  by_cases hlt : k < l1.length
  · have hlt2 : k < l2.length := by omega
    have hlt' : (k : Int) < l1.length := by omega
    obtain ⟨x, hx⟩ : ∃ x, l1[k]? = some x := ⟨l1[k], by simp [hlt]⟩
    obtain ⟨y, hy⟩ : ∃ y, l2[k]? = some y := ⟨l2[k], by simp [hlt2]⟩
    obtain ⟨b, off, o, cs, gg, rfl, hb, ho, hc, ht⟩ := SpAt.at (h1.keep hkp) hx
    obtain ⟨b', off', o', cs', gg', rfl, hb', ho', hc', ht'⟩ := SpAt.at (h2.keep hkp) hy
    have q1 := s1 x (List.mem_of_getElem? hx)
    have q2 := s2 y (List.mem_of_getElem? hy)
    have hEq := aggEq23 q1.1 q1.2 q2.1 q2.2
    apply zz
    refine Cd.ra (h := ?_)
    apply Run.by_eq
    · intro self
      conv => lhs; simp -implicitDefEqProofs (maxSteps := 300000) (disch := omega) [-getElem?_pos, -getElem?_neg, g5, g0, hlt']
    try (with_reducible refine Run.ret ?_)
    apply zz
    apply Cd.ite rfl
    · conv => lhs; simp -implicitDefEqProofs (maxSteps := 300000) (disch := omega) [-getElem?_pos, -getElem?_neg]
    all_goals intro c1
    all_goals try (cases c1; done)
    all_goals try simp only [Bool.not_eq_true', Bool.not_eq_false', decide_eq_true_eq, decide_eq_false_iff_not] at c1
    all_goals apply zz
    by_cases hxy : x = y
    · have hd : decide (x.1 = y.1 ∧ x.2 = y.2) = true := by simp [hxy]
      rw [hd] at hEq
      apply zz
      refine Cd.drawn (pl := [(0, 0, false, false), (1, 0, false, false), (2, 3, false, false), (3, 7, false, false), (4, 0, false, false), (5, 0, false, false), (6, 48, false, false), (7, 112, false, false), (8, 255, false, false)]) (by kernel_rfl) (by conv => lhs; simp only [List.map_cons, List.map_nil]) (by conv => lhs; simp [strip, ordered]) ?_
      apply Run.by_eq
      · intro self
        conv => lhs; simp -implicitDefEqProofs (maxSteps := 300000) (disch := omega) [filter_bt, -getElem?_pos, -getElem?_neg, g0, g1, g5, hlt, hlt2, ho, hc, ht, ho', hc', ht', hEq, e1, e2]
      try (with_reducible refine Run.ret ?_)
      apply zz
      apply Cd.ite rfl
      · conv => lhs; simp -implicitDefEqProofs (maxSteps := 300000) (disch := omega) [-getElem?_pos, -getElem?_neg]
      all_goals intro c2
      all_goals try (cases c2; done)
      all_goals try simp only [Bool.not_eq_true', Bool.not_eq_false', decide_eq_true_eq, decide_eq_false_iff_not] at c2
      all_goals apply zz
      apply zz
      refine Cd.ra (h := ?_)
      apply Run.by_eq
      · intro self
        conv => lhs; simp -implicitDefEqProofs (maxSteps := 300000) (disch := omega) [-getElem?_pos, -getElem?_neg, g5]
      try (with_reducible refine Run.ret ?_)
      apply zz
      refine LoopK.nm (l1.length - (k + 1)) (by omega) ⟨k + 1, by omega, rfl, by simp [hm], by simp [g0], by simp [g1], by simp, hkp, ?_⟩
      rw [List.take_add_one, List.take_add_one, hx, hy, hz, hxy]
    · have hd : decide (x.1 = y.1 ∧ x.2 = y.2) = false := by
        simp only [decide_eq_false_iff_not]; rintro ⟨p1, p2⟩; exact hxy (Prod.ext p1 p2)
      have hd2 : decide (l1 = l2) = false := by
        simp only [decide_eq_false_iff_not]; rintro rfl; rw [hx] at hy; cases hy; exact hxy rfl
      rw [hd] at hEq
      rw [hd2]
      apply zz
      refine Cd.drawn (pl := [(0, 0, false, false), (1, 0, false, false), (2, 3, false, false), (3, 7, false, false), (4, 0, false, false), (5, 0, false, false), (6, 48, false, false), (7, 112, false, false), (8, 255, false, false)]) (by kernel_rfl) (by conv => lhs; simp only [List.map_cons, List.map_nil]) (by conv => lhs; simp [strip, ordered]) ?_
      apply Run.by_eq
      · intro self
        conv => lhs; simp -implicitDefEqProofs (maxSteps := 300000) (disch := omega) [filter_bt, -getElem?_pos, -getElem?_neg, g0, g1, g5, hlt, hlt2, ho, hc, ht, ho', hc', ht', hEq, e1, e2]
      try (with_reducible refine Run.ret ?_)
      apply zz
      apply Cd.ite rfl
      · conv => lhs; simp -implicitDefEqProofs (maxSteps := 300000) (disch := omega) [-getElem?_pos, -getElem?_neg]
      all_goals intro c2
      all_goals try (cases c2; done)
      all_goals try simp only [Bool.not_eq_true', Bool.not_eq_false', decide_eq_true_eq, decide_eq_false_iff_not] at c2
      all_goals apply zz
      apply zz
      refine Cd.ra (h := ?_)
      apply Run.by_eq
      · intro self
        conv => lhs; simp -implicitDefEqProofs (maxSteps := 300000) (disch := omega) [-getElem?_pos, -getElem?_neg]
      try (with_reducible refine Run.ret ?_)
      apply zz
      apply Leave.mk (by first | exact .inl rfl | exact .inr rfl) (by simp only [Fr.marks_put, fr0_marks, hm])
      · conv => lhs; simp -implicitDefEqProofs (disch := omega) [Try.results17, hm]
      exact ⟨rfl, hkp⟩
  · obtain rfl : k = l1.length := by omega
    have hd : decide (l1 = l2) = true := by
      rw [List.take_length, hne, List.take_length] at hz; simp [hz]
    rw [hd]
    apply zz
    refine Cd.ra (h := ?_)
    apply Run.by_eq
    · intro self
      conv => lhs; simp -implicitDefEqProofs (maxSteps := 300000) (disch := omega) [-getElem?_pos, -getElem?_neg, g5, g0]
    try (with_reducible refine Run.ret ?_)
    apply zz
    apply Cd.ite rfl
    · conv => lhs; simp -implicitDefEqProofs (maxSteps := 300000) (disch := omega) [-getElem?_pos, -getElem?_neg]
    all_goals intro c1
    all_goals try (cases c1; done)
    all_goals try simp only [Bool.not_eq_true', Bool.not_eq_false', decide_eq_true_eq, decide_eq_false_iff_not] at c1
    all_goals apply zz
    apply zz
    refine Cd.ra (h := ?_)
    apply Run.by_eq
    · intro self
      conv => lhs; simp -implicitDefEqProofs (maxSteps := 300000) (disch := omega) [-getElem?_pos, -getElem?_neg]
    try (with_reducible refine Run.ret ?_)
    apply zz
    apply Leave.mk (by first | exact .inl rfl | exact .inr rfl) (by simp only [Fr.marks_put, fr0_marks, hm])
    · conv => lhs; simp -implicitDefEqProofs (disch := omega) [Try.results17, hm]
    exact ⟨rfl, hkp⟩
end Go.Proofs.Ytnhokodcmeekhaa
namespace Go.Proofs.Ytnhokodcmeekhaa
open Go Kern
/-! Lists of weeks -/
def wkL (m : Nat) (p : Nat → Bool) : List Int := ((List.range m).filter p).map fun w : Nat => (w : Int)
theorem wkL_succ (k : Nat) (p : Nat → Bool) : wkL (k + 1) p = if p k = true then wkL k p ++ [(k : Int)] else wkL k p := by
  unfold wkL
  rw [List.range_succ, List.filter_append, List.map_append]
  cases h : p k <;> simp [h]
theorem wkL_len (m : Nat) (p : Nat → Bool) : (wkL m p).length ≤ m := by
  unfold wkL
  rw [List.length_map]
  have := List.length_filter_le p (List.range m)
  simpa using this
abbrev iC (l : List Int) : List (List Value) := l.map fun x => [Value.int .i64 x]
theorem iC_len (l : List Int) : ∀ y ∈ iC l, y.length = 1 := fun y hy => by obtain ⟨m, _, rfl⟩ := List.mem_map.1 hy; rfl
theorem iC_snoc (l : List Int) (x : Int) : iC (l ++ [x]) = iC l ++ [[.int .i64 x]] := by simp [iC]
set_option maxRecDepth 100000 in
set_option maxHeartbeats 4000000 in
theorem numbers_ev (v1 v2 : Value) (l1 l2 : List Int) (s : St) (h1 : IntsAt s v1 l1) (h2 : IntsAt s v2 l2) (hl : l1.length ≤ 1000000) (hl2 : l2.length ≤ 1000000) :
    Ev TT 28 [v1, v2] s fun r s' => r = .bool (decide (l1 = l2)) ∧ Keep s s' := by
  obtain ⟨a, c, rfl⟩ := h1.shape
  obtain ⟨a2, c2, rfl⟩ := h2.shape
  rw [List.length_map] at h1 h2 ⊢
  rw [List.length_map]
  have e1 := slAt_veq h1 4
  have e2 := slAt_veq h2 4
  refine Ev.intro (fn := Try.f28) rfl (by kernel_rfl) rfl rfl ?_
  apply zz
  refine Cd.ra (h := ?_)
  apply Run.by_eq
  · intro self
    conv => lhs; simp -implicitDefEqProofs (maxSteps := 300000) (disch := omega) [-getElem?_pos, -getElem?_neg]
  try (with_reducible refine Run.ret ?_)
  apply zz
  by_cases hne : l1.length = l2.length
  case neg =>
    have hne' : ¬ (l1.length : Int) = l2.length := by omega
    have hd : decide (l1 = l2) = false := by simp; intro e; exact hne (by rw [e])
    rw [hd]
    apply zz
    refine Cd.ra (h := ?_)
    apply Run.by_eq
    · intro self
      conv => lhs; simp -implicitDefEqProofs (maxSteps := 300000) (disch := omega) [-getElem?_pos, -getElem?_neg, hne']
    try (with_reducible refine Run.ret ?_)
    apply zz
    apply Cd.ite rfl
    · conv => lhs; simp -implicitDefEqProofs (maxSteps := 300000) (disch := omega) [-getElem?_pos, -getElem?_neg]
    all_goals intro c0
    all_goals try (cases c0; done)
    all_goals try simp only [Bool.not_eq_true', Bool.not_eq_false', decide_eq_true_eq, decide_eq_false_iff_not] at c0
    all_goals apply zz
    apply zz
    refine Cd.ra (h := ?_)
    apply Run.by_eq
    · intro self
      conv => lhs; simp -implicitDefEqProofs (maxSteps := 300000) (disch := omega) [-getElem?_pos, -getElem?_neg]
    try (with_reducible refine Run.ret ?_)
    apply zz
    apply Leave.mk (by first | exact .inl rfl | exact .inr rfl) (by simp only [Fr.marks_put, fr0_marks])
    · conv => lhs; simp -implicitDefEqProofs (disch := omega) [Try.results28]
    exact ⟨rfl, ⟨by (try simp only [pushed_next', upded_next']); omega, fun i hi => by simp -implicitDefEqProofs (disch := omega) []⟩⟩
  have hne' : (l1.length : Int) = l2.length := by omega
  apply zz
  refine Cd.ra (h := ?_)
  apply Run.by_eq
  · intro self
    conv => lhs; simp -implicitDefEqProofs (maxSteps := 300000) (disch := omega) [-getElem?_pos, -getElem?_neg, hne']
  try (with_reducible refine Run.ret ?_)
  apply zz
  apply Cd.ite rfl
  · conv => lhs; simp -implicitDefEqProofs (maxSteps := 300000) (disch := omega) [-getElem?_pos, -getElem?_neg]
  all_goals intro c0
  all_goals try (cases c0; done)
  all_goals try simp only [Bool.not_eq_true', Bool.not_eq_false', decide_eq_true_eq, decide_eq_false_iff_not] at c0
  all_goals apply zz
  apply zz
  refine Cd.ra (h := ?_)
  apply Run.by_eq
  · intro self
    conv => lhs; simp -implicitDefEqProofs (maxSteps := 300000) (disch := omega) [-getElem?_pos, -getElem?_neg]
  try (with_reducible refine Run.ret ?_)
  apply zz
  refine Cd.inv (fun z f s' => ∃ k : Nat, k ≤ l1.length ∧ z = l1.length - k ∧ f.marks = [] ∧ f.get 0 = .slice a l1.length c ∧ f.get 1 = .slice a2 l2.length c2 ∧ f.get 5 = .int .i64 k ∧ Keep s s' ∧ l1.take k = l2.take k) l1.length ?_ ?_
  · exact ⟨0, by omega, rfl, by simp, by simp, by simp, by simp, ⟨by (try simp only [pushed_next', upded_next']); omega, fun i hi => by simp -implicitDefEqProofs (disch := omega) []⟩, by simp⟩
  rintro z f s' ⟨k, hk, rfl, hm, g0, g1, g5, hkp, hz⟩
  by_cases hlt : k < l1.length
  · have hlt2 : k < l2.length := by omega
    have hlt' : (k : Int) < l1.length := by omega
    obtain ⟨x, hx⟩ : ∃ x, l1[k]? = some x := ⟨l1[k], by simp [hlt]⟩
    obtain ⟨y, hy⟩ : ∃ y, l2[k]? = some y := ⟨l2[k], by simp [hlt2]⟩
    obtain ⟨b, off, o, cs, gg, rfl, hb, ho, hc, ht⟩ := IntsAt.at (h1.keep hkp) hx
    obtain ⟨b', off', o', cs', gg', rfl, hb', ho', hc', ht'⟩ := IntsAt.at (h2.keep hkp) hy
    apply zz
    refine Cd.ra (h := ?_)
    apply Run.by_eq
    · intro self
      conv => lhs; simp -implicitDefEqProofs (maxSteps := 300000) (disch := omega) [-getElem?_pos, -getElem?_neg, g5, g0, hlt']
    try (with_reducible refine Run.ret ?_)
    apply zz
    apply Cd.ite rfl
    · conv => lhs; simp -implicitDefEqProofs (maxSteps := 300000) (disch := omega) [-getElem?_pos, -getElem?_neg]
    all_goals intro c1
    all_goals try (cases c1; done)
    all_goals try simp only [Bool.not_eq_true', Bool.not_eq_false', decide_eq_true_eq, decide_eq_false_iff_not] at c1
    all_goals apply zz
    by_cases hxy : x = y
    · apply zz
      refine Cd.drawnH (pl := [(0, 0, false, false), (1, 0, false, false), (2, 3, false, false), (3, 7, false, false), (4, 0, false, false), (5, 0, false, false), (6, 48, false, false), (7, 112, false, false), (8, 255, false, false)]) [false, false, false, false, false, false, false, false, false] (by kernel_rfl) (by decide) (by decide) (by conv => lhs; simp only [List.map_cons, List.map_nil]) (by conv => lhs; simp [strip, orderedG, flagH]) ?_
      apply Run.by_eq
      · intro self
        conv => lhs; simp -implicitDefEqProofs (maxSteps := 300000) (disch := omega) [-getElem?_pos, -getElem?_neg, g0, g1, g5, hlt, hlt2, ho, hc, ht, ho', hc', ht', hxy, e1, e2]
      try (with_reducible refine Run.ret ?_)
      apply zz
      apply Cd.ite rfl
      · conv => lhs; simp -implicitDefEqProofs (maxSteps := 300000) (disch := omega) [-getElem?_pos, -getElem?_neg]
      all_goals intro c2
      all_goals try (cases c2; done)
      all_goals try simp only [Bool.not_eq_true', Bool.not_eq_false', decide_eq_true_eq, decide_eq_false_iff_not] at c2
      all_goals apply zz
      apply zz
      refine Cd.ra (h := ?_)
      apply Run.by_eq
      · intro self
        conv => lhs; simp -implicitDefEqProofs (maxSteps := 300000) (disch := omega) [-getElem?_pos, -getElem?_neg, g5]
      try (with_reducible refine Run.ret ?_)
      apply zz
      refine LoopK.nm (l1.length - (k + 1)) (by omega) ⟨k + 1, by omega, rfl, by simp [hm], by simp [g0], by simp [g1], by simp, hkp, ?_⟩
      rw [List.take_add_one, List.take_add_one, hx, hy, hz, hxy]
    · have hd2 : decide (l1 = l2) = false := by
        simp only [decide_eq_false_iff_not]; rintro rfl; rw [hx] at hy; cases hy; exact hxy rfl
      rw [hd2]
      apply zz
      refine Cd.drawnH (pl := [(0, 0, false, false), (1, 0, false, false), (2, 3, false, false), (3, 7, false, false), (4, 0, false, false), (5, 0, false, false), (6, 48, false, false), (7, 112, false, false), (8, 255, false, false)]) [false, false, false, false, false, false, false, false, false] (by kernel_rfl) (by decide) (by decide) (by conv => lhs; simp only [List.map_cons, List.map_nil]) (by conv => lhs; simp [strip, orderedG, flagH]) ?_
      apply Run.by_eq
      · intro self
        conv => lhs; simp -implicitDefEqProofs (maxSteps := 300000) (disch := omega) [-getElem?_pos, -getElem?_neg, g0, g1, g5, hlt, hlt2, ho, hc, ht, ho', hc', ht', hxy, e1, e2]
      try (with_reducible refine Run.ret ?_)
      apply zz
      apply Cd.ite rfl
      · conv => lhs; simp -implicitDefEqProofs (maxSteps := 300000) (disch := omega) [-getElem?_pos, -getElem?_neg]
      all_goals intro c2
      all_goals try (cases c2; done)
      all_goals try simp only [Bool.not_eq_true', Bool.not_eq_false', decide_eq_true_eq, decide_eq_false_iff_not] at c2
      all_goals apply zz
      apply zz
      refine Cd.ra (h := ?_)
      apply Run.by_eq
      · intro self
        conv => lhs; simp -implicitDefEqProofs (maxSteps := 300000) (disch := omega) [-getElem?_pos, -getElem?_neg]
      try (with_reducible refine Run.ret ?_)
      apply zz
      apply Leave.mk (by first | exact .inl rfl | exact .inr rfl) (by simp only [Fr.marks_put, fr0_marks, hm])
      · conv => lhs; simp -implicitDefEqProofs (disch := omega) [Try.results28, hm]
      exact ⟨rfl, hkp⟩
  · obtain rfl : k = l1.length := by omega
    have hd : decide (l1 = l2) = true := by
      rw [List.take_length, hne, List.take_length] at hz; simp [hz]
    rw [hd]
    apply zz
    refine Cd.ra (h := ?_)
    apply Run.by_eq
    · intro self
      conv => lhs; simp -implicitDefEqProofs (maxSteps := 300000) (disch := omega) [-getElem?_pos, -getElem?_neg, g5, g0]
    try (with_reducible refine Run.ret ?_)
    apply zz
    apply Cd.ite rfl
    · conv => lhs; simp -implicitDefEqProofs (maxSteps := 300000) (disch := omega) [-getElem?_pos, -getElem?_neg]
    all_goals intro c1
    all_goals try (cases c1; done)
    all_goals try simp only [Bool.not_eq_true', Bool.not_eq_false', decide_eq_true_eq, decide_eq_false_iff_not] at c1
    all_goals apply zz
    apply zz
    refine Cd.ra (h := ?_)
    apply Run.by_eq
    · intro self
      conv => lhs; simp -implicitDefEqProofs (maxSteps := 300000) (disch := omega) [-getElem?_pos, -getElem?_neg]
    try (with_reducible refine Run.ret ?_)
    apply zz
    apply Leave.mk (by first | exact .inl rfl | exact .inr rfl) (by simp only [Fr.marks_put, fr0_marks, hm])
    · conv => lhs; simp -implicitDefEqProofs (disch := omega) [Try.results28, hm]
    exact ⟨rfl, hkp⟩
/-- The weeks in which a bound is at least some sweetness. -/
def fromB (g : Nat → Frac) (T : Frac) (w : Nat) : Bool := !aboveB T (g w)
theorem same_k (k : Nat) : ∀ l : List Value, (∀ v ∈ l, ∃ x, v = .int .i64 x) → listEq (veq (k + 1)) l l = true
  | [], _ => rfl
  | v :: r, h => by
    obtain ⟨x, rfl⟩ := h v (.head _)
    rw [listEq_cons, veq_int, same_k k r fun w hw => h w (.tail _ hw)]; rfl
theorem bc_same (n : Nat) (L H : Nat → Frac) (k : Nat) : listEq (veq (k + 1)) (bcells n L H) (bcells n L H) = true := same_k k _ fun v hv => by
  unfold bcells at hv
  cases hv with
  | head => exact ⟨_, rfl⟩
  | tail _ hv =>
    rcases List.mem_append.1 hv with hv | hv
    · exact fracs_ints L v hv
    · exact fracs_ints H v hv
theorem veq_fn {gi : FuncId} {BC : List Value} (h : listEq (veq 3) BC BC = true) : veq 5 (.func (.func gi) #[.agg BC.toArray] #[]) (.func (.func gi) #[.agg BC.toArray] #[]) = true := by
  simp [veq, listEq, h]
set_option maxRecDepth 100000 in
set_option maxHeartbeats 4000000 in
theorem weeksFrom_ev (gi : FuncId) (BC : List Value) (n : Nat) (L H : Nat → Frac) (g : Nat → Frac) (T : Frac) (s : St) (hB : BOk BC n L H) (hS3 : listEq (veq 3) BC BC = true) (hn : n ≤ 30) (hg : ∀ w s, w < n → Ev TT gi [.agg BC.toArray, .int .i64 w] s fun r s' => r = (g w).v ∧ Keep s s') (hF : ∀ w, w < n → Fits (g w) T) :
    Ev TT 58 [.agg BC.toArray, .func (.func gi) #[.agg BC.toArray] #[], T.v] s fun r s' => Keep s s' ∧ IntsAt s' r (wkL n (fromB g T)) := by
  have b1 := takeL_len hB.len
  have b2 := hB.len
  have b3 := hB.ones
  have hwk := hB.wk
  have b4 := veq_fn (gi := gi) hS3
  rw [v_eq]
  refine Ev.intro (fn := Try.f58) rfl (by kernel_rfl) rfl rfl ?_
  apply zz
  refine Cd.ra (h := ?_)
  apply Run.by_eq
  · intro self
    conv => lhs; simp -implicitDefEqProofs (maxSteps := 300000) (disch := omega) [-getElem?_pos, -getElem?_neg, b2, b3]
  try (with_reducible refine Run.ret ?_)
  apply zz
  refine Cd.ra (h := ?_)
  apply Run.by_eq
  · intro self
    conv => lhs; simp -implicitDefEqProofs (maxSteps := 300000) (disch := omega) [-getElem?_pos, -getElem?_neg]
  try (with_reducible refine Run.ret ?_)
  apply zz
  refine Cd.ra (h := ?_)
  apply Run.by_eq
  · intro self
    conv => lhs; simp -implicitDefEqProofs (maxSteps := 300000) (disch := omega) [-getElem?_pos, -getElem?_neg, hwk]
  try (with_reducible refine Run.ret ?_)
  apply zz
  refine Cd.inv (fun z f s' => ∃ k : Nat, k ≤ n ∧ z = n - k ∧ f.marks = [] ∧ f.get 1 = .func (.func gi) #[.agg BC.toArray] #[] ∧ f.get 5 = .pointer (some ⟨s.next + 1, 0, none⟩) ∧ f.get 10 = .int .i64 n ∧ f.get 11 = .int .i64 k ∧ Keep s s' ∧ s.next + 1 < s'.next ∧ s'.heap.get (s.next + 1) = some (.cells [.int .i64 T.o, .int .i64 T.u] none) ∧ OwnG 1 (s.next + 1 + 1) s' (f.get 7) (iC (wkL k (fromB g T)))) n ?_ ?_
  · exact ⟨0, by omega, rfl, by simp, by simp, by simp, by simp, by simp, ⟨by (try simp only [pushed_next', upded_next']); omega, fun i hi => by simp -implicitDefEqProofs (disch := omega) []⟩, by simp, by simp -implicitDefEqProofs (disch := omega), .inl ⟨rfl, by simp⟩⟩
  rintro z f s1 ⟨k, hk, rfl, hm, g1, g5, g10, g11, hkp, hnx, hg1, hO⟩
  have hkpa := hkp.1
  have hkpb := hkp.2
  by_cases hlt : k < n
  · have hlt' : (k : Int) < n := by omega
    have hst := wkL_succ k (fromB g T)
    have hfb : fromB g T k = !aboveB T (g k) := rfl
    have hgk := fun s => hg k s hlt
    have hfk := hF k hlt
    rw [hfb] at hst
    generalize g k = X at *
    apply zz
    refine Cd.ra (h := ?_)
    apply Run.by_eq
    · intro self
      conv => lhs; simp -implicitDefEqProofs (maxSteps := 300000) (disch := omega) [-getElem?_pos, -getElem?_neg, g10, g11, hlt']
    try (with_reducible refine Run.ret ?_)
    apply zz
    apply Cd.ite rfl
    · conv => lhs; simp -implicitDefEqProofs (maxSteps := 300000) (disch := omega) [-getElem?_pos, -getElem?_neg]
    all_goals intro c0
    all_goals try (cases c0; done)
    all_goals try simp only [Bool.not_eq_true', Bool.not_eq_false', decide_eq_true_eq, decide_eq_false_iff_not] at c0
    all_goals apply zz
    apply zz
    refine Cd.ra (h := ?_)
    apply Run.by_eq
    · intro self
      conv => lhs; simp -implicitDefEqProofs (maxSteps := 300000) (disch := omega) [-getElem?_pos, -getElem?_neg, g11]
    try (with_reducible refine Run.ret ?_)
    apply zz
    refine Cd.drawn (pl := [(0, 0, false, false), (1, 0, false, false), (3, 0, false, false), (2, 3, true, false), (4, 15, true, false), (5, 31, false, false)]) (by kernel_rfl) (by conv => lhs; simp only [List.map_cons, List.map_nil]) (by conv => lhs; simp [strip, ordered]) ?_
    apply Run.by_eq
    · intro self
      conv => lhs; simp -implicitDefEqProofs (maxSteps := 300000) (disch := omega) [filter_bt, (show ∀ i, Nat.testBit 3 i = decide (i < 2) from fun i => Nat.testBit_two_pow_sub_one 2 i), (show ∀ i, Nat.testBit 15 i = decide (i < 4) from fun i => Nat.testBit_two_pow_sub_one 4 i), -getElem?_pos, -getElem?_neg, g1, g5, hg1, b4]
    try (with_reducible refine Run.ret ?_)
    apply zz
    refine Run.call ((hgk _).mono fun v wp hv => ?_)
    obtain ⟨rfl, p⟩ := hv
    have pa := p.1
    have pb := p.2
    try simp only [pushed_next', upded_next'] at pa pb
    have p1 := (pb _ (by omega)).trans hg1
    apply Run.by_eq
    · intro self
      conv => lhs; simp -implicitDefEqProofs (maxSteps := 300000) (disch := omega) [-getElem?_pos, -getElem?_neg, g1, g5, p1, b4]
    try (with_reducible refine Run.ret ?_)
    apply zz
    rw [← v_eq]
    refine Run.call ((below_ev X T _ hfk).mono fun v wq hv => ?_)
    obtain ⟨rfl, q⟩ := hv
    have qa := q.1
    have qb := q.2
    try simp only [pushed_next', upded_next'] at qa qb
    have q1 := (qb _ (by omega)).trans p1
    have kq : Keep s1 wq := ⟨by omega, fun i hi => (qb i (by omega)).trans (pb i hi)⟩
    cases hab : aboveB T X with
    | true =>
      rw [hab, if_neg (by decide)] at hst
      apply Run.by_eq
      · intro self
        conv => lhs; simp -implicitDefEqProofs (maxSteps := 300000) (disch := omega) [-getElem?_pos, -getElem?_neg, g1, g5, q1, b4]
      try (with_reducible refine Run.ret ?_)
      apply zz
      apply Cd.ite rfl
      · conv => lhs; simp -implicitDefEqProofs (maxSteps := 300000) (disch := omega) [-getElem?_pos, -getElem?_neg]
      all_goals intro c1
      all_goals try (cases c1; done)
      all_goals try simp only [Bool.not_eq_true', Bool.not_eq_false', decide_eq_true_eq, decide_eq_false_iff_not] at c1
      all_goals apply zz
      apply zz
      refine Cd.ra (h := ?_)
      apply Run.by_eq
      · intro self
        conv => lhs; simp -implicitDefEqProofs (maxSteps := 300000) (disch := omega) [-getElem?_pos, -getElem?_neg, g11]
      try (with_reducible refine Run.ret ?_)
      apply zz
      refine LoopK.nm (n - (k + 1)) (by omega) ⟨k + 1, by omega, rfl, by simp [hm], by simp [g1], by simp [g5], by simp [g10], by simp, ⟨by (try simp only [pushed_next', upded_next']); omega, fun i hi => by simp -implicitDefEqProofs (disch := omega) [qb, pb, hkpb]⟩, by omega, q1, ?_⟩
      rw [hst]; simpa using hO.keepK kq
    | false =>
      rw [hab, if_pos (by decide)] at hst
      have kx2 : Keep s1 (wq.pushed (.cells [.int .i64 k] none)) := kq.pushed _
      have hll := wkL_len k (fromB g T)
      have hrl : (iC (wkL k (fromB g T))).length = (wkL k (fromB g T)).length := by simp
      obtain ⟨s4, happ, hn4, hk4, hO4⟩ := app_one (n := 1) (b2 := wq.next) (x := [.int .i64 k]) (g := none) (hO.keepK kx2) (iC_len _) rfl rfl (get_pushed_new _ _) (by (try simp only [pushed_next']); omega) (by omega)
      simp only [pushed_next', hrl] at happ hn4 hO4
      apply Run.by_eq
      · intro self
        conv => lhs; simp -implicitDefEqProofs (maxSteps := 300000) (disch := omega) [-getElem?_pos, -getElem?_neg, g1, g5, q1, b4]
      try (with_reducible refine Run.ret ?_)
      apply zz
      apply Cd.ite rfl
      · conv => lhs; simp -implicitDefEqProofs (maxSteps := 300000) (disch := omega) [-getElem?_pos, -getElem?_neg]
      all_goals intro c1
      all_goals try (cases c1; done)
      all_goals try simp only [Bool.not_eq_true', Bool.not_eq_false', decide_eq_true_eq, decide_eq_false_iff_not] at c1
      all_goals apply zz
      apply zz
      refine Cd.ra (h := ?_)
      apply Run.by_eq
      · intro self
        conv => lhs; simp -implicitDefEqProofs (maxSteps := 300000) (disch := omega) [-getElem?_pos, -getElem?_neg, happ]
      try (with_reducible refine Run.ret ?_)
      apply zz
      refine Cd.ra (h := ?_)
      apply Run.by_eq
      · intro self
        conv => lhs; simp -implicitDefEqProofs (maxSteps := 300000) (disch := omega) [-getElem?_pos, -getElem?_neg, g11]
      try (with_reducible refine Run.ret ?_)
      apply zz
      refine LoopK.nm (n - (k + 1)) (by omega) ⟨k + 1, by omega, rfl, by simp [hm], by simp [g1], by simp [g5], by simp [g10], by simp, ⟨by omega, fun i hi => (hk4 i (by omega)).trans ((kx2.2 i (by omega)).trans (hkpb i hi))⟩, by omega, (hk4 _ (by omega)).trans ((kx2.2 _ (by omega)).trans hg1), ?_⟩
      rw [hst, iC_snoc]; simpa using hO4
  · obtain rfl : k = n := by omega
    have ho1 : oneV (f.get 7) = true := by
      rcases hO with ⟨_, e3⟩ | ⟨_, e3, _⟩ <;> rw [e3] <;> rfl
    apply zz
    refine Cd.ra (h := ?_)
    apply Run.by_eq
    · intro self
      conv => lhs; simp -implicitDefEqProofs (maxSteps := 300000) (disch := omega) [-getElem?_pos, -getElem?_neg, g10, g11]
    try (with_reducible refine Run.ret ?_)
    apply zz
    apply Cd.ite rfl
    · conv => lhs; simp -implicitDefEqProofs (maxSteps := 300000) (disch := omega) [-getElem?_pos, -getElem?_neg]
    all_goals intro c0
    all_goals try (cases c0; done)
    all_goals try simp only [Bool.not_eq_true', Bool.not_eq_false', decide_eq_true_eq, decide_eq_false_iff_not] at c0
    all_goals apply zz
    apply zz
    refine Cd.ra (h := ?_)
    apply Run.by_eq
    · intro self
      conv => lhs; simp -implicitDefEqProofs (maxSteps := 300000) (disch := omega) [-getElem?_pos, -getElem?_neg]
    try (with_reducible refine Run.ret ?_)
    apply zz
    apply Leave.mk (by first | exact .inl rfl | exact .inr rfl) (by simp only [Fr.marks_put, fr0_marks, hm])
    · conv => lhs; simp -implicitDefEqProofs (disch := omega) [Try.results58, hm]
    exact ⟨hkp, hO.sl (iC_len _)⟩
end Go.Proofs.Ytnhokodcmeekhaa
namespace Go.Proofs.Ytnhokodcmeekhaa
open Go Kern
/-! A part of an array as a slice -/
noncomputable def sliceA (len n : Nat) (x : Value) (lo hi : Option Value) (H : Tree AObj) : Option Value :=
  ob (addrOf x) fun p => ob (cellsAt H p.1) fun c => gd c.2.isNone (ob (boundF hi len len) fun h => ob (boundF lo h 0) fun l =>
    gd (Nat.ble l h && Nat.ble h len) (some (.slice (some ⟨p.1, bt (Nat.blt l len) (p.2 + l * n) p.2, none⟩) (h - l) (len - l))))
@[simp] theorem vSliceA_def (len n : Nat) (x : Operand) (lo hi : Option Operand) (ρ : Env) (H : Tree AObj) : vSliceA len n x lo hi ρ H = sliceA len n (ρ x) (lo.map ρ) (hi.map ρ) H := rfl
theorem act_sliceA {T : Tab} {self : Self} {f : Fr} {s : St} (t : TypeId) (x : Operand) (lo hi : Option Operand) {e : TypeId} {n len : Nat} (h1 : T.und t = some (.array len e)) (h2 : T.size e = some n) :
    actO T self (.slice t x lo hi none) f s = pureR (vSliceA len n x lo hi f.eval s.heap) s := by
  show ob (ob (T.und t) _) _ = _
  rw [h1]
  show ob (ob (T.size e) _) _ = _
  rw [h2]; rfl
@[simp] theorem o_slice_91 {self : Self} {f : Fr} {s : St} {x : Operand} {lo hi : Option Operand} : actO TT self (.slice 91 x lo hi none) f s = pureR (vSliceA 30 2 x lo hi f.eval s.heap) s := act_sliceA 91 x lo hi und_91 size_90
theorem sliceA_1 {P m : Nat} (h1 : 1 ≤ m) (h2 : m ≤ 30) (H : Tree AObj) : sliceA 30 2 (.pointer (some ⟨P, 1, none⟩)) (some (.int .i64 1)) (some (.int .i64 (m : Int))) H = ob (H.get P) fun o => ob (cellsOf o) fun c => gd c.2.isNone (some (.slice (some ⟨P, 3, none⟩) (m - 1) 29)) := by
  have e1 : boundF (some (.int .i64 (m : Int))) 30 30 = some m := by
    show (match Nat.ble m 30 with | true => some m | false => none) = _
    rw [Nat.ble_eq_true_of_le h2]
  have e2 : boundF (some (.int .i64 1)) m 0 = some 1 := by
    show (match Nat.ble 1 m with | true => some 1 | false => none) = _
    rw [Nat.ble_eq_true_of_le h1]
  show ob (cellsAt H P) (fun c => gd c.2.isNone (ob (boundF (some (.int .i64 (m : Int))) 30 30) _)) = _
  rw [e1]
  show ob (cellsAt H P) (fun c => gd c.2.isNone (ob (boundF (some (.int .i64 1)) m 0) _)) = _
  rw [e2]
  show ob (ob (H.get P) cellsOf) (fun c => gd c.2.isNone (gd (Nat.ble 1 m && Nat.ble m 30) (some (Value.slice (some ⟨P, 3, none⟩) (m - 1) 29)))) = _
  rw [Nat.ble_eq_true_of_le h1, Nat.ble_eq_true_of_le h2]
  show ob (ob (H.get P) cellsOf) (fun c => gd c.2.isNone (some (Value.slice (some ⟨P, 3, none⟩) (m - 1) 29))) = _
  cases H.get P <;> rfl
/-! Peaks, and ripe weeks -/
/-- An answer: the error of Check, that of a clash, or what is good. -/
def Ans (n lo hi : Int) (ss : List SampD) (e : Int) (bad good : Prop) : Prop :=
  (fieldErr n lo hi ss ≠ 0 ∧ e = fieldErr n lo hi ss ∧ bad) ∨
  (fieldErr n lo hi ss = 0 ∧ e = 12 ∧ bad ∧ ∃ i j k, i < n.toNat ∧ j < n.toNat ∧ k < n.toNat ∧ hB lo hi ss i j k = true) ∨
  (fieldErr n lo hi ss = 0 ∧ e = 0 ∧ good ∧ ∀ i j k, i < n.toNat → j < n.toNat → k < n.toNat → hB lo hi ss i j k = false)
theorem fr_arr {s : St} {P m : Nat} {BC : List Value} {L : Nat → Frac} (hb : P < s.next) (h : s.heap.get P = some (.cells BC none)) (hlos : ∀ w, w < 30 → takeL 2 (BC.drop (1 + w * 2)) = some [.int .i64 (L w).o, .int .i64 (L w).u]) (h1 : 1 ≤ m) (h2 : m ≤ 30) :
    FrAt s (.slice (some ⟨P, 3, none⟩) (m - 1) 29) ((List.range (m - 1)).map fun j => L (j + 1)) := by
  have := SlAt.mk (n := 2) (s := s) (off := 3) (c := 29) (l := ((List.range (m - 1)).map fun j => L (j + 1)).map Frac.cs) hb h rfl (fun i e he => ?_)
  · rw [List.length_map, List.length_map, List.length_range] at this; exact this
  · rw [List.getElem?_map, List.getElem?_map] at he
    by_cases hi : i < m - 1
    · rw [List.getElem?_range hi] at he
      cases he
      have := hlos (i + 1) (by omega)
      rw [show 3 + i * 2 = 1 + (i + 1) * 2 by omega]
      exact this
    · rw [List.getElem?_eq_none (by simp; omega)] at he; cases he
def topF (m : Nat) (L : Nat → Frac) : Frac := foreF aboveB (L 0) ((List.range (m - 1)).map fun j => L (j + 1))
def LF (n lo hi : Int) (ss : List SampD) : Nat → Frac := (bndN n.toNat lo hi ss).1
def HF (n lo hi : Int) (ss : List SampD) : Nat → Frac := (bndN n.toNat lo hi ss).2
def UF (n lo hi : Int) (ss : List SampD) : Nat → Frac := upF n.toNat (LF n lo hi ss) (HF n lo hi ss)
def WF (n lo hi : Int) (ss : List SampD) : Nat → Frac := lowF n.toNat (LF n lo hi ss)
set_option maxRecDepth 100000 in
set_option maxHeartbeats 4000000 in
theorem peaks_ev (n lo hi : Int) (v : Value) (ss : List SampD) (s : St) (hs : SmAt s v ss) (hl : ss.length ≤ 1000000) : Ev TT 24 [fieldV n lo hi v] s fun r s' => Keep s s' ∧ ∃ w e, r = .tuple #[w, .int .i64 e] ∧ Ans n lo hi ss e (w = .slice none 0 0) (IntsAt s' w (wkL n.toNat (fromB (UF n lo hi ss) (topF n.toNat (LF n lo hi ss))))) := by
  have hck := possible_ev n lo hi v ss
  obtain ⟨a, c, rfl⟩ := hs.shape
  rw [List.length_map] at hs hck ⊢
  unfold fieldV at hck ⊢
  refine Ev.intro (fn := Try.f24) rfl (by kernel_rfl) rfl rfl ?_
  apply zz
  refine Cd.ra (h := ?_)
  apply Run.by_eq
  · intro self
    conv => lhs; simp -implicitDefEqProofs (maxSteps := 300000) (disch := omega) [-getElem?_pos, -getElem?_neg]
  try (with_reducible refine Run.ret ?_)
  apply zz
  refine Cd.ra (h := ?_)
  apply Run.by_eq
  · intro self
    conv => lhs; simp -implicitDefEqProofs (maxSteps := 300000) (disch := omega) [-getElem?_pos, -getElem?_neg]
  try (with_reducible refine Run.ret ?_)
  apply zz
  refine Run.call ((hck _ (hs.keep ⟨by (try simp only [pushed_next', upded_next']); omega, fun i hi => by simp -implicitDefEqProofs (disch := omega) []⟩) hl).mono fun v wy hv => ?_)
  obtain ⟨y, BC, e, rfl, b2, b3, b4, hP⟩ := hv
  have ya := y.1
  have yb := y.2
  have b1 := takeL_len b2
  try simp only [pushed_next', upded_next'] at ya yb
  have hov := ov_zero b2
  simp only [List.reduceReplicate] at hov
  apply Run.by_eq
  · intro self
    conv => lhs; simp -implicitDefEqProofs (maxSteps := 300000) (disch := omega) [-getElem?_pos, -getElem?_neg, b1, b2, b3, hov]
  try (with_reducible refine Run.ret ?_)
  apply zz
  rcases hP with ⟨h1, rfl⟩ | ⟨h1, rfl, hc⟩ | ⟨h1, rfl, rfl, hc⟩
  · apply zz
    refine Cd.ra (h := ?_)
    apply Run.by_eq
    · intro self
      conv => lhs; simp -implicitDefEqProofs (maxSteps := 300000) (disch := omega) [-getElem?_pos, -getElem?_neg, h1]
    try (with_reducible refine Run.ret ?_)
    apply zz
    apply Cd.ite rfl
    · conv => lhs; simp -implicitDefEqProofs (maxSteps := 300000) (disch := omega) [-getElem?_pos, -getElem?_neg]
    all_goals intro c0
    all_goals try (cases c0; done)
    all_goals try simp only [Bool.not_eq_true', Bool.not_eq_false', decide_eq_true_eq, decide_eq_false_iff_not] at c0
    all_goals apply zz
    apply zz
    refine Cd.ra (h := ?_)
    apply Run.by_eq
    · intro self
      conv => lhs; simp -implicitDefEqProofs (maxSteps := 300000) (disch := omega) [-getElem?_pos, -getElem?_neg]
    try (with_reducible refine Run.ret ?_)
    apply zz
    apply Leave.mk (by first | exact .inl rfl | exact .inr rfl) (by simp only [Fr.marks_put, fr0_marks])
    · conv => lhs; simp -implicitDefEqProofs (disch := omega) [Try.results24]
    exact ⟨⟨by (try simp only [pushed_next', upded_next']); omega, fun i hi => by simp -implicitDefEqProofs (disch := omega) [yb]⟩, _, _, rfl, .inl ⟨h1, rfl, rfl⟩⟩
  · apply zz
    refine Cd.ra (h := ?_)
    apply Run.by_eq
    · intro self
      conv => lhs; simp -implicitDefEqProofs (maxSteps := 300000) (disch := omega) [-getElem?_pos, -getElem?_neg]
    try (with_reducible refine Run.ret ?_)
    apply zz
    apply Cd.ite rfl
    · conv => lhs; simp -implicitDefEqProofs (maxSteps := 300000) (disch := omega) [-getElem?_pos, -getElem?_neg]
    all_goals intro c0
    all_goals try (cases c0; done)
    all_goals try simp only [Bool.not_eq_true', Bool.not_eq_false', decide_eq_true_eq, decide_eq_false_iff_not] at c0
    all_goals apply zz
    apply zz
    refine Cd.ra (h := ?_)
    apply Run.by_eq
    · intro self
      conv => lhs; simp -implicitDefEqProofs (maxSteps := 300000) (disch := omega) [-getElem?_pos, -getElem?_neg]
    try (with_reducible refine Run.ret ?_)
    apply zz
    apply Leave.mk (by first | exact .inl rfl | exact .inr rfl) (by simp only [Fr.marks_put, fr0_marks])
    · conv => lhs; simp -implicitDefEqProofs (disch := omega) [Try.results24]
    exact ⟨⟨by (try simp only [pushed_next', upded_next']); omega, fun i hi => by simp -implicitDefEqProofs (disch := omega) [yb]⟩, _, _, rfl, .inr (.inl ⟨h1, rfl, rfl, hc⟩)⟩
  obtain ⟨m, rfl⟩ : ∃ m : Nat, n = m := ⟨n.toNat, by have := (fieldErr_ok h1).1; omega⟩
  unfold UF LF HF
  simp only [Int.toNat_natCast] at hc b1 b2 b3 b4 hov ⊢
  obtain ⟨hm, hb⟩ := base_ok h1
  have hv := fun w hw => vals_ok h1 hc (w := w) hw
  have hL : ∀ i, i < m → Mid 60000 1 ((bndN m lo hi ss).1 i) := fun i hi => (hb i hi).1.mid
  have hmo := fun w s hw => most_ev 60000 1 _ m (bndN m lo hi ss).1 (bndN m lo hi ss).2 w s (bOk m _ _) (by omega) hw (by decide) (by decide) (by decide) (by decide) (by decide) hL fun i hi => (hb i hi).2.1.mid
  have hOK := bOk m (bndN m lo hi ss).1 (bndN m lo hi ss).2
  have hwk := hOK.wk
  have hlo : takeL 2 (bcells m (bndN m lo hi ss).1 (bndN m lo hi ss).2).tail = some [.int .i64 ((bndN m lo hi ss).1 0).o, .int .i64 ((bndN m lo hi ss).1 0).u] := by have := hOK.lo 0 (by omega); simpa using this
  have hlos := hOK.lo
  have hS3 := bc_same m (bndN m lo hi ss).1 (bndN m lo hi ss).2 2
  have b5 := veq_fn (gi := 43) hS3
  have hsl := sliceA_1 (m := m) (P := wy.next) (by omega) (by omega)
  generalize bcells m (bndN m lo hi ss).1 (bndN m lo hi ss).2 = BC at *
  have hT : ∀ x ∈ (List.range (m - 1)).map (fun j => (bndN m lo hi ss).1 (j + 1)), Mid 60000 1 x := fun x hx => by
    obtain ⟨j, hj, rfl⟩ := List.mem_map.1 hx
    exact hL _ (by have : j < m - 1 := by simpa using hj
                   omega)
  have hTm : Mid 3600000 30 (topF m (bndN m lo hi ss).1) := (fore_mid (hL 0 (by omega)) hT).mono (by decide) (by decide)
  have htop : topF m (bndN m lo hi ss).1 = foreF aboveB ((bndN m lo hi ss).1 0) ((List.range (m - 1)).map fun j => (bndN m lo hi ss).1 (j + 1)) := rfl
  have hwf := fun s => weeksFrom_ev 43 BC m (bndN m lo hi ss).1 (bndN m lo hi ss).2 (upF m (bndN m lo hi ss).1 (bndN m lo hi ss).2) (topF m (bndN m lo hi ss).1) s hOK hS3 (by omega) hmo fun w hw => (hv w hw).2.2.fits hTm (by decide)
  have hgr := fun v s (h : FrAt s v ((List.range (m - 1)).map fun j => (bndN m lo hi ss).1 (j + 1))) => greatest_ev ((bndN m lo hi ss).1 0) v _ s h (by simp; omega) fun x hx y hy => (hT x hx).fits (by
    rcases hy with rfl | hy
    · exact hL 0 (by omega)
    · exact hT y hy) (by decide)
  rw [← htop] at hgr
  generalize topF m (bndN m lo hi ss).1 = T at *
  apply zz
  refine Cd.ra (h := ?_)
  apply Run.by_eq
  · intro self
    conv => lhs; simp -implicitDefEqProofs (maxSteps := 300000) (disch := omega) [-getElem?_pos, -getElem?_neg]
  try (with_reducible refine Run.ret ?_)
  apply zz
  apply Cd.ite rfl
  · conv => lhs; simp -implicitDefEqProofs (maxSteps := 300000) (disch := omega) [-getElem?_pos, -getElem?_neg]
  all_goals intro c0
  all_goals try (cases c0; done)
  all_goals try simp only [Bool.not_eq_true', Bool.not_eq_false', decide_eq_true_eq, decide_eq_false_iff_not] at c0
  all_goals apply zz
  apply zz
  refine Cd.drawn (pl := [(0, 0, false, false), (1, 0, false, false), (2, 2, false, false), (3, 0, false, false), (4, 8, false, false), (5, 24, false, false), (6, 0, false, false), (7, 0, false, false), (8, 128, false, false), (9, 448, false, false), (10, 1016, true, false), (11, 2047, true, false), (12, 4095, false, false), (13, 8191, false, false)]) (by kernel_rfl) (by conv => lhs; simp only [List.map_cons, List.map_nil]) (by conv => lhs; simp [strip, ordered]) ?_
  apply Run.by_eq
  · intro self
    conv => lhs; simp -implicitDefEqProofs (maxSteps := 300000) (disch := omega) [filter_bt, (show Nat.testBit 1016 0 = false from rfl), (show Nat.testBit 1016 1 = false from rfl), (show Nat.testBit 1016 2 = false from rfl), (show Nat.testBit 1016 3 = true from rfl), (show Nat.testBit 1016 4 = true from rfl), (show Nat.testBit 1016 5 = true from rfl), (show Nat.testBit 1016 6 = true from rfl), (show Nat.testBit 1016 7 = true from rfl), (show Nat.testBit 1016 8 = true from rfl), (show Nat.testBit 1016 9 = true from rfl), (show ∀ i, Nat.testBit 2047 i = decide (i < 11) from fun i => Nat.testBit_two_pow_sub_one 11 i), -getElem?_pos, -getElem?_neg, b1, b4, hwk, hlo, hsl, b5]
  try (with_reducible refine Run.ret ?_)
  apply zz
  refine Run.call ((hgr _ _ (fr_arr (by simp) (by simp -implicitDefEqProofs (disch := omega)) hlos (by omega) (by omega))).mono fun v wz hv => ?_)
  obtain ⟨rfl, z⟩ := hv
  have za := z.1
  have zb := z.2
  try simp only [pushed_next', upded_next'] at za zb
  have z0 : wz.heap.get wy.next = some (.cells BC none) := by rw [zb _ (by omega)]; simp -implicitDefEqProofs (disch := omega)
  apply Run.by_eq
  · intro self
    conv => lhs; simp -implicitDefEqProofs (maxSteps := 300000) (disch := omega) [-getElem?_pos, -getElem?_neg, z0, b1, b4, hwk, hlo, hsl, b5]
  try (with_reducible refine Run.ret ?_)
  apply zz
  refine Run.call ((hwf _).mono fun v wu hv => ?_)
  obtain ⟨u, hu⟩ := hv
  have ua := u.1
  have ub := u.2
  have u0 := (ub _ (by omega)).trans z0
  have hvv : veq 5 v v = true := veq_sl (k := 4) hu
  have ho1 : oneV v = true := by
    obtain ⟨a, c, rfl⟩ := hu.shape; rfl
  apply Run.by_eq
  · intro self
    conv => lhs; simp -implicitDefEqProofs (maxSteps := 300000) (disch := omega) [-getElem?_pos, -getElem?_neg, u0, b1, b4, hwk, hlo, hsl, b5, hvv]
  try (with_reducible refine Run.ret ?_)
  apply zz
  apply Leave.mk (by first | exact .inl rfl | exact .inr rfl) (by simp only [Fr.marks_put, fr0_marks])
  · conv => lhs; simp -implicitDefEqProofs (disch := omega) [Try.results24]
  exact ⟨⟨by (try simp only [pushed_next', upded_next']); omega, fun i hi => by simp -implicitDefEqProofs (disch := omega) [ub, zb, yb]⟩, _, _, rfl, .inr (.inr ⟨h1, rfl, hu, hc⟩)⟩
def limI (least : Int) : Int := min (max least 0) 30001
set_option maxRecDepth 100000 in
set_option maxHeartbeats 4000000 in
theorem ripe_ev (n lo hi least : Int) (v : Value) (ss : List SampD) (s : St) (hs : SmAt s v ss) (hl : ss.length ≤ 1000000) : Ev TT 26 [fieldV n lo hi v, .int .i64 least] s fun r s' => Keep s s' ∧ ∃ w1 w2 e, r = .tuple #[w1, w2, .int .i64 e] ∧ Ans n lo hi ss e (w1 = .slice none 0 0 ∧ w2 = .slice none 0 0) (IntsAt s' w1 (wkL n.toNat (fromB (WF n lo hi ss) ⟨limI least, 1⟩)) ∧ IntsAt s' w2 (wkL n.toNat (fromB (UF n lo hi ss) ⟨limI least, 1⟩))) := by
  have hck := possible_ev n lo hi v ss
  obtain ⟨a, c, rfl⟩ := hs.shape
  rw [List.length_map] at hs hck ⊢
  unfold fieldV at hck ⊢
  refine Ev.intro (fn := Try.f26) rfl (by kernel_rfl) rfl rfl ?_
  apply zz
  refine Cd.ra (h := ?_)
  apply Run.by_eq
  · intro self
    conv => lhs; simp -implicitDefEqProofs (maxSteps := 300000) (disch := omega) [-getElem?_pos, -getElem?_neg]
  try (with_reducible refine Run.ret ?_)
  apply zz
  refine Cd.ra (h := ?_)
  apply Run.by_eq
  · intro self
    conv => lhs; simp -implicitDefEqProofs (maxSteps := 300000) (disch := omega) [-getElem?_pos, -getElem?_neg]
  try (with_reducible refine Run.ret ?_)
  apply zz
  refine Run.call ((hck _ (hs.keep ⟨by (try simp only [pushed_next', upded_next']); omega, fun i hi => by simp -implicitDefEqProofs (disch := omega) []⟩) hl).mono fun v wy hv => ?_)
  obtain ⟨y, BC, e, rfl, b2, b3, b4, hP⟩ := hv
  have ya := y.1
  have yb := y.2
  have b1 := takeL_len b2
  try simp only [pushed_next', upded_next'] at ya yb
  have hov := ov_zero b2
  simp only [List.reduceReplicate] at hov
  apply Run.by_eq
  · intro self
    conv => lhs; simp -implicitDefEqProofs (maxSteps := 300000) (disch := omega) [-getElem?_pos, -getElem?_neg, b1, b2, b3, hov]
  try (with_reducible refine Run.ret ?_)
  apply zz
  rcases hP with ⟨h1, rfl⟩ | ⟨h1, rfl, hc⟩ | ⟨h1, rfl, rfl, hc⟩
  · apply zz
    refine Cd.ra (h := ?_)
    apply Run.by_eq
    · intro self
      conv => lhs; simp -implicitDefEqProofs (maxSteps := 300000) (disch := omega) [-getElem?_pos, -getElem?_neg, h1]
    try (with_reducible refine Run.ret ?_)
    apply zz
    apply Cd.ite rfl
    · conv => lhs; simp -implicitDefEqProofs (maxSteps := 300000) (disch := omega) [-getElem?_pos, -getElem?_neg]
    all_goals intro c0
    all_goals try (cases c0; done)
    all_goals try simp only [Bool.not_eq_true', Bool.not_eq_false', decide_eq_true_eq, decide_eq_false_iff_not] at c0
    all_goals apply zz
    apply zz
    refine Cd.ra (h := ?_)
    apply Run.by_eq
    · intro self
      conv => lhs; simp -implicitDefEqProofs (maxSteps := 300000) (disch := omega) [-getElem?_pos, -getElem?_neg]
    try (with_reducible refine Run.ret ?_)
    apply zz
    apply Leave.mk (by first | exact .inl rfl | exact .inr rfl) (by simp only [Fr.marks_put, fr0_marks])
    · conv => lhs; simp -implicitDefEqProofs (disch := omega) [Try.results26]
    exact ⟨⟨by (try simp only [pushed_next', upded_next']); omega, fun i hi => by simp -implicitDefEqProofs (disch := omega) [yb]⟩, _, _, _, rfl, .inl ⟨h1, rfl, rfl, rfl⟩⟩
  · apply zz
    refine Cd.ra (h := ?_)
    apply Run.by_eq
    · intro self
      conv => lhs; simp -implicitDefEqProofs (maxSteps := 300000) (disch := omega) [-getElem?_pos, -getElem?_neg]
    try (with_reducible refine Run.ret ?_)
    apply zz
    apply Cd.ite rfl
    · conv => lhs; simp -implicitDefEqProofs (maxSteps := 300000) (disch := omega) [-getElem?_pos, -getElem?_neg]
    all_goals intro c0
    all_goals try (cases c0; done)
    all_goals try simp only [Bool.not_eq_true', Bool.not_eq_false', decide_eq_true_eq, decide_eq_false_iff_not] at c0
    all_goals apply zz
    apply zz
    refine Cd.ra (h := ?_)
    apply Run.by_eq
    · intro self
      conv => lhs; simp -implicitDefEqProofs (maxSteps := 300000) (disch := omega) [-getElem?_pos, -getElem?_neg]
    try (with_reducible refine Run.ret ?_)
    apply zz
    apply Leave.mk (by first | exact .inl rfl | exact .inr rfl) (by simp only [Fr.marks_put, fr0_marks])
    · conv => lhs; simp -implicitDefEqProofs (disch := omega) [Try.results26]
    exact ⟨⟨by (try simp only [pushed_next', upded_next']); omega, fun i hi => by simp -implicitDefEqProofs (disch := omega) [yb]⟩, _, _, _, rfl, .inr (.inl ⟨h1, rfl, ⟨rfl, rfl⟩, hc⟩)⟩
  obtain ⟨m, rfl⟩ : ∃ m : Nat, n = m := ⟨n.toNat, by have := (fieldErr_ok h1).1; omega⟩
  unfold UF WF LF HF
  simp only [Int.toNat_natCast] at hc b1 b2 b3 b4 hov ⊢
  obtain ⟨hm, hb⟩ := base_ok h1
  have hv := fun w hw => vals_ok h1 hc (w := w) hw
  have hL : ∀ i, i < m → Mid 60000 1 ((bndN m lo hi ss).1 i) := fun i hi => (hb i hi).1.mid
  have hmo := fun w s hw => most_ev 60000 1 _ m (bndN m lo hi ss).1 (bndN m lo hi ss).2 w s (bOk m _ _) (by omega) hw (by decide) (by decide) (by decide) (by decide) (by decide) hL fun i hi => (hb i hi).2.1.mid
  have hle := fun w s hw => least_ev 60000 1 _ m (bndN m lo hi ss).1 (bndN m lo hi ss).2 w s (bOk m _ _) (by omega) hw (by decide) (by decide) (by decide) (by decide) (by decide) hL
  have hOK := bOk m (bndN m lo hi ss).1 (bndN m lo hi ss).2
  have hwk := hOK.wk
  have hS3 := bc_same m (bndN m lo hi ss).1 (bndN m lo hi ss).2 2
  have b5 := veq_fn (gi := 43) hS3
  have b6 := veq_fn (gi := 41) hS3
  have hlim : 0 ≤ limI least ∧ limI least ≤ 30001 := by unfold limI; omega
  have hmn : min (max least 0) 30001 = limI least := rfl
  generalize limI least = t at *
  generalize bcells m (bndN m lo hi ss).1 (bndN m lo hi ss).2 = BC at *
  have hTm : Mid 3600000 30 (⟨t, 1⟩ : Frac) := by unfold Mid; simp only []; omega
  have hwf := fun s => weeksFrom_ev 43 BC m (bndN m lo hi ss).1 (bndN m lo hi ss).2 (upF m (bndN m lo hi ss).1 (bndN m lo hi ss).2) ⟨t, 1⟩ s hOK hS3 (by omega) hmo fun w hw => (hv w hw).2.2.fits hTm (by decide)
  have hwl := fun s => weeksFrom_ev 41 BC m (bndN m lo hi ss).1 (bndN m lo hi ss).2 (lowF m (bndN m lo hi ss).1) ⟨t, 1⟩ s hOK hS3 (by omega) hle fun w hw => (hv w hw).1.2.fits hTm (by decide)
  rw [v_eq] at hwf hwl
  simp only [] at hwf hwl
  apply zz
  refine Cd.ra (h := ?_)
  apply Run.by_eq
  · intro self
    conv => lhs; simp -implicitDefEqProofs (maxSteps := 300000) (disch := omega) [-getElem?_pos, -getElem?_neg]
  try (with_reducible refine Run.ret ?_)
  apply zz
  apply Cd.ite rfl
  · conv => lhs; simp -implicitDefEqProofs (maxSteps := 300000) (disch := omega) [-getElem?_pos, -getElem?_neg]
  all_goals intro c0
  all_goals try (cases c0; done)
  all_goals try simp only [Bool.not_eq_true', Bool.not_eq_false', decide_eq_true_eq, decide_eq_false_iff_not] at c0
  all_goals apply zz
  apply zz
  refine Cd.ra (h := ?_)
  apply Run.by_eq
  · intro self
    conv => lhs; simp -implicitDefEqProofs (maxSteps := 300000) (disch := omega) [-getElem?_pos, -getElem?_neg, hmn]
  try (with_reducible refine Run.ret ?_)
  apply zz
  refine Run.call ((whole_ev t _).mono fun v wx hv => ?_)
  obtain ⟨rfl, x⟩ := hv
  have xa := x.1
  have xb := x.2
  try simp only [pushed_next', upded_next'] at xa xb
  have x0 : wx.heap.get wy.next = some (.cells BC none) := by rw [xb _ (by omega)]; simp -implicitDefEqProofs (disch := omega)
  apply Run.by_eq
  · intro self
    conv => lhs; simp -implicitDefEqProofs (maxSteps := 300000) (disch := omega) [-getElem?_pos, -getElem?_neg, v_eq]
  try (with_reducible refine Run.ret ?_)
  apply zz
  refine Cd.drawn (pl := [(0, 0, false, false), (1, 0, false, false), (2, 2, false, false), (3, 0, false, false), (5, 0, false, false), (6, 0, false, false), (7, 64, false, false), (8, 0, false, false), (4, 15, true, false), (9, 511, true, false), (10, 1023, false, false), (11, 2047, false, false), (12, 4095, false, false)]) (by kernel_rfl) (by conv => lhs; simp only [List.map_cons, List.map_nil]) (by conv => lhs; simp [strip, ordered]) ?_
  apply Run.by_eq
  · intro self
    conv => lhs; simp -implicitDefEqProofs (maxSteps := 300000) (disch := omega) [filter_bt, (show ∀ i, Nat.testBit 15 i = decide (i < 4) from fun i => Nat.testBit_two_pow_sub_one 4 i), (show ∀ i, Nat.testBit 511 i = decide (i < 9) from fun i => Nat.testBit_two_pow_sub_one 9 i), -getElem?_pos, -getElem?_neg, x0, b1, b4, b5, b6]
  try (with_reducible refine Run.ret ?_)
  apply zz
  refine Run.call ((hwl _).mono fun v wz hv => ?_)
  obtain ⟨z, hz⟩ := hv
  have za := z.1
  have zb := z.2
  try simp only [pushed_next', upded_next'] at za zb
  have z0 : wz.heap.get wy.next = some (.cells BC none) := by rw [zb _ (by omega)]; simp -implicitDefEqProofs (disch := omega) [x0]
  have z1 : wz.heap.get wx.next = some (.cells [.int .i64 t, .int .i64 1] none) := by rw [zb _ (by omega)]; simp -implicitDefEqProofs (disch := omega)
  have hvv : veq 5 v v = true := veq_sl (k := 4) hz
  have ho1 : oneV v = true := by
    obtain ⟨a, c, rfl⟩ := hz.shape; rfl
  apply Run.by_eq
  · intro self
    conv => lhs; simp -implicitDefEqProofs (maxSteps := 300000) (disch := omega) [-getElem?_pos, -getElem?_neg, z0, z1, b1, b4, b5, b6, hvv]
  try (with_reducible refine Run.ret ?_)
  apply zz
  refine Run.call ((hwf _).mono fun v2 wu hv => ?_)
  obtain ⟨u, hu⟩ := hv
  have ua := u.1
  have ub := u.2
  have u0 := (ub _ (by omega)).trans z0
  have u1 := (ub _ (by omega)).trans z1
  have hvv2 : veq 5 v2 v2 = true := veq_sl (k := 4) hu
  have ho2 : oneV v2 = true := by
    obtain ⟨a, c, rfl⟩ := hu.shape; rfl
  apply Run.by_eq
  · intro self
    conv => lhs; simp -implicitDefEqProofs (maxSteps := 300000) (disch := omega) [-getElem?_pos, -getElem?_neg, u0, u1, b1, b4, b5, b6, hvv, hvv2]
  try (with_reducible refine Run.ret ?_)
  apply zz
  apply Leave.mk (by first | exact .inl rfl | exact .inr rfl) (by simp only [Fr.marks_put, fr0_marks])
  · conv => lhs; simp -implicitDefEqProofs (disch := omega) [Try.results26]
  exact ⟨⟨by (try simp only [pushed_next', upded_next']); omega, fun i hi => by simp -implicitDefEqProofs (disch := omega) [ub, zb, xb, yb]⟩, _, _, _, rfl, .inr (.inr ⟨h1, rfl, ⟨hz.keep u, hu⟩, hc⟩)⟩
end Go.Proofs.Ytnhokodcmeekhaa
namespace Go.Proofs.Ytnhokodcmeekhaa
open Go Kern
/-! The reference's peaks and ripe weeks -/
def topI (L' : Nat → Int) (m : Nat) : Int := ((List.range (m - 1)).map fun j => L' (j + 1)).foldl max (L' 0)
theorem above_eqv {T x y : Frac} (hx : 0 < x.u) (hy : 0 < y.u) (h : x.o * y.u = y.o * x.u) : aboveB T x = aboveB T y := by
  have key : ∀ {x y : Frac}, 0 < x.u → 0 < y.u → x.o * y.u = y.o * x.u → aboveB T x = true → aboveB T y = true := fun {x y} hx hy h ha => by
    rw [above_iff] at ha ⊢
    have h1 := Int.mul_lt_mul_of_pos_right ha hy
    have e1 : x.o * T.u * y.u = y.o * T.u * x.u := by
      rw [Int.mul_right_comm, h, Int.mul_right_comm]
    have e2 : T.o * x.u * y.u = T.o * y.u * x.u := by rw [Int.mul_right_comm]
    rw [e1, e2] at h1
    exact Int.lt_of_mul_lt_mul_right h1 (by omega)
  rw [Bool.eq_iff_iff]
  exact ⟨key hx hy h, key hy hx h.symm⟩
/-- The lows, as the reference has them. -/
abbrev LR (lo hi : Int) (ss : List SampD) : Nat → Int := fun w => (endN lo hi ss w).1
abbrev HR (lo hi : Int) (ss : List SampD) : Nat → Int := fun w => (endN lo hi ss w).2
theorem LF_ref {m : Nat} {lo hi : Int} {ss : List SampD} (h1 : fieldErr m lo hi ss = 0) {i : Nat} (h : i < m) : LF m lo hi ss i = wF (LR lo hi ss) i := (bnd_end h1 i h).1
theorem HF_ref {m : Nat} {lo hi : Int} {ss : List SampD} (h1 : fieldErr m lo hi ss = 0) {i : Nat} (h : i < m) : HF m lo hi ss i = wF (HR lo hi ss) i := (bnd_end h1 i h).2
theorem KnownA.ans {n lo hi : Int} {ss : List SampD} {w : Value} {e : Int} {s : St} (h : KnownA n lo hi ss w e s) : Ans n lo hi ss e True True ∧ oneV w = true := by
  rcases h with ⟨h1, h2, rfl⟩ | ⟨h1, h2, rfl, h3⟩ | ⟨h1, h2, h3, h4⟩
  · exact ⟨.inl ⟨h1, h2, trivial⟩, rfl⟩
  · exact ⟨.inr (.inl ⟨h1, h2, trivial, h3⟩), rfl⟩
  · obtain ⟨a, c, rfl⟩ := h3.shape
    exact ⟨.inr (.inr ⟨h1, h2, trivial, h4⟩), rfl⟩
end Go.Proofs.Ytnhokodcmeekhaa
namespace Go.Proofs.Ytnhokodcmeekhaa
open Go Kern
/-! Two lists that grow side by side -/
/-- Rows that are gathered, and the block in which they lie. -/
def OwnB (n N : Nat) (s : St) (w : Value) (l : List (List Value)) (b : Option Nat) : Prop :=
  (b = none ∧ l = [] ∧ w = .slice none 0 0) ∨ ∃ bb, b = some bb ∧ w = .slice (some ⟨bb, 0, none⟩) l.length l.length ∧ l ≠ [] ∧ N ≤ bb ∧ bb < s.next ∧ s.heap.get bb = some (.cells l.flatten (some n))
theorem OwnB.g {n N : Nat} {s : St} {w : Value} {l : List (List Value)} {b : Option Nat} (h : OwnB n N s w l b) : OwnG n N s w l := by
  rcases h with ⟨_, h⟩ | ⟨bb, _, h⟩
  · exact .inl h
  · exact .inr ⟨bb, h⟩
theorem OwnB.keep {n N : Nat} {s s' : St} {w : Value} {l : List (List Value)} {b : Option Nat} (h : OwnB n N s w l b) (h1 : s.next ≤ s'.next) (h2 : ∀ i, i < s.next → b = some i → s'.heap.get i = s.heap.get i) : OwnB n N s' w l b := by
  rcases h with h | ⟨bb, e, k1, k2, k3, k4, k5⟩
  · exact .inl h
  · exact .inr ⟨bb, e, k1, k2, k3, by omega, (h2 bb k4 e).trans k5⟩
theorem OwnB.keepK {n N : Nat} {s s' : St} {w : Value} {l : List (List Value)} {b : Option Nat} (h : OwnB n N s w l b) (k : Keep s s') : OwnB n N s' w l b := h.keep k.1 fun i hi _ => k.2 i hi
theorem OwnB.lt {n N : Nat} {s : St} {w : Value} {l : List (List Value)} {b : Option Nat} (h : OwnB n N s w l b) {i : Nat} (e : b = some i) : N ≤ i ∧ i < s.next := by
  rcases h with ⟨h, _⟩ | ⟨bb, e', _, _, k3, k4, _⟩
  · rw [e] at h; cases h
  · rw [e] at e'; cases e'; exact ⟨k3, k4⟩
end Go.Proofs.Ytnhokodcmeekhaa
namespace Go.Proofs.Ytnhokodcmeekhaa
open Go Kern
/-! Regrets -/
def minusF (x y : Frac) : Frac := ⟨x.o * y.u - y.o * x.u, x.u * y.u⟩
def raisedL (m : Nat) (L H : Nat → Frac) (o : Nat) : Nat → Frac := updF L o (upF m L H o)
def lossF (m : Nat) (L H : Nat → Frac) (w o : Nat) : Frac := minusF (upF m L H o) (lowF m (raisedL m L H o) w)
/-- The regret of a week. -/
def regF (m : Nat) (L H : Nat → Frac) (w : Nat) : Frac := foreF aboveB ⟨0, 1⟩ ((List.range m).map (lossF m L H w))
theorem minus_mid {x y : Frac} (hx : Mid 3600000 30 x) (hy : Mid 6480000000 27000 y) : Mid 291600000000 810000 (minusF x y) := by
  have p1 := mul_bd 3600000 27000 hx.1 (b := y.u) (by have := hy.2; omega)
  have p2 := mul_bd 6480000000 30 hy.1 (b := x.u) (by have := hx.2; omega)
  have p3 := mul_bd 30 27000 (a := x.u) (b := y.u) (by have := hx.2; omega) (by have := hy.2; omega)
  have hp := Int.mul_pos hx.2.1 hy.2.1
  unfold Mid minusF
  simp only []
  omega
set_option maxRecDepth 100000 in
set_option maxHeartbeats 1000000 in
theorem minus_ev (x y : Frac) (s : St) (hx : Mid 3600000 30 x) (hy : Mid 6480000000 27000 y) : Ev TT 82 [x.v, y.v] s fun r s' => r = (minusF x y).v ∧ Keep s s' := by
  have p1 := mul_bd 3600000 27000 hx.1 (b := y.u) (by have := hy.2; omega)
  have p2 := mul_bd 6480000000 30 hy.1 (b := x.u) (by have := hx.2; omega)
  have p3 := mul_bd 30 27000 (a := x.u) (b := y.u) (by have := hx.2; omega) (by have := hy.2; omega)
  unfold minusF Frac.v
  obtain ⟨a, b⟩ := x
  obtain ⟨c, d⟩ := y
  clear hx hy
  simp only [] at p1 p2 p3 ⊢
  generalize hX : a * d = X at *
  generalize hY : c * b = Y at *
  generalize hZ : b * d = Z at *
  refine Ev.intro (fn := Try.f82) rfl (by kernel_rfl) rfl rfl ?_
  apply zz
  refine Cd.ra (h := ?_)
  apply Run.by_eq
  · intro self
    conv => lhs; simp -implicitDefEqProofs (maxSteps := 300000) (disch := omega) [-getElem?_pos, -getElem?_neg]
  try (with_reducible refine Run.ret ?_)
  apply zz
  refine Cd.ra (h := ?_)
  apply Run.by_eq
  · intro self
    conv => lhs; simp -implicitDefEqProofs (maxSteps := 300000) (disch := omega) [-getElem?_pos, -getElem?_neg, hX, hY, hZ]
  try (with_reducible refine Run.ret ?_)
  apply zz
  apply Leave.mk (by first | exact .inl rfl | exact .inr rfl) (by simp only [Fr.marks_put, fr0_marks])
  · conv => lhs; simp -implicitDefEqProofs (disch := omega) [Try.results82]
  exact ⟨rfl, ⟨by (try simp only [pushed_next', upded_next']); omega, fun i hi => by simp -implicitDefEqProofs (disch := omega) []⟩⟩
set_option maxRecDepth 100000 in
set_option maxHeartbeats 4000000 in
theorem raised_ev (n w : Nat) (L H : Nat → Frac) (s : St) (hn : n ≤ 30) (hw : w < n) (hL : ∀ i, i < n → Mid 60000 1 (L i)) (hH : ∀ i, i < n → Mid 60000 1 (H i)) :
    Ev TT 80 [.agg (bcells n L H).toArray, .int .i64 w] s fun r s' => r = .agg (bcells n (raisedL n L H w) H).toArray ∧ Keep s s' := by
  have hmo := fun s => most_ev 60000 1 _ n L H w s (bOk n _ _) hn hw (by decide) (by decide) (by decide) (by decide) (by decide) hL hH
  have hput := put_lo n L H (show w < 30 by omega) (upF n L H w)
  have e : updF L w (upF n L H w) = raisedL n L H w := rfl
  rw [e] at hput
  have hOK := bOk n L H
  have hOK2 := bOk n (raisedL n L H w) H
  have b1 := takeL_len hOK.len
  have b2 := hOK.len
  have b3 := hOK.ones
  have b4 := hOK.same
  have c1 := takeL_len hOK2.len
  have c2 := hOK2.len
  have c3 := hOK2.ones
  have hov := ov_zero c2
  simp only [List.reduceReplicate] at hov
  have hw30 : w < 30 := by omega
  have hw30' : (w : Int) < 30 := by omega
  generalize bcells n L H = BC at *
  generalize bcells n (raisedL n L H w) H = BD at *
  generalize upF n L H w = X at *
  refine Ev.intro (fn := Try.f80) rfl (by kernel_rfl) rfl rfl ?_
  apply zz
  refine Cd.ra (h := ?_)
  apply Run.by_eq
  · intro self
    conv => lhs; simp -implicitDefEqProofs (maxSteps := 300000) (disch := omega) [-getElem?_pos, -getElem?_neg, b2, b3]
  try (with_reducible refine Run.ret ?_)
  apply zz
  refine Cd.ra (h := ?_)
  apply Run.by_eq
  · intro self
    conv => lhs; simp -implicitDefEqProofs (maxSteps := 300000) (disch := omega) [-getElem?_pos, -getElem?_neg, b1, b2, b3]
  try (with_reducible refine Run.ret ?_)
  apply zz
  refine Run.call ((hmo _).mono fun v wy hv => ?_)
  obtain ⟨rfl, y⟩ := hv
  have ya := y.1
  have yb := y.2
  try simp only [pushed_next', upded_next'] at ya yb
  have y0 : wy.heap.get s.next = some (.cells BC none) := by rw [yb _ (by omega)]; simp -implicitDefEqProofs (disch := omega)
  have y1 : wy.heap.get (s.next + 1) = some (.cells (.int .i64 0 :: List.replicate 120 (.int .i64 0)) none) := by rw [yb _ (by omega)]; simp -implicitDefEqProofs (disch := omega)
  apply Run.by_eq
  · intro self
    conv => lhs; simp -implicitDefEqProofs (maxSteps := 300000) (disch := omega) [-getElem?_pos, -getElem?_neg, v_eq, y0, hput, hw30, hw30']
  try (with_reducible refine Run.ret ?_)
  apply zz
  refine Cd.ra (h := ?_)
  apply Run.by_eq
  · intro self
    conv => lhs; simp -implicitDefEqProofs (maxSteps := 300000) (disch := omega) [-getElem?_pos, -getElem?_neg, c1, c2, c3, y1, hov]
  try (with_reducible refine Run.ret ?_)
  apply zz
  apply Leave.mk (by first | exact .inl rfl | exact .inr rfl) (by simp only [Fr.marks_put, fr0_marks, c1, c2, c3])
  · conv => lhs; simp -implicitDefEqProofs (disch := omega) [Try.results80, c1, c2, c3]
  exact ⟨rfl, ⟨by (try simp only [pushed_next', upded_next']); omega, fun i hi => by simp -implicitDefEqProofs (disch := omega) [yb]⟩⟩
@[simp] theorem newObj_135 {f : Fr} {pl0 : Array (Nat × Operand)} : Kern.newObj TT (.buildSlice 135 1 pl0) f = ob (fillL f.eval (placesA 121 pl0.toList) (repeatL zBC 1)) fun c => some (.cells c none) :=
  newObj_buildSlice 135 1 pl0 und_135 size_93 zero_93 rfl
theorem bc_len (n : Nat) (L : Nat → Nat → Frac) (H : Nat → Frac) (k : Nat) : ∀ y ∈ (List.range k).map (fun o => bcells n (L o) H), y.length = 121 := fun y hy => by
  obtain ⟨j, _, rfl⟩ := List.mem_map.1 hy; exact (bOk n (L j) H).len
set_option maxRecDepth 100000 in
set_option maxHeartbeats 4000000 in
theorem regrets_ev (n : Nat) (L H : Nat → Frac) (s : St) (hn : n ≤ 30) (hL : ∀ i, i < n → Mid 60000 1 (L i)) (hH : ∀ i, i < n → Mid 60000 1 (H i)) :
    Ev TT 64 [.agg (bcells n L H).toArray] s fun r s' => Keep s s' ∧ ∃ p v, r = .func (.func 81) #[] #[.pointer (some ⟨p, 0, none⟩)] ∧ s.next ≤ p ∧ p < s'.next ∧ s'.heap.get p = some (.cells [v] none) ∧ SlAt 121 s' v ((List.range n).map fun o => bcells n (raisedL n L H o) H) := by
  have hra := fun w s hw => raised_ev n w L H s hn hw hL hH
  have hOK := bOk n L H
  have b1 := takeL_len hOK.len
  have b2 := hOK.len
  have b3 := hOK.ones
  have b4 := hOK.same
  have hwk := hOK.wk
  generalize hBC : bcells n L H = BC at *
  refine Ev.intro (fn := Try.f64) rfl (by kernel_rfl) rfl rfl ?_
  apply zz
  refine Cd.ra (h := ?_)
  apply Run.by_eq
  · intro self
    conv => lhs; simp -implicitDefEqProofs (maxSteps := 300000) (disch := omega) [-getElem?_pos, -getElem?_neg, b2, b3]
  try (with_reducible refine Run.ret ?_)
  apply zz
  refine Cd.ra (h := ?_)
  apply Run.by_eq
  · intro self
    conv => lhs; simp -implicitDefEqProofs (maxSteps := 300000) (disch := omega) [-getElem?_pos, -getElem?_neg]
  try (with_reducible refine Run.ret ?_)
  apply zz
  refine Cd.ra (h := ?_)
  apply Run.by_eq
  · intro self
    conv => lhs; simp -implicitDefEqProofs (maxSteps := 300000) (disch := omega) [-getElem?_pos, -getElem?_neg, hwk]
  try (with_reducible refine Run.ret ?_)
  apply zz
  refine Cd.inv (fun z f s' => ∃ (k : Nat) (vv : Value), k ≤ n ∧ z = n - k ∧ f.marks = [] ∧ f.get 1 = .pointer (some ⟨s.next, 0, none⟩) ∧ f.get 3 = .pointer (some ⟨s.next + 1, 0, none⟩) ∧ f.get 6 = .int .i64 n ∧ f.get 7 = .int .i64 k ∧ Keep s s' ∧ s.next + 1 < s'.next ∧ s'.heap.get s.next = some (.cells BC none) ∧ s'.heap.get (s.next + 1) = some (.cells [vv] none) ∧ OwnG 121 (s.next + 1 + 1) s' vv ((List.range k).map fun o => bcells n (raisedL n L H o) H)) n ?_ ?_
  · exact ⟨0, .slice none 0 0, by omega, rfl, by simp, by simp, by simp, by simp, by simp, ⟨by (try simp only [pushed_next', upded_next']); omega, fun i hi => by simp -implicitDefEqProofs (disch := omega) []⟩, by simp, by simp -implicitDefEqProofs (disch := omega), by simp -implicitDefEqProofs (disch := omega), .inl ⟨rfl, rfl⟩⟩
  rintro z f s1 ⟨k, vv, hk, rfl, hm, g1, g3, g6, g7, hkp, hnx, hg0, hg1, hO⟩
  have hkpa := hkp.1
  have hkpb := hkp.2
  have hrows := bc_len n (raisedL n L H) H k
  by_cases hlt : k < n
  · have hlt' : (k : Int) < n := by omega
    have hrl : ((List.range k).map fun o => bcells n (raisedL n L H o) H).length = k := by simp
    have hrn : (List.range (k + 1)).map (fun o => bcells n (raisedL n L H o) H) = (List.range k).map (fun o => bcells n (raisedL n L H o) H) ++ [bcells n (raisedL n L H k) H] := by rw [List.range_succ, List.map_append]; rfl
    have hOK2 := bOk n (raisedL n L H k) H
    have c2 := hOK2.len
    have c3 := hOK2.ones
    have c4 := hOK2.same
    have hov := ov_zero c2
    simp only [List.reduceReplicate] at hov
    have hov2 : overL (bcells n (raisedL n L H k) H) zBC = some (bcells n (raisedL n L H k) H) := ov_zero c2
    have c5 := bc_same n (raisedL n L H k) H 4
    have hvs : veq 5 vv vv = true := veq_sl (k := 4) (hO.sl hrows)
    have ho1 : oneV vv = true := by rcases hO with ⟨_, rfl⟩ | ⟨_, rfl, _⟩ <;> rfl
    have hrk := fun s => hra k s hlt
    generalize bcells n (raisedL n L H k) H = BD at *
    generalize (List.range k).map (fun o => bcells n (raisedL n L H o) H) = rows at *
    apply zz
    refine Cd.ra (h := ?_)
    apply Run.by_eq
    · intro self
      conv => lhs; simp -implicitDefEqProofs (maxSteps := 300000) (disch := omega) [-getElem?_pos, -getElem?_neg, g7, g6, hlt']
    try (with_reducible refine Run.ret ?_)
    apply zz
    apply Cd.ite rfl
    · conv => lhs; simp -implicitDefEqProofs (maxSteps := 300000) (disch := omega) [-getElem?_pos, -getElem?_neg]
    all_goals intro c0
    all_goals try (cases c0; done)
    all_goals try simp only [Bool.not_eq_true', Bool.not_eq_false', decide_eq_true_eq, decide_eq_false_iff_not] at c0
    all_goals apply zz
    apply zz
    refine Cd.ra (h := ?_)
    apply Run.by_eq
    · intro self
      conv => lhs; simp -implicitDefEqProofs (maxSteps := 300000) (disch := omega) [-getElem?_pos, -getElem?_neg, g7]
    try (with_reducible refine Run.ret ?_)
    apply zz
    refine Cd.drawn (pl := [(0, 0, false, false), (1, 0, false, false), (2, 0, false, false), (3, 6, true, false), (4, 14, false, true), (5, 31, true, false), (6, 63, true, false)]) (by kernel_rfl) (by conv => lhs; simp only [List.map_cons, List.map_nil]) (by conv => lhs; simp [strip, ordered]) ?_
    apply Run.by_eq
    · intro self
      conv => lhs; simp -implicitDefEqProofs (maxSteps := 300000) (disch := omega) [filter_bt, (show Nat.testBit 6 0 = false from rfl), (show Nat.testBit 6 1 = true from rfl), (show Nat.testBit 6 2 = true from rfl), (show ∀ i, Nat.testBit 31 i = decide (i < 5) from fun i => Nat.testBit_two_pow_sub_one 5 i), (show ∀ i, Nat.testBit 63 i = decide (i < 6) from fun i => Nat.testBit_two_pow_sub_one 6 i), -getElem?_pos, -getElem?_neg, g1, g3, hg0, hg1, b1, b4, hvs]
    try (with_reducible refine Run.ret ?_)
    apply zz
    refine Run.call ((hrk _).mono fun v wy hv => ?_)
    obtain ⟨rfl, y⟩ := hv
    have ya := y.1
    have yb := y.2
    try simp only [pushed_next', upded_next'] at ya yb
    have y0 := (yb _ (by omega)).trans hg0
    have y1 := (yb _ (by omega)).trans hg1
    have kx2 : Keep s1 (wy.pushed (.cells BD none)) := Keep.pushed ⟨ya, yb⟩ _
    obtain ⟨s4, happ, hn4, hk4, hO4⟩ := app_one (n := 121) (b2 := wy.next) (x := BD) (g := none) (hO.keepK kx2) hrows c2 c3 (get_pushed_new _ _) (by (try simp only [pushed_next']); omega) (by omega)
    simp only [pushed_next', hrl] at happ hn4 hO4
    have z1 := (hk4 (s.next + 1) (by omega)).trans ((get_pushed_old _ _ _ (by omega)).trans y1)
    apply Run.by_eq
    · intro self
      conv => lhs; simp -implicitDefEqProofs (maxSteps := 300000) (disch := omega) [-getElem?_pos, -getElem?_neg, g1, g3, y0, y1, b1, b4, hvs, hov, hov2, c2, c3, c4, c5, happ, z1]
    try (with_reducible refine Run.ret ?_)
    apply zz
    refine Cd.ra (h := ?_)
    apply Run.by_eq
    · intro self
      conv => lhs; simp -implicitDefEqProofs (maxSteps := 300000) (disch := omega) [-getElem?_pos, -getElem?_neg, g7]
    try (with_reducible refine Run.ret ?_)
    apply zz
    refine LoopK.nm (n - (k + 1)) (by omega) ⟨k + 1, _, by omega, rfl, by simp [hm], by simp [g1], by simp [g3], by simp [g6], by simp, ⟨by (try simp only [upded_next']); omega, fun i hi => ?_⟩, by (try simp only [upded_next']); omega, ?_, get_upded_same _ _ _, ?_⟩
    · rw [get_upded_other _ _ _ _ (by omega), hk4 i (by omega), get_pushed_old _ _ _ (by omega), yb i (by omega)]; exact hkpb i hi
    · rw [get_upded_other _ _ _ _ (by omega), hk4 _ (by omega), get_pushed_old _ _ _ (by omega)]; exact y0
    · rw [hrn]
      exact hO4.keep (by (try simp only [upded_next']); omega) fun i h1 h2 => get_upded_other _ _ _ _ (by omega)
  · obtain rfl : k = n := by omega
    apply zz
    refine Cd.ra (h := ?_)
    apply Run.by_eq
    · intro self
      conv => lhs; simp -implicitDefEqProofs (maxSteps := 300000) (disch := omega) [-getElem?_pos, -getElem?_neg, g7, g6]
    try (with_reducible refine Run.ret ?_)
    apply zz
    apply Cd.ite rfl
    · conv => lhs; simp -implicitDefEqProofs (maxSteps := 300000) (disch := omega) [-getElem?_pos, -getElem?_neg]
    all_goals intro c0
    all_goals try (cases c0; done)
    all_goals try simp only [Bool.not_eq_true', Bool.not_eq_false', decide_eq_true_eq, decide_eq_false_iff_not] at c0
    all_goals apply zz
    apply zz
    refine Cd.ra (h := ?_)
    apply Run.by_eq
    · intro self
      conv => lhs; simp -implicitDefEqProofs (maxSteps := 300000) (disch := omega) [-getElem?_pos, -getElem?_neg, g3]
    try (with_reducible refine Run.ret ?_)
    apply zz
    apply Leave.mk (by first | exact .inl rfl | exact .inr rfl) (by simp only [Fr.marks_put, fr0_marks, hm])
    · conv => lhs; simp -implicitDefEqProofs (disch := omega) [Try.results64, hm]
    exact ⟨hkp, s.next + 1, vv, rfl, by omega, hnx, hg1, hO.sl hrows⟩
end Go.Proofs.Ytnhokodcmeekhaa
namespace Go.Proofs.Ytnhokodcmeekhaa
open Go Kern
/-! The regret of a week -/
theorem raised_mid {n : Nat} {L H : Nat → Frac} {o : Nat} (hn : n ≤ 30) (ho : o < n) (hL : ∀ i, i < n → Mid 60000 1 (L i)) (hH : ∀ i, i < n → Mid 60000 1 (H i)) : ∀ i, i < n → Mid 3600000 30 (raisedL n L H o i) := fun i hi => by
  unfold raisedL updF
  split
  · exact up_mid hn ho (by decide) (by decide) (by decide) hL hH
  · exact (hL i hi).mono (by decide) (by decide)
theorem loss_mid {n : Nat} {L H : Nat → Frac} {w o : Nat} (hn : n ≤ 30) (hw : w < n) (ho : o < n) (hL : ∀ i, i < n → Mid 60000 1 (L i)) (hH : ∀ i, i < n → Mid 60000 1 (H i)) : Mid 291600000000 810000 (lossF n L H w o) :=
  minus_mid (up_mid hn ho (by decide) (by decide) (by decide) hL hH) (low_mid hn hw (by decide) (by decide) (by decide) (raised_mid hn ho hL hH))
theorem reg_mid {n : Nat} {L H : Nat → Frac} {w : Nat} (hn : n ≤ 30) (hw : w < n) (hL : ∀ i, i < n → Mid 60000 1 (L i)) (hH : ∀ i, i < n → Mid 60000 1 (H i)) : Mid 291600000000 810000 (regF n L H w) ∧ 0 ≤ (regF n L H w).o := by
  have hm : ∀ x ∈ (List.range n).map (lossF n L H w), Mid 291600000000 810000 x := fun x hx => by
    obtain ⟨o, ho, rfl⟩ := List.mem_map.1 hx
    exact loss_mid hn hw (by simpa using ho) hL hH
  have h0 : Mid 291600000000 810000 (⟨0, 1⟩ : Frac) := by unfold Mid; simp only []; omega
  refine ⟨fore_mid h0 hm, ?_⟩
  have := (fore_max _ (⟨0, 1⟩ : Frac) (by decide) fun x hx => (hm x hx).2.1).2.1
  unfold LeF at this
  unfold regF
  simp only [] at this
  omega
set_option maxRecDepth 100000 in
set_option maxHeartbeats 4000000 in
theorem regretOf_ev (n w p : Nat) (L H : Nat → Frac) (v : Value) (s : St) (hn : n ≤ 30) (hw : w < n) (hL : ∀ i, i < n → Mid 60000 1 (L i)) (hH : ∀ i, i < n → Mid 60000 1 (H i)) (hp : p < s.next) (hg : s.heap.get p = some (.cells [v] none)) (hv : SlAt 121 s v ((List.range n).map fun o => bcells n (raisedL n L H o) H)) :
    Ev TT 81 [.int .i64 w, .pointer (some ⟨p, 0, none⟩)] s fun r s' => r = (regF n L H w).v ∧ Keep s s' := by
  obtain ⟨a, c, rfl⟩ := hv.shape
  rw [List.length_map, List.length_range] at hv hg
  have hmids : ∀ x ∈ (List.range n).map (lossF n L H w), Mid 291600000000 810000 x := fun x hx => by
    obtain ⟨o, ho, rfl⟩ := List.mem_map.1 hx
    exact loss_mid hn hw (by simpa using ho) hL hH
  have h0 : Mid 291600000000 810000 (⟨0, 1⟩ : Frac) := by unfold Mid; simp only []; omega
  refine Ev.intro (fn := Try.f81) rfl (by kernel_rfl) rfl rfl ?_
  apply zz
  refine Cd.ra (h := ?_)
  apply Run.by_eq
  · intro self
    conv => lhs; simp -implicitDefEqProofs (maxSteps := 300000) (disch := omega) [-getElem?_pos, -getElem?_neg]
  try (with_reducible refine Run.ret ?_)
  apply zz
  refine Cd.ra (h := ?_)
  apply Run.by_eq
  · intro self
    conv => lhs; simp -implicitDefEqProofs (maxSteps := 300000) (disch := omega) [-getElem?_pos, -getElem?_neg]
  try (with_reducible refine Run.ret ?_)
  apply zz
  refine Cd.ra (h := ?_)
  apply Run.by_eq
  · intro self
    conv => lhs; simp -implicitDefEqProofs (maxSteps := 300000) (disch := omega) [-getElem?_pos, -getElem?_neg, hg]
  try (with_reducible refine Run.ret ?_)
  apply zz
  refine Cd.inv (fun z f s' => ∃ k : Nat, k ≤ n ∧ z = n - k ∧ f.marks = [] ∧ f.get 0 = .int .i64 w ∧ f.get 3 = .pointer (some ⟨s.next, 0, none⟩) ∧ f.get 7 = .slice a n c ∧ f.get 8 = .int .i64 n ∧ f.get 9 = .int .i64 k ∧ Keep s s' ∧ s.next < s'.next ∧ s'.heap.get s.next = some (.cells [.int .i64 0, .int .i64 0] none) ∧ OwnG 2 (s.next + 1) s' (f.get 4) (((List.range k).map (lossF n L H w)).map Frac.cs)) n ?_ ?_
  · exact ⟨0, by omega, rfl, by simp, by simp, by simp, by simp, by simp, by simp, ⟨by (try simp only [pushed_next', upded_next']); omega, fun i hi => by simp -implicitDefEqProofs (disch := omega) []⟩, by simp, by simp -implicitDefEqProofs (disch := omega), .inl ⟨rfl, by simp⟩⟩
  rintro z f s1 ⟨k, hk, rfl, hm, g0, g3, g7, g8, g9, hkp, hnx, hg0, hO⟩
  have hkpa := hkp.1
  have hkpb := hkp.2
  have hrows := cs_len ((List.range k).map (lossF n L H w))
  have hvs : veq 5 (f.get 4) (f.get 4) = true := veq_sl (k := 4) (hO.sl hrows)
  have ho1 : oneV (f.get 4) = true := by rcases hO with ⟨_, e⟩ | ⟨_, e, _⟩ <;> rw [e] <;> rfl
  by_cases hlt : k < n
  · have hlt' : (k : Int) < n := by omega
    have hk30 : k < 30 := by omega
    have hk30' : (k : Int) < 30 := by omega
    have hrl : (((List.range k).map (lossF n L H w)).map Frac.cs).length = k := by simp
    have hrn : ((List.range (k + 1)).map (lossF n L H w)).map Frac.cs = ((List.range k).map (lossF n L H w)).map Frac.cs ++ [(lossF n L H w k).cs] := by rw [List.range_succ, List.map_append, List.map_append]; rfl
    have hat : ((List.range n).map fun o => bcells n (raisedL n L H o) H)[k]? = some (bcells n (raisedL n L H k) H) := by rw [List.getElem?_map, List.getElem?_range hlt]; rfl
    obtain ⟨b, off, o, cs, gg, rfl, hb, ho, hc, ht⟩ := SlAt.at (hv.keep hkp) hat
    have hOK2 := bOk n (raisedL n L H k) H
    have c1 := takeL_len hOK2.len
    have c2 := hOK2.len
    have c3 := hOK2.ones
    have c4 := hOK2.same
    have hov := ov_zero c2
    simp only [List.reduceReplicate] at hov
    have hup : raisedL n L H k k = upF n L H k := if_pos rfl
    have clo := hOK2.lo k hk30
    rw [hup] at clo
    have hle := fun s => least_ev 3600000 30 _ n (raisedL n L H k) H w s hOK2 hn hw (by decide) (by decide) (by decide) (by decide) (by decide) (raised_mid hn hlt hL hH)
    have hmi := fun s => minus_ev (upF n L H k) (lowF n (raisedL n L H k) w) s (up_mid hn hlt (by decide) (by decide) (by decide) hL hH) (low_mid hn hw (by decide) (by decide) (by decide) (raised_mid hn hlt hL hH))
    have hlo : minusF (upF n L H k) (lowF n (raisedL n L H k) w) = lossF n L H w k := rfl
    rw [hlo] at hmi
    generalize bcells n (raisedL n L H k) H = BD at *
    generalize lossF n L H w k = X at *
    generalize ((List.range k).map (lossF n L H w)).map Frac.cs = rows at *
    generalize lowF n (raisedL n L H k) w = Y at *
    generalize upF n L H k = U at *
    apply zz
    refine Cd.ra (h := ?_)
    apply Run.by_eq
    · intro self
      conv => lhs; simp -implicitDefEqProofs (maxSteps := 300000) (disch := omega) [-getElem?_pos, -getElem?_neg, g9, g8, hlt']
    try (with_reducible refine Run.ret ?_)
    apply zz
    apply Cd.ite rfl
    · conv => lhs; simp -implicitDefEqProofs (maxSteps := 300000) (disch := omega) [-getElem?_pos, -getElem?_neg]
    all_goals intro c0
    all_goals try (cases c0; done)
    all_goals try simp only [Bool.not_eq_true', Bool.not_eq_false', decide_eq_true_eq, decide_eq_false_iff_not] at c0
    all_goals apply zz
    apply zz
    refine Cd.ra (h := ?_)
    apply Run.by_eq
    · intro self
      conv => lhs; simp -implicitDefEqProofs (maxSteps := 300000) (disch := omega) [-getElem?_pos, -getElem?_neg, g7, g9, hlt, ho, hc, ht, c1, c2, c3, hov]
    try (with_reducible refine Run.ret ?_)
    apply zz
    refine Cd.drawn (pl := [(0, 0, false, false), (1, 0, false, false), (2, 0, false, false), (3, 6, false, false), (4, 14, false, false), (5, 0, false, false), (6, 0, false, false), (7, 96, true, false), (8, 254, true, false), (9, 510, false, true), (10, 1023, true, false), (11, 2047, false, false)]) (by kernel_rfl) (by conv => lhs; simp only [List.map_cons, List.map_nil]) (by conv => lhs; simp [strip, ordered]) ?_
    apply Run.by_eq
    · intro self
      conv => lhs; simp -implicitDefEqProofs (maxSteps := 300000) (disch := omega) [filter_bt, (show Nat.testBit 96 0 = false from rfl), (show Nat.testBit 96 1 = false from rfl), (show Nat.testBit 96 2 = false from rfl), (show Nat.testBit 96 3 = false from rfl), (show Nat.testBit 96 4 = false from rfl), (show Nat.testBit 96 5 = true from rfl), (show Nat.testBit 96 6 = true from rfl), (show Nat.testBit 254 0 = false from rfl), (show Nat.testBit 254 1 = true from rfl), (show Nat.testBit 254 2 = true from rfl), (show Nat.testBit 254 3 = true from rfl), (show Nat.testBit 254 4 = true from rfl), (show Nat.testBit 254 5 = true from rfl), (show Nat.testBit 254 6 = true from rfl), (show ∀ i, Nat.testBit 1023 i = decide (i < 10) from fun i => Nat.testBit_two_pow_sub_one 10 i), -getElem?_pos, -getElem?_neg, g0, g9, c1, c4, clo, hk30, hk30', hvs]
    try (with_reducible refine Run.ret ?_)
    apply zz
    refine Run.call ((hle _).mono fun v wy hv => ?_)
    obtain ⟨rfl, y⟩ := hv
    have ya := y.1
    have yb := y.2
    try simp only [pushed_next', upded_next'] at ya yb
    have y0 : wy.heap.get s1.next = some (.cells BD none) := by rw [yb _ (by (try simp only [pushed_next', upded_next']); omega)]; simp -implicitDefEqProofs (disch := omega)
    apply Run.by_eq
    · intro self
      conv => lhs; simp -implicitDefEqProofs (maxSteps := 300000) (disch := omega) [-getElem?_pos, -getElem?_neg, g0, g9, y0, c1, c4, clo, hk30, hk30', hvs]
    try (with_reducible refine Run.ret ?_)
    apply zz
    rw [← v_eq]
    refine Run.call ((hmi _).mono fun v wx hv => ?_)
    obtain ⟨rfl, x⟩ := hv
    have xa := x.1
    have xb := x.2
    try simp only [pushed_next', upded_next'] at xa xb
    have x0 := (xb _ (by omega)).trans y0
    have kx : Keep s1 wx := ⟨by (try simp only [pushed_next', upded_next'] at *); omega, fun i hi => by rw [xb i (by omega), yb i (by (try simp only [pushed_next', upded_next']); omega)]; simp -implicitDefEqProofs (disch := omega)⟩
    have kx2 : Keep s1 (wx.pushed (.cells [.int .i64 X.o, .int .i64 X.u] none)) := kx.pushed _
    obtain ⟨s4, happ, hn4, hk4, hO4⟩ := app_one (n := 2) (b2 := wx.next) (x := [.int .i64 X.o, .int .i64 X.u]) (g := none) (hO.keepK kx2) hrows rfl rfl (get_pushed_new _ _) (by have := kx.1; (try simp only [pushed_next']); omega) (by omega)
    simp only [pushed_next', hrl] at happ hn4 hO4
    apply Run.by_eq
    · intro self
      conv => lhs; simp -implicitDefEqProofs (maxSteps := 300000) (disch := omega) [-getElem?_pos, -getElem?_neg, v_eq, g0, g9, x0, c1, c4, clo, hk30, hk30', hvs, happ]
    try (with_reducible refine Run.ret ?_)
    apply zz
    refine Cd.ra (h := ?_)
    apply Run.by_eq
    · intro self
      conv => lhs; simp -implicitDefEqProofs (maxSteps := 300000) (disch := omega) [-getElem?_pos, -getElem?_neg, g9]
    try (with_reducible refine Run.ret ?_)
    apply zz
    refine LoopK.nm (n - (k + 1)) (by omega) ⟨k + 1, by omega, rfl, by simp [hm], by simp [g0], by simp [g3], by simp [g7], by simp [g8], by simp, ⟨by have := kx.1; omega, fun i hi => (hk4 i (by omega)).trans ((kx2.2 i (by omega)).trans (hkpb i hi))⟩, by have := kx.1; omega, (hk4 _ (by omega)).trans ((kx2.2 _ (by omega)).trans hg0), ?_⟩
    rw [hrn]; simpa [Frac.cs] using hO4
  · obtain rfl : k = n := by omega
    have hfr : FrAt s1 (f.get 4) ((List.range k).map (lossF k L H w)) := hO.sl hrows
    have hgr := fun s' (kk : Keep s1 s') => greatest_ev ⟨0, 1⟩ (f.get 4) _ s' (hfr.keep kk) (by simp; omega) fun x hx y hy => (hmids x hx).fits (by
      rcases hy with rfl | hy
      · exact h0
      · exact hmids y hy) (by decide)
    have hreg : foreF aboveB ⟨0, 1⟩ ((List.range k).map (lossF k L H w)) = regF k L H w := rfl
    rw [hreg] at hgr
    apply zz
    refine Cd.ra (h := ?_)
    apply Run.by_eq
    · intro self
      conv => lhs; simp -implicitDefEqProofs (maxSteps := 300000) (disch := omega) [-getElem?_pos, -getElem?_neg, g8, g9]
    try (with_reducible refine Run.ret ?_)
    apply zz
    apply Cd.ite rfl
    · conv => lhs; simp -implicitDefEqProofs (maxSteps := 300000) (disch := omega) [-getElem?_pos, -getElem?_neg]
    all_goals intro c0
    all_goals try (cases c0; done)
    all_goals try simp only [Bool.not_eq_true', Bool.not_eq_false', decide_eq_true_eq, decide_eq_false_iff_not] at c0
    all_goals apply zz
    apply zz
    refine Cd.ra (h := ?_)
    apply Run.by_eq
    · intro self
      conv => lhs; simp -implicitDefEqProofs (maxSteps := 300000) (disch := omega) [-getElem?_pos, -getElem?_neg]
    try (with_reducible refine Run.ret ?_)
    apply zz
    refine Run.call ((whole_ev 0 _).mono fun v wx hv => ?_)
    obtain ⟨rfl, x⟩ := hv
    have xa := x.1
    have xb := x.2
    try simp only [pushed_next', upded_next'] at xa xb
    apply Run.by_eq
    · intro self
      conv => lhs; simp -implicitDefEqProofs (maxSteps := 300000) (disch := omega) [-getElem?_pos, -getElem?_neg]
    try (with_reducible refine Run.ret ?_)
    apply zz
    refine Run.call ((hgr _ ⟨xa, xb⟩).mono fun v wy hv => ?_)
    obtain ⟨rfl, y⟩ := hv
    have ya := y.1
    have yb := y.2
    have y0 := (yb _ (by omega)).trans ((xb _ (by omega)).trans hg0)
    apply Run.by_eq
    · intro self
      conv => lhs; simp -implicitDefEqProofs (maxSteps := 300000) (disch := omega) [-getElem?_pos, -getElem?_neg, v_eq, g3, y0]
    try (with_reducible refine Run.ret ?_)
    apply zz
    apply Leave.mk (by first | exact .inl rfl | exact .inr rfl) (by simp only [Fr.marks_put, fr0_marks, hm, g3])
    · conv => lhs; simp -implicitDefEqProofs (disch := omega) [Try.results81, hm, g3]
    exact ⟨rfl, ⟨by (try simp only [pushed_next', upded_next']); omega, fun i hi => by simp -implicitDefEqProofs (disch := omega) [yb, xb, hkpb]⟩⟩
end Go.Proofs.Ytnhokodcmeekhaa
namespace Go.Proofs.Ytnhokodcmeekhaa
open Go Kern
/-! Regret and Cut -/
def RF (n lo hi : Int) (ss : List SampD) : Nat → Frac := regF n.toNat (LF n lo hi ss) (HF n lo hi ss)
def RegA (n lo hi : Int) (ss : List SampD) (week r e : Int) : Prop :=
  (fieldErr n lo hi ss ≠ 0 ∧ e = fieldErr n lo hi ss ∧ r = 0) ∨
  (fieldErr n lo hi ss = 0 ∧ e = 12 ∧ r = 0 ∧ ∃ i j k, i < n.toNat ∧ j < n.toNat ∧ k < n.toNat ∧ hB lo hi ss i j k = true) ∨
  (fieldErr n lo hi ss = 0 ∧ ((weekB n week = false ∧ e = 5 ∧ r = 0) ∨ (weekB n week = true ∧ e = 0 ∧ r = ceF (RF n lo hi ss week.toNat))) ∧ ∀ i j k, i < n.toNat → j < n.toNat → k < n.toNat → hB lo hi ss i j k = false)
set_option maxRecDepth 100000 in
set_option maxHeartbeats 4000000 in
theorem regret_ev (n lo hi week : Int) (v : Value) (ss : List SampD) (s : St) (hs : SmAt s v ss) (hl : ss.length ≤ 1000000) : Ev TT 29 [fieldV n lo hi v, .int .i64 week] s fun r s' => Keep s s' ∧ ∃ x e, r = .tuple #[.int .i64 x, .int .i64 e] ∧ RegA n lo hi ss week x e := by
  have hck := possible_ev n lo hi v ss
  have hwk := fun s => hasWeek_ev n lo hi week v s
  obtain ⟨a, c, rfl⟩ := hs.shape
  rw [List.length_map] at hs hck hwk ⊢
  unfold fieldV at hck hwk ⊢
  refine Ev.intro (fn := Try.f29) rfl (by kernel_rfl) rfl rfl ?_
  apply zz
  refine Cd.ra (h := ?_)
  apply Run.by_eq
  · intro self
    conv => lhs; simp -implicitDefEqProofs (maxSteps := 300000) (disch := omega) [-getElem?_pos, -getElem?_neg]
  try (with_reducible refine Run.ret ?_)
  apply zz
  refine Cd.ra (h := ?_)
  apply Run.by_eq
  · intro self
    conv => lhs; simp -implicitDefEqProofs (maxSteps := 300000) (disch := omega) [-getElem?_pos, -getElem?_neg]
  try (with_reducible refine Run.ret ?_)
  apply zz
  refine Run.call ((hck _ (hs.keep ⟨by (try simp only [pushed_next', upded_next']); omega, fun i hi => by simp -implicitDefEqProofs (disch := omega) []⟩) hl).mono fun v wy hv => ?_)
  obtain ⟨y, BC, e, rfl, b2, b3, b4, hP⟩ := hv
  have ya := y.1
  have yb := y.2
  have b1 := takeL_len b2
  try simp only [pushed_next', upded_next'] at ya yb
  have hov := ov_zero b2
  simp only [List.reduceReplicate] at hov
  have y0 : wy.heap.get s.next = some (.cells [.int .i64 n, .int .i64 lo, .int .i64 hi, .slice a ss.length c] none) := by rw [yb _ (by omega)]; simp -implicitDefEqProofs (disch := omega)
  have va : veq 4 (Value.slice a ss.length c) (Value.slice a ss.length c) = true := slAt_veq hs 3
  apply Run.by_eq
  · intro self
    conv => lhs; simp -implicitDefEqProofs (maxSteps := 300000) (disch := omega) [-getElem?_pos, -getElem?_neg, b1, b2, b3, hov]
  try (with_reducible refine Run.ret ?_)
  apply zz
  rcases hP with ⟨h1, rfl⟩ | ⟨h1, rfl, hc⟩ | ⟨h1, rfl, rfl, hc⟩
  · apply zz
    refine Cd.ra (h := ?_)
    apply Run.by_eq
    · intro self
      conv => lhs; simp -implicitDefEqProofs (maxSteps := 300000) (disch := omega) [-getElem?_pos, -getElem?_neg, h1]
    try (with_reducible refine Run.ret ?_)
    apply zz
    apply Cd.ite rfl
    · conv => lhs; simp -implicitDefEqProofs (maxSteps := 300000) (disch := omega) [-getElem?_pos, -getElem?_neg]
    all_goals intro c0
    all_goals try (cases c0; done)
    all_goals try simp only [Bool.not_eq_true', Bool.not_eq_false', decide_eq_true_eq, decide_eq_false_iff_not] at c0
    all_goals apply zz
    apply zz
    refine Cd.ra (h := ?_)
    apply Run.by_eq
    · intro self
      conv => lhs; simp -implicitDefEqProofs (maxSteps := 300000) (disch := omega) [-getElem?_pos, -getElem?_neg]
    try (with_reducible refine Run.ret ?_)
    apply zz
    apply Leave.mk (by first | exact .inl rfl | exact .inr rfl) (by simp only [Fr.marks_put, fr0_marks])
    · conv => lhs; simp -implicitDefEqProofs (disch := omega) [Try.results29]
    exact ⟨⟨by (try simp only [pushed_next', upded_next']); omega, fun i hi => by simp -implicitDefEqProofs (disch := omega) [yb]⟩, _, _, rfl, .inl ⟨h1, rfl, rfl⟩⟩
  · apply zz
    refine Cd.ra (h := ?_)
    apply Run.by_eq
    · intro self
      conv => lhs; simp -implicitDefEqProofs (maxSteps := 300000) (disch := omega) [-getElem?_pos, -getElem?_neg]
    try (with_reducible refine Run.ret ?_)
    apply zz
    apply Cd.ite rfl
    · conv => lhs; simp -implicitDefEqProofs (maxSteps := 300000) (disch := omega) [-getElem?_pos, -getElem?_neg]
    all_goals intro c0
    all_goals try (cases c0; done)
    all_goals try simp only [Bool.not_eq_true', Bool.not_eq_false', decide_eq_true_eq, decide_eq_false_iff_not] at c0
    all_goals apply zz
    apply zz
    refine Cd.ra (h := ?_)
    apply Run.by_eq
    · intro self
      conv => lhs; simp -implicitDefEqProofs (maxSteps := 300000) (disch := omega) [-getElem?_pos, -getElem?_neg]
    try (with_reducible refine Run.ret ?_)
    apply zz
    apply Leave.mk (by first | exact .inl rfl | exact .inr rfl) (by simp only [Fr.marks_put, fr0_marks])
    · conv => lhs; simp -implicitDefEqProofs (disch := omega) [Try.results29]
    exact ⟨⟨by (try simp only [pushed_next', upded_next']); omega, fun i hi => by simp -implicitDefEqProofs (disch := omega) [yb]⟩, _, _, rfl, .inr (.inl ⟨h1, rfl, rfl, hc⟩)⟩
  have hok := (fieldErr_ok h1).1
  obtain ⟨m, rfl⟩ : ∃ m : Nat, n = m := ⟨n.toNat, by omega⟩
  simp only [Int.toNat_natCast] at hc b1 b2 b3 b4 hov ⊢
  obtain ⟨hm, hb⟩ := base_ok h1
  have hL : ∀ i, i < m → Mid 60000 1 (LF m lo hi ss i) := fun i hi => (hb i hi).1.mid
  have hH : ∀ i, i < m → Mid 60000 1 (HF m lo hi ss i) := fun i hi => (hb i hi).2.1.mid
  have hrg := fun s => regrets_ev m (LF m lo hi ss) (HF m lo hi ss) s (by omega) hL hH
  have hOf := fun w p v s hw => regretOf_ev m w p (LF m lo hi ss) (HF m lo hi ss) v s (by omega) hw hL hH
  have hmr := fun w (hw : w < m) => reg_mid (n := m) (L := LF m lo hi ss) (H := HF m lo hi ss) (by omega) hw hL hH
  have hRF : ∀ w, regF m (LF m lo hi ss) (HF m lo hi ss) w = RF m lo hi ss w := fun w => rfl
  change ∀ s, Ev TT 64 [.agg (bcells m (bndN m lo hi ss).1 (bndN m lo hi ss).2).toArray] s _ at hrg
  generalize bcells m (bndN m lo hi ss).1 (bndN m lo hi ss).2 = BC at *
  apply zz
  refine Cd.ra (h := ?_)
  apply Run.by_eq
  · intro self
    conv => lhs; simp -implicitDefEqProofs (maxSteps := 300000) (disch := omega) [-getElem?_pos, -getElem?_neg]
  try (with_reducible refine Run.ret ?_)
  apply zz
  apply Cd.ite rfl
  · conv => lhs; simp -implicitDefEqProofs (maxSteps := 300000) (disch := omega) [-getElem?_pos, -getElem?_neg]
  all_goals intro c0
  all_goals try (cases c0; done)
  all_goals try simp only [Bool.not_eq_true', Bool.not_eq_false', decide_eq_true_eq, decide_eq_false_iff_not] at c0
  all_goals apply zz
  apply zz
  refine Cd.ra (h := ?_)
  apply Run.by_eq
  · intro self
    conv => lhs; simp -implicitDefEqProofs (maxSteps := 300000) (disch := omega) [-getElem?_pos, -getElem?_neg, y0, va]
  try (with_reducible refine Run.ret ?_)
  apply zz
  refine Run.call ((hwk _).mono fun v wx hv => ?_)
  obtain ⟨rfl, x⟩ := hv
  have xa := x.1
  have xb := x.2
  try simp only [pushed_next', upded_next'] at xa xb
  have x0 : wx.heap.get wy.next = some (.cells BC none) := by rw [xb _ (by omega)]; simp -implicitDefEqProofs (disch := omega)
  cases hwb : weekB m week with
  | false =>
    apply Run.by_eq
    · intro self
      conv => lhs; simp -implicitDefEqProofs (maxSteps := 300000) (disch := omega) [-getElem?_pos, -getElem?_neg]
    try (with_reducible refine Run.ret ?_)
    apply zz
    apply Cd.ite rfl
    · conv => lhs; simp -implicitDefEqProofs (maxSteps := 300000) (disch := omega) [-getElem?_pos, -getElem?_neg]
    all_goals intro c1
    all_goals try (cases c1; done)
    all_goals try simp only [Bool.not_eq_true', Bool.not_eq_false', decide_eq_true_eq, decide_eq_false_iff_not] at c1
    all_goals apply zz
    apply zz
    refine Cd.ra (h := ?_)
    apply Run.by_eq
    · intro self
      conv => lhs; simp -implicitDefEqProofs (maxSteps := 300000) (disch := omega) [-getElem?_pos, -getElem?_neg]
    try (with_reducible refine Run.ret ?_)
    apply zz
    apply Leave.mk (by first | exact .inl rfl | exact .inr rfl) (by simp only [Fr.marks_put, fr0_marks])
    · conv => lhs; simp -implicitDefEqProofs (disch := omega) [Try.results29]
    exact ⟨⟨by (try simp only [pushed_next', upded_next']); omega, fun i hi => by simp -implicitDefEqProofs (disch := omega) [xb, yb]⟩, _, _, rfl, .inr (.inr ⟨h1, .inl ⟨hwb, rfl, rfl⟩, hc⟩)⟩
  | true =>
    have hw2 := weekB_ok hwb
    obtain ⟨w, rfl⟩ : ∃ w : Nat, week = w := ⟨week.toNat, by omega⟩
    have hwm : w < m := by omega
    have hmw := hmr w hwm
    have hOw := fun p v s => hOf w p v s hwm
    rw [hRF] at hmw
    simp only [hRF] at hOw
    unfold Mid at hmw
    apply Run.by_eq
    · intro self
      conv => lhs; simp -implicitDefEqProofs (maxSteps := 300000) (disch := omega) [-getElem?_pos, -getElem?_neg]
    try (with_reducible refine Run.ret ?_)
    apply zz
    apply Cd.ite rfl
    · conv => lhs; simp -implicitDefEqProofs (maxSteps := 300000) (disch := omega) [-getElem?_pos, -getElem?_neg]
    all_goals intro c1
    all_goals try (cases c1; done)
    all_goals try simp only [Bool.not_eq_true', Bool.not_eq_false', decide_eq_true_eq, decide_eq_false_iff_not] at c1
    all_goals apply zz
    apply zz
    refine Cd.ra (h := ?_)
    apply Run.by_eq
    · intro self
      conv => lhs; simp -implicitDefEqProofs (maxSteps := 300000) (disch := omega) [-getElem?_pos, -getElem?_neg, x0, b1, b2, b3]
    try (with_reducible refine Run.ret ?_)
    apply zz
    refine Run.call ((hrg _).mono fun v wz hv => ?_)
    obtain ⟨z, p, vv, rfl, hp1, hp2, hp3, hp4⟩ := hv
    have za := z.1
    have zb := z.2
    apply Run.by_eq
    · intro self
      conv => lhs; simp -implicitDefEqProofs (maxSteps := 300000) (disch := omega) [-getElem?_pos, -getElem?_neg]
    try (with_reducible refine Run.ret ?_)
    apply zz
    refine Cd.ra (h := ?_)
    apply Run.by_eq
    · intro self
      conv => lhs; simp -implicitDefEqProofs (maxSteps := 300000) (disch := omega) [-getElem?_pos, -getElem?_neg]
    try (with_reducible refine Run.ret ?_)
    apply zz
    refine Run.call ((hOw p vv _ hp2 hp3 hp4).mono fun v wu hv => ?_)
    obtain ⟨rfl, u⟩ := hv
    have ua := u.1
    have ub := u.2
    apply Run.by_eq
    · intro self
      conv => lhs; simp -implicitDefEqProofs (maxSteps := 300000) (disch := omega) [-getElem?_pos, -getElem?_neg]
    try (with_reducible refine Run.ret ?_)
    apply zz
    refine Run.call ((up_ev (RF m lo hi ss w) _ hmw.2 hmw.1.2.1 (by omega) (by omega)).mono fun v wt hv => ?_)
    obtain ⟨rfl, t⟩ := hv
    have ta := t.1
    have tb := t.2
    try simp only [pushed_next', upded_next'] at ta tb
    apply Run.by_eq
    · intro self
      conv => lhs; simp -implicitDefEqProofs (maxSteps := 300000) (disch := omega) [-getElem?_pos, -getElem?_neg]
    try (with_reducible refine Run.ret ?_)
    apply zz
    apply Leave.mk (by first | exact .inl rfl | exact .inr rfl) (by simp only [Fr.marks_put, fr0_marks])
    · conv => lhs; simp -implicitDefEqProofs (disch := omega) [Try.results29]
    exact ⟨⟨by (try simp only [pushed_next', upded_next']); omega, fun i hi => by simp -implicitDefEqProofs (disch := omega) [tb, ub, zb, xb, yb]⟩, _, _, rfl, .inr (.inr ⟨h1, .inr ⟨hwb, rfl, by rw [Int.toNat_natCast]⟩, hc⟩)⟩
def bestI (R : Nat → Frac) : Nat → Nat
  | 0 => 0
  | k + 1 => if aboveB (R (bestI R k)) (R (k + 1)) = true then k + 1 else bestI R k
theorem bestI_le (R : Nat → Frac) : ∀ k, bestI R k ≤ k
  | 0 => Nat.le_refl _
  | k + 1 => by
    unfold bestI
    split
    · exact Nat.le_refl _
    · have := bestI_le R k; omega
set_option maxRecDepth 100000 in
set_option maxHeartbeats 4000000 in
theorem cut_ev (n lo hi : Int) (v : Value) (ss : List SampD) (s : St) (hs : SmAt s v ss) (hl : ss.length ≤ 1000000) : Ev TT 31 [fieldV n lo hi v] s fun r s' => Keep s s' ∧ ∃ w x e, r = .tuple #[.int .i64 w, .int .i64 x, .int .i64 e] ∧ Ans n lo hi ss e (w = 0 ∧ x = 0) (w = (bestI (RF n lo hi ss) (n.toNat - 1) : Nat) ∧ x = ceF (RF n lo hi ss (bestI (RF n lo hi ss) (n.toNat - 1)))) := by
  have hck := possible_ev n lo hi v ss
  obtain ⟨a, c, rfl⟩ := hs.shape
  rw [List.length_map] at hs hck ⊢
  unfold fieldV at hck ⊢
  refine Ev.intro (fn := Try.f31) rfl (by kernel_rfl) rfl rfl ?_
  apply zz
  refine Cd.ra (h := ?_)
  apply Run.by_eq
  · intro self
    conv => lhs; simp -implicitDefEqProofs (maxSteps := 300000) (disch := omega) [-getElem?_pos, -getElem?_neg]
  try (with_reducible refine Run.ret ?_)
  apply zz
  refine Cd.ra (h := ?_)
  apply Run.by_eq
  · intro self
    conv => lhs; simp -implicitDefEqProofs (maxSteps := 300000) (disch := omega) [-getElem?_pos, -getElem?_neg]
  try (with_reducible refine Run.ret ?_)
  apply zz
  refine Run.call ((hck _ (hs.keep ⟨by (try simp only [pushed_next', upded_next']); omega, fun i hi => by simp -implicitDefEqProofs (disch := omega) []⟩) hl).mono fun v wy hv => ?_)
  obtain ⟨y, BC, e, rfl, b2, b3, b4, hP⟩ := hv
  have ya := y.1
  have yb := y.2
  have b1 := takeL_len b2
  try simp only [pushed_next', upded_next'] at ya yb
  have hov := ov_zero b2
  simp only [List.reduceReplicate] at hov
  apply Run.by_eq
  · intro self
    conv => lhs; simp -implicitDefEqProofs (maxSteps := 300000) (disch := omega) [-getElem?_pos, -getElem?_neg, b1, b2, b3, hov]
  try (with_reducible refine Run.ret ?_)
  apply zz
  rcases hP with ⟨h1, rfl⟩ | ⟨h1, rfl, hc⟩ | ⟨h1, rfl, rfl, hc⟩
  · apply zz
    refine Cd.ra (h := ?_)
    apply Run.by_eq
    · intro self
      conv => lhs; simp -implicitDefEqProofs (maxSteps := 300000) (disch := omega) [-getElem?_pos, -getElem?_neg, h1]
    try (with_reducible refine Run.ret ?_)
    apply zz
    apply Cd.ite rfl
    · conv => lhs; simp -implicitDefEqProofs (maxSteps := 300000) (disch := omega) [-getElem?_pos, -getElem?_neg]
    all_goals intro c0
    all_goals try (cases c0; done)
    all_goals try simp only [Bool.not_eq_true', Bool.not_eq_false', decide_eq_true_eq, decide_eq_false_iff_not] at c0
    all_goals apply zz
    apply zz
    refine Cd.ra (h := ?_)
    apply Run.by_eq
    · intro self
      conv => lhs; simp -implicitDefEqProofs (maxSteps := 300000) (disch := omega) [-getElem?_pos, -getElem?_neg]
    try (with_reducible refine Run.ret ?_)
    apply zz
    apply Leave.mk (by first | exact .inl rfl | exact .inr rfl) (by simp only [Fr.marks_put, fr0_marks])
    · conv => lhs; simp -implicitDefEqProofs (disch := omega) [Try.results31]
    exact ⟨⟨by (try simp only [pushed_next', upded_next']); omega, fun i hi => by simp -implicitDefEqProofs (disch := omega) [yb]⟩, _, _, _, rfl, .inl ⟨h1, rfl, rfl, rfl⟩⟩
  · apply zz
    refine Cd.ra (h := ?_)
    apply Run.by_eq
    · intro self
      conv => lhs; simp -implicitDefEqProofs (maxSteps := 300000) (disch := omega) [-getElem?_pos, -getElem?_neg]
    try (with_reducible refine Run.ret ?_)
    apply zz
    apply Cd.ite rfl
    · conv => lhs; simp -implicitDefEqProofs (maxSteps := 300000) (disch := omega) [-getElem?_pos, -getElem?_neg]
    all_goals intro c0
    all_goals try (cases c0; done)
    all_goals try simp only [Bool.not_eq_true', Bool.not_eq_false', decide_eq_true_eq, decide_eq_false_iff_not] at c0
    all_goals apply zz
    apply zz
    refine Cd.ra (h := ?_)
    apply Run.by_eq
    · intro self
      conv => lhs; simp -implicitDefEqProofs (maxSteps := 300000) (disch := omega) [-getElem?_pos, -getElem?_neg]
    try (with_reducible refine Run.ret ?_)
    apply zz
    apply Leave.mk (by first | exact .inl rfl | exact .inr rfl) (by simp only [Fr.marks_put, fr0_marks])
    · conv => lhs; simp -implicitDefEqProofs (disch := omega) [Try.results31]
    exact ⟨⟨by (try simp only [pushed_next', upded_next']); omega, fun i hi => by simp -implicitDefEqProofs (disch := omega) [yb]⟩, _, _, _, rfl, .inr (.inl ⟨h1, rfl, ⟨rfl, rfl⟩, hc⟩)⟩
  have hok := (fieldErr_ok h1).1
  obtain ⟨m, rfl⟩ : ∃ m : Nat, n = m := ⟨n.toNat, by omega⟩
  simp only [Int.toNat_natCast] at hc b1 b2 b3 b4 hov ⊢
  obtain ⟨hm, hb⟩ := base_ok h1
  have hL : ∀ i, i < m → Mid 60000 1 (LF m lo hi ss i) := fun i hi => (hb i hi).1.mid
  have hH : ∀ i, i < m → Mid 60000 1 (HF m lo hi ss i) := fun i hi => (hb i hi).2.1.mid
  have hrg := fun s => regrets_ev m (LF m lo hi ss) (HF m lo hi ss) s (by omega) hL hH
  have hOf := fun w p v s hw => regretOf_ev m w p (LF m lo hi ss) (HF m lo hi ss) v s (by omega) hw hL hH
  have hmr := fun w (hw : w < m) => reg_mid (n := m) (L := LF m lo hi ss) (H := HF m lo hi ss) (by omega) hw hL hH
  have hwk := (bOk m (bndN m lo hi ss).1 (bndN m lo hi ss).2).wk
  have hRF : regF m (LF m lo hi ss) (HF m lo hi ss) = RF m lo hi ss := rfl
  change ∀ s, Ev TT 64 [.agg (bcells m (bndN m lo hi ss).1 (bndN m lo hi ss).2).toArray] s _ at hrg
  rw [hRF] at hmr
  simp only [hRF] at hOf
  generalize hR : RF m lo hi ss = R at *
  generalize bcells m (bndN m lo hi ss).1 (bndN m lo hi ss).2 = BC at *
  apply zz
  refine Cd.ra (h := ?_)
  apply Run.by_eq
  · intro self
    conv => lhs; simp -implicitDefEqProofs (maxSteps := 300000) (disch := omega) [-getElem?_pos, -getElem?_neg]
  try (with_reducible refine Run.ret ?_)
  apply zz
  apply Cd.ite rfl
  · conv => lhs; simp -implicitDefEqProofs (maxSteps := 300000) (disch := omega) [-getElem?_pos, -getElem?_neg]
  all_goals intro c0
  all_goals try (cases c0; done)
  all_goals try simp only [Bool.not_eq_true', Bool.not_eq_false', decide_eq_true_eq, decide_eq_false_iff_not] at c0
  all_goals apply zz
  apply zz
  refine Cd.ra (h := ?_)
  apply Run.by_eq
  · intro self
    conv => lhs; simp -implicitDefEqProofs (maxSteps := 300000) (disch := omega) [-getElem?_pos, -getElem?_neg, b1, b2, b3]
  try (with_reducible refine Run.ret ?_)
  apply zz
  refine Run.call ((hrg _).mono fun v wz hv => ?_)
  obtain ⟨z, p, vv, rfl, hp1, hp2, hp3, hp4⟩ := hv
  have za := z.1
  have zb := z.2
  try simp only [pushed_next', upded_next'] at za zb hp1
  have z0 : wz.heap.get wy.next = some (.cells BC none) := by rw [zb _ (by omega)]; simp -implicitDefEqProofs (disch := omega)
  apply Run.by_eq
  · intro self
    conv => lhs; simp -implicitDefEqProofs (maxSteps := 300000) (disch := omega) [-getElem?_pos, -getElem?_neg]
  try (with_reducible refine Run.ret ?_)
  apply zz
  refine Cd.ra (h := ?_)
  apply Run.by_eq
  · intro self
    conv => lhs; simp -implicitDefEqProofs (maxSteps := 300000) (disch := omega) [-getElem?_pos, -getElem?_neg]
  try (with_reducible refine Run.ret ?_)
  apply zz
  refine Run.call ((hOf 0 p vv _ (by omega) hp2 hp3 hp4).mono fun v wu hv => ?_)
  obtain ⟨rfl, u⟩ := hv
  have ua := u.1
  have ub := u.2
  have u0 := (ub _ (by omega)).trans z0
  apply Run.by_eq
  · intro self
    conv => lhs; simp -implicitDefEqProofs (maxSteps := 300000) (disch := omega) [-getElem?_pos, -getElem?_neg, v_eq]
  try (with_reducible refine Run.ret ?_)
  apply zz
  refine Cd.ra (h := ?_)
  apply Run.by_eq
  · intro self
    conv => lhs; simp -implicitDefEqProofs (maxSteps := 300000) (disch := omega) [-getElem?_pos, -getElem?_neg]
  try (with_reducible refine Run.ret ?_)
  apply zz
  refine Cd.inv (fun z f s' => ∃ k : Nat, k + 1 ≤ m ∧ z = m - (k + 1) ∧ f.marks = [] ∧ f.get 2 = .int .i64 (bestI R k : Nat) ∧ f.get 5 = .pointer (some ⟨wy.next, 0, none⟩) ∧ f.get 6 = .func (.func 81) #[] #[.pointer (some ⟨p, 0, none⟩)] ∧ f.get 7 = .pointer (some ⟨wu.next, 0, none⟩) ∧ f.get 8 = .int .i64 (k + 1 : Nat) ∧ Keep wu s' ∧ wu.next < s'.next ∧ s'.heap.get wu.next = some (.cells [.int .i64 (R (bestI R k)).o, .int .i64 (R (bestI R k)).u] none)) (m - 1) ?_ ?_
  · exact ⟨0, by omega, rfl, by simp, by simp [bestI], by simp, by simp, by simp, by simp, ⟨by (try simp only [pushed_next', upded_next']); omega, fun i hi => by simp -implicitDefEqProofs (disch := omega) []⟩, by simp, by simp -implicitDefEqProofs (disch := omega) [bestI]⟩
  rintro zz0 f s1 ⟨k, hk, rfl, hmk, g2, g5, g6, g7, g8, hkp, hnx, hg⟩
  have hkpa := hkp.1
  have hkpb := hkp.2
  have hg0 := (hkpb _ (by omega)).trans u0
  have hbl := bestI_le R k
  have hmb := hmr (bestI R k) (by omega)
  by_cases hlt : k + 1 < m
  · have hst : bestI R (k + 1) = if aboveB (R (bestI R k)) (R (k + 1)) = true then k + 1 else bestI R k := rfl
    have hmk1 := hmr (k + 1) hlt
    have hOk := fun s' => hOf (k + 1) p vv s' hlt
    have hfit := hmk1.1.fits hmb.1 (by decide)
    generalize hK : k + 1 = k1 at *
    have hlt' : (k1 : Int) < m := by omega
    apply zz
    refine Cd.ra (h := ?_)
    apply Run.by_eq
    · intro self
      conv => lhs; simp -implicitDefEqProofs (maxSteps := 300000) (disch := omega) [-getElem?_pos, -getElem?_neg, g8, g5, hg0, hwk, hlt']
    try (with_reducible refine Run.ret ?_)
    apply zz
    apply Cd.ite rfl
    · conv => lhs; simp -implicitDefEqProofs (maxSteps := 300000) (disch := omega) [-getElem?_pos, -getElem?_neg]
    all_goals intro c1
    all_goals try (cases c1; done)
    all_goals try simp only [Bool.not_eq_true', Bool.not_eq_false', decide_eq_true_eq, decide_eq_false_iff_not] at c1
    all_goals apply zz
    apply zz
    refine Cd.ra (h := ?_)
    apply Run.by_eq
    · intro self
      conv => lhs; simp -implicitDefEqProofs (maxSteps := 300000) (disch := omega) [-getElem?_pos, -getElem?_neg, g6, g8]
    try (with_reducible refine Run.ret ?_)
    apply zz
    refine Run.call ((hOk _ (by omega) ((hkpb _ (by omega)).trans ((ub _ hp2).trans hp3)) (hp4.keep (u.trans hkp))).mono fun v wx hv => ?_)
    obtain ⟨rfl, x⟩ := hv
    have xa := x.1
    have xb := x.2
    have x1 := (xb _ hnx).trans hg
    apply Run.by_eq
    · intro self
      conv => lhs; simp -implicitDefEqProofs (maxSteps := 300000) (disch := omega) [-getElem?_pos, -getElem?_neg, v_eq]
    try (with_reducible refine Run.ret ?_)
    apply zz
    refine Cd.ra (h := ?_)
    apply Run.by_eq
    · intro self
      conv => lhs; simp -implicitDefEqProofs (maxSteps := 300000) (disch := omega) [-getElem?_pos, -getElem?_neg, g7, x1]
    try (with_reducible refine Run.ret ?_)
    apply zz
    rw [← v_eq, ← v_eq]
    refine Run.call ((below_ev (R k1) (R (bestI R k)) _ hfit).mono fun v wt hv => ?_)
    obtain ⟨rfl, t⟩ := hv
    have ta := t.1
    have tb := t.2
    try simp only [pushed_next', upded_next'] at ta tb
    have t1 : wt.heap.get wu.next = some (.cells [.int .i64 (R (bestI R k)).o, .int .i64 (R (bestI R k)).u] none) := by rw [tb _ (by (try simp only [pushed_next', upded_next']); omega)]; simp -implicitDefEqProofs (disch := omega) [x1]
    have t2 : wt.heap.get wx.next = some (.cells [.int .i64 (R k1).o, .int .i64 (R k1).u] none) := by rw [tb _ (by (try simp only [pushed_next', upded_next']); omega)]; simp -implicitDefEqProofs (disch := omega)
    have kt : Keep wu wt := ⟨by (try simp only [pushed_next', upded_next'] at *); omega, fun i hi => by rw [tb i (by (try simp only [pushed_next', upded_next']); omega)]; simp -implicitDefEqProofs (disch := omega) [xb, hkpb]⟩
    have ktn : wx.next + 1 ≤ wt.next := by (try simp only [pushed_next', upded_next'] at *); omega
    cases hab : aboveB (R (bestI R k)) (R k1) with
    | true =>
      rw [hab, if_pos rfl] at hst
      apply Run.by_eq
      · intro self
        conv => lhs; simp -implicitDefEqProofs (maxSteps := 300000) (disch := omega) [-getElem?_pos, -getElem?_neg]
      try (with_reducible refine Run.ret ?_)
      apply zz
      apply Cd.ite rfl
      · conv => lhs; simp -implicitDefEqProofs (maxSteps := 300000) (disch := omega) [-getElem?_pos, -getElem?_neg]
      all_goals intro c2
      all_goals try (cases c2; done)
      all_goals try simp only [Bool.not_eq_true', Bool.not_eq_false', decide_eq_true_eq, decide_eq_false_iff_not] at c2
      all_goals apply zz
      apply zz
      refine Cd.drawn (pl := [(0, 0, false, false), (1, 0, false, false), (2, 1, false, false), (3, 7, true, false)]) (by kernel_rfl) (by conv => lhs; simp only [List.map_cons, List.map_nil]) (by conv => lhs; simp [strip, ordered]) ?_
      apply Run.by_eq
      · intro self
        conv => lhs; simp -implicitDefEqProofs (maxSteps := 300000) (disch := omega) [filter_bt, (show ∀ i, Nat.testBit 7 i = decide (i < 3) from fun i => Nat.testBit_two_pow_sub_one 3 i), -getElem?_pos, -getElem?_neg, g8, g7, t1, t2]
      try (with_reducible refine Run.ret ?_)
      apply zz
      refine Cd.ra (h := ?_)
      apply Run.by_eq
      · intro self
        conv => lhs; simp -implicitDefEqProofs (maxSteps := 300000) (disch := omega) [-getElem?_pos, -getElem?_neg, g8]
      try (with_reducible refine Run.ret ?_)
      apply zz
      refine LoopK.nm (m - (k1 + 1)) (by omega) ⟨k1, by omega, rfl, by simp [hmk], ?_, by simp [g5], by simp [g6], by simp [g7], by simp, ⟨by (try simp only [upded_next']); omega, fun i hi => by rw [get_upded_other _ _ _ _ (by omega)]; exact kt.2 i hi⟩, by (try simp only [upded_next']); omega, ?_⟩
      · rw [hst]; simp
      · rw [hst]; simp -implicitDefEqProofs (disch := omega)
    | false =>
      rw [hab, if_neg (by decide)] at hst
      apply Run.by_eq
      · intro self
        conv => lhs; simp -implicitDefEqProofs (maxSteps := 300000) (disch := omega) [-getElem?_pos, -getElem?_neg]
      try (with_reducible refine Run.ret ?_)
      apply zz
      apply Cd.ite rfl
      · conv => lhs; simp -implicitDefEqProofs (maxSteps := 300000) (disch := omega) [-getElem?_pos, -getElem?_neg]
      all_goals intro c2
      all_goals try (cases c2; done)
      all_goals try simp only [Bool.not_eq_true', Bool.not_eq_false', decide_eq_true_eq, decide_eq_false_iff_not] at c2
      all_goals apply zz
      apply zz
      refine Cd.ra (h := ?_)
      apply Run.by_eq
      · intro self
        conv => lhs; simp -implicitDefEqProofs (maxSteps := 300000) (disch := omega) [-getElem?_pos, -getElem?_neg, g8]
      try (with_reducible refine Run.ret ?_)
      apply zz
      refine LoopK.nm (m - (k1 + 1)) (by omega) ⟨k1, by omega, rfl, by simp [hmk], ?_, by simp [g5], by simp [g6], by simp [g7], by simp, kt, by omega, ?_⟩
      · rw [hst]; simp [g2]
      · rw [hst]; exact t1
  · obtain rfl : m = k + 1 := by omega
    simp only [Nat.add_sub_cancel]
    generalize bestI R k = B at *
    unfold Mid at hmb
    apply zz
    refine Cd.ra (h := ?_)
    apply Run.by_eq
    · intro self
      conv => lhs; simp -implicitDefEqProofs (maxSteps := 300000) (disch := omega) [-getElem?_pos, -getElem?_neg, g8, g5, hg0, hwk]
    try (with_reducible refine Run.ret ?_)
    apply zz
    apply Cd.ite rfl
    · conv => lhs; simp -implicitDefEqProofs (maxSteps := 300000) (disch := omega) [-getElem?_pos, -getElem?_neg]
    all_goals intro c1
    all_goals try (cases c1; done)
    all_goals try simp only [Bool.not_eq_true', Bool.not_eq_false', decide_eq_true_eq, decide_eq_false_iff_not] at c1
    all_goals apply zz
    apply zz
    refine Cd.ra (h := ?_)
    apply Run.by_eq
    · intro self
      conv => lhs; simp -implicitDefEqProofs (maxSteps := 300000) (disch := omega) [-getElem?_pos, -getElem?_neg, g2, g7, hg]
    try (with_reducible refine Run.ret ?_)
    apply zz
    rw [← v_eq]
    refine Run.call ((up_ev (R B) _ hmb.2 hmb.1.2.1 (by omega) (by omega)).mono fun v wt hv => ?_)
    obtain ⟨rfl, t⟩ := hv
    have ta := t.1
    have tb := t.2
    try simp only [pushed_next', upded_next'] at ta tb
    apply Run.by_eq
    · intro self
      conv => lhs; simp -implicitDefEqProofs (maxSteps := 300000) (disch := omega) [-getElem?_pos, -getElem?_neg]
    try (with_reducible refine Run.ret ?_)
    apply zz
    apply Leave.mk (by first | exact .inl rfl | exact .inr rfl) (by simp only [Fr.marks_put, fr0_marks, hmk])
    · conv => lhs; simp -implicitDefEqProofs (disch := omega) [Try.results31, hmk]
    exact ⟨⟨by omega, fun i hi => by rw [tb i (by omega), hkpb i (by omega), ub i (by omega), zb i (by omega)]; simp -implicitDefEqProofs (disch := omega) [yb]⟩, _, _, _, rfl, .inr (.inr ⟨h1, rfl, ⟨rfl, rfl⟩, hc⟩)⟩
end Go.Proofs.Ytnhokodcmeekhaa
namespace Go.Proofs.Ytnhokodcmeekhaa
open Go Kern
/-! The reference's regret -/
def gcB (p w i : Nat) : Bool := (decide (i ≤ p) && decide (p < w)) || (decide (p ≤ i) && decide (w < p))
def givenL (L : Nat → Frac) (p w : Nat) (t : Frac) (k : Nat) : List Frac := ((List.range k).filter (gcB p w)).map fun (i : Nat) => lineF (i : Int) (L i) w t p
theorem givenL_succ (L : Nat → Frac) (p w : Nat) (t : Frac) (k : Nat) : givenL L p w t (k + 1) = if gcB p w k = true then givenL L p w t k ++ [lineF k (L k) w t p] else givenL L p w t k := by
  unfold givenL
  rw [List.range_succ, List.filter_append, List.map_append]
  cases h : gcB p w k <;> simp [h]
def givenF (n : Nat) (L : Nat → Frac) (p w : Nat) (t : Frac) : Frac := if p = w then t else foreF aboveB (lowF n L p) (givenL L p w t n)
theorem givenL_mid {n : Nat} {L : Nat → Frac} {p w k : Nat} {t : Frac} (hn : n ≤ 30) (hp : p < n) (hw : w < n) (hk : k ≤ n) (hpw : p ≠ w) (hL : ∀ i, i < n → Mid 60000 1 (L i)) (ht : Mid 3600000 30 t) : ∀ x ∈ givenL L p w t k, Mid 6480000000 27000 x := fun x hx => by
  obtain ⟨i, hi, rfl⟩ := List.mem_map.1 hx
  obtain ⟨h1, h2⟩ := List.mem_filter.1 hi
  have h3 : i < k := by simpa using h1
  have h4 : i ≠ w := by
    rintro rfl
    simp [gcB] at h2
    omega
  exact lineF_mid (A := 3600000) (B := 30) ((hL i (by omega)).mono (by decide) (by decide)) ht (by omega) (by omega) (by omega) (by omega)
theorem given_mid {n : Nat} {L : Nat → Frac} {p w : Nat} {t : Frac} (hn : n ≤ 30) (hp : p < n) (hw : w < n) (hL : ∀ i, i < n → Mid 60000 1 (L i)) (ht : Mid 3600000 30 t) : Mid 6480000000 27000 (givenF n L p w t) := by
  unfold givenF
  split
  · exact ht.mono (by decide) (by decide)
  · rename_i h
    exact fore_mid ((low_mid hn hp (by decide) (by decide) (by decide) hL).mono (by decide) (by decide)) (givenL_mid hn hp hw (Nat.le_refl _) h hL ht)
set_option maxRecDepth 100000 in
set_option maxHeartbeats 4000000 in
theorem rgiven_ev (n : Nat) (L' : Nat → Int) (vl : Value) (p w : Nat) (t : Frac) (s : St) (hl : IntsAt s vl ((List.range n).map L')) (hn : n ≤ 30) (hp : p < n) (hw : w < n) (hL : ∀ w, w < n → -60000 ≤ L' w ∧ L' w ≤ 60000) (ht : Mid 3600000 30 t) :
    Ev TT 83 [vl, .int .i64 p, .int .i64 w, t.v] s fun r s' => r = (givenF n (wF L') p w t).v ∧ Keep s s' := by
  have hlw := fun s' (k : Keep s s') => lower_ev n L' vl p s' (hl.keep k) hn hp hL
  obtain ⟨al, cl, rfl⟩ := hl.shape
  rw [List.length_map, List.length_map, List.length_range] at hl hlw ⊢
  have hne : (List.range n).map L' ≠ [] := by intro h; have := congrArg List.length h; simp at this; omega
  obtain ⟨bl, ol, obl, csl, ggl, rfl, ql, hol, hcl, htl⟩ := IntsAt.all hl hne
  have hL2 := fun i (h : i < n) => wF_mid (hL i h)
  have vl5 : veq 5 (Value.slice (some ⟨bl, ol, none⟩) n cl) (Value.slice (some ⟨bl, ol, none⟩) n cl) = true := veq_slice _ _ _ _ _
  rw [v_eq]
  unfold givenF
  refine Ev.intro (fn := Try.f83) rfl (by kernel_rfl) rfl rfl ?_
  apply zz
  refine Cd.ra (h := ?_)
  apply Run.by_eq
  · intro self
    conv => lhs; simp -implicitDefEqProofs (maxSteps := 300000) (disch := omega) [-getElem?_pos, -getElem?_neg]
  try (with_reducible refine Run.ret ?_)
  apply zz
  by_cases hpw : p = w
  · subst hpw
    rw [if_pos rfl]
    apply zz
    refine Cd.ra (h := ?_)
    apply Run.by_eq
    · intro self
      conv => lhs; simp -implicitDefEqProofs (maxSteps := 300000) (disch := omega) [-getElem?_pos, -getElem?_neg]
    try (with_reducible refine Run.ret ?_)
    apply zz
    apply Cd.ite rfl
    · conv => lhs; simp -implicitDefEqProofs (maxSteps := 300000) (disch := omega) [-getElem?_pos, -getElem?_neg]
    all_goals intro c0
    all_goals try (cases c0; done)
    all_goals try simp only [Bool.not_eq_true', Bool.not_eq_false', decide_eq_true_eq, decide_eq_false_iff_not] at c0
    all_goals apply zz
    apply zz
    refine Cd.ra (h := ?_)
    apply Run.by_eq
    · intro self
      conv => lhs; simp -implicitDefEqProofs (maxSteps := 300000) (disch := omega) [-getElem?_pos, -getElem?_neg]
    try (with_reducible refine Run.ret ?_)
    apply zz
    apply Leave.mk (by first | exact .inl rfl | exact .inr rfl) (by simp only [Fr.marks_put, fr0_marks])
    · conv => lhs; simp -implicitDefEqProofs (disch := omega) [Try.results83]
    exact ⟨rfl, ⟨by (try simp only [pushed_next', upded_next']); omega, fun i hi => by simp -implicitDefEqProofs (disch := omega) []⟩⟩
  rw [if_neg hpw]
  have hpw' : ¬ (p : Int) = w := by omega
  have hlm := (low_mid (n := n) (w := p) hn hp (by decide) (by decide) (by decide) hL2).mono (A' := 6480000000) (B' := 27000) (by decide) (by decide)
  have hgm := fun k (hk : k ≤ n) => givenL_mid (k := k) hn hp hw hk hpw hL2 ht
  generalize lowF n (wF L') p = C0 at *
  apply zz
  refine Cd.ra (h := ?_)
  apply Run.by_eq
  · intro self
    conv => lhs; simp -implicitDefEqProofs (maxSteps := 300000) (disch := omega) [-getElem?_pos, -getElem?_neg, hpw']
  try (with_reducible refine Run.ret ?_)
  apply zz
  apply Cd.ite rfl
  · conv => lhs; simp -implicitDefEqProofs (maxSteps := 300000) (disch := omega) [-getElem?_pos, -getElem?_neg]
  all_goals intro c0
  all_goals try (cases c0; done)
  all_goals try simp only [Bool.not_eq_true', Bool.not_eq_false', decide_eq_true_eq, decide_eq_false_iff_not] at c0
  all_goals apply zz
  apply zz
  refine Cd.ra (h := ?_)
  apply Run.by_eq
  · intro self
    conv => lhs; simp -implicitDefEqProofs (maxSteps := 300000) (disch := omega) [-getElem?_pos, -getElem?_neg]
  try (with_reducible refine Run.ret ?_)
  apply zz
  refine Run.call ((hlw _ ⟨by (try simp only [pushed_next', upded_next']); omega, fun i hi => by simp -implicitDefEqProofs (disch := omega) []⟩).mono fun v wy hv => ?_)
  obtain ⟨rfl, y⟩ := hv
  have ya := y.1
  have yb := y.2
  try simp only [pushed_next', upded_next'] at ya yb
  apply Run.by_eq
  · intro self
    conv => lhs; simp -implicitDefEqProofs (maxSteps := 300000) (disch := omega) [-getElem?_pos, -getElem?_neg, v_eq]
  try (with_reducible refine Run.ret ?_)
  apply zz
  refine Cd.ra (h := ?_)
  apply Run.by_eq
  · intro self
    conv => lhs; simp -implicitDefEqProofs (maxSteps := 300000) (disch := omega) [-getElem?_pos, -getElem?_neg]
  try (with_reducible refine Run.ret ?_)
  apply zz
  refine Cd.inv (fun z f s' => ∃ i : Nat, i ≤ n ∧ z = n - i ∧ f.marks = [] ∧ f.get 0 = .slice (some ⟨bl, ol, none⟩) n cl ∧ f.get 1 = .int .i64 p ∧ f.get 2 = .int .i64 w ∧ f.get 7 = .pointer (some ⟨s.next, 0, none⟩) ∧ f.get 8 = .pointer (some ⟨s.next + 1, 0, none⟩) ∧ f.get 9 = .pointer (some ⟨wy.next, 0, none⟩) ∧ f.get 10 = .int .i64 i ∧ Keep s s' ∧ wy.next < s'.next ∧ s'.heap.get s.next = some (.cells [.int .i64 t.o, .int .i64 t.u] none) ∧ s'.heap.get (s.next + 1) = some (.cells [.int .i64 0, .int .i64 0] none) ∧ s'.heap.get wy.next = some (.cells [.int .i64 (foreF aboveB C0 (givenL (wF L') p w t i)).o, .int .i64 (foreF aboveB C0 (givenL (wF L') p w t i)).u] none)) n ?_ ?_
  · refine ⟨0, by omega, rfl, by simp, by simp, by simp, by simp, by simp, by simp, by simp, by simp, ⟨by (try simp only [pushed_next', upded_next']); omega, fun i hi => by simp -implicitDefEqProofs (disch := omega) [yb]⟩, by simp, ?_, ?_, ?_⟩
    · simp -implicitDefEqProofs (disch := omega) [yb]
    · simp -implicitDefEqProofs (disch := omega) [yb]
    · show _ = some (AObj.cells [.int .i64 C0.o, .int .i64 C0.u] none)
      simp -implicitDefEqProofs (disch := omega)
  rintro z f s1 ⟨i, hi, rfl, hmk, g0, g1, g2, g7, g8, g9, g10, hkp, hnx, hg0, hg1, hg2⟩
  have hkpa := hkp.1
  have hkpb := hkp.2
  have hCm := fore_mid (bf := aboveB) hlm (hgm i hi)
  have hst := givenL_succ (wF L') p w t i
  by_cases hlt : i < n
  · have hlt' : (i : Int) < n := by omega
    generalize hG : givenL (wF L') p w t i = GL at *
    have hti := htl i (L' i) (range_at hlt)
    have hol2 := (hkpb _ ql).trans hol
    apply zz
    refine Cd.ra (h := ?_)
    apply Run.by_eq
    · intro self
      conv => lhs; simp -implicitDefEqProofs (maxSteps := 300000) (disch := omega) [-getElem?_pos, -getElem?_neg, g10, g0, hlt']
    try (with_reducible refine Run.ret ?_)
    apply zz
    apply Cd.ite rfl
    · conv => lhs; simp -implicitDefEqProofs (maxSteps := 300000) (disch := omega) [-getElem?_pos, -getElem?_neg]
    all_goals intro c1
    all_goals try (cases c1; done)
    all_goals try simp only [Bool.not_eq_true', Bool.not_eq_false', decide_eq_true_eq, decide_eq_false_iff_not] at c1
    all_goals apply zz
    cases hcb : gcB p w i with
    | false =>
      rw [hcb, if_neg (by decide)] at hst
      have hgl : givenL (wF L') p w t (i + 1) = GL := hst
      by_cases hd : p < w
      · have h1 : ¬ (i : Int) ≤ p := by simp [gcB, hd] at hcb; omega
        have h2 : (p : Int) < w := by omega
        have h3 : (p : Int) ≤ i := by omega
        have h4 : ¬ (w : Int) < p := by omega
        apply zz
        refine Cd.ra (h := ?_)
        apply Run.by_eq
        · intro self
          conv => lhs; simp -implicitDefEqProofs (maxSteps := 300000) (disch := omega) [-getElem?_pos, -getElem?_neg, g10, g1, g2, h1, h2, h3, h4]
        try (with_reducible refine Run.ret ?_)
        apply zz
        apply Cd.ite rfl
        · conv => lhs; simp -implicitDefEqProofs (maxSteps := 300000) (disch := omega) [-getElem?_pos, -getElem?_neg]
        all_goals intro c2
        all_goals try (cases c2; done)
        all_goals try simp only [Bool.not_eq_true', Bool.not_eq_false', decide_eq_true_eq, decide_eq_false_iff_not] at c2
        all_goals apply zz
        apply zz
        refine Cd.ra (h := ?_)
        apply Run.by_eq
        · intro self
          conv => lhs; simp -implicitDefEqProofs (maxSteps := 300000) (disch := omega) [-getElem?_pos, -getElem?_neg, g10]
        try (with_reducible refine Run.ret ?_)
        apply zz
        exact LoopK.nm (n - (i + 1)) (by omega) ⟨i + 1, by omega, rfl, by simp [hmk], by simp [g0], by simp [g1], by simp [g2], by simp [g7], by simp [g8], by simp [g9], by simp, hkp, hnx, hg0, hg1, by rw [hgl]; exact hg2⟩
      · have h2 : ¬ (p : Int) < w := by omega
        have h4 : (w : Int) < p := by omega
        have h3 : ¬ (p : Int) ≤ i := by simp [gcB, hd] at hcb; omega
        have h1 : (i : Int) ≤ p := by omega
        apply zz
        refine Cd.ra (h := ?_)
        apply Run.by_eq
        · intro self
          conv => lhs; simp -implicitDefEqProofs (maxSteps := 300000) (disch := omega) [-getElem?_pos, -getElem?_neg, g10, g1, g2, h1, h2, h3, h4]
        try (with_reducible refine Run.ret ?_)
        apply zz
        apply Cd.ite rfl
        · conv => lhs; simp -implicitDefEqProofs (maxSteps := 300000) (disch := omega) [-getElem?_pos, -getElem?_neg]
        all_goals intro c2
        all_goals try (cases c2; done)
        all_goals try simp only [Bool.not_eq_true', Bool.not_eq_false', decide_eq_true_eq, decide_eq_false_iff_not] at c2
        all_goals apply zz
        apply zz
        refine Cd.ra (h := ?_)
        apply Run.by_eq
        · intro self
          conv => lhs; simp -implicitDefEqProofs (maxSteps := 300000) (disch := omega) [-getElem?_pos, -getElem?_neg, g10]
        try (with_reducible refine Run.ret ?_)
        apply zz
        exact LoopK.nm (n - (i + 1)) (by omega) ⟨i + 1, by omega, rfl, by simp [hmk], by simp [g0], by simp [g1], by simp [g2], by simp [g7], by simp [g8], by simp [g9], by simp, hkp, hnx, hg0, hg1, by rw [hgl]; exact hg2⟩
    | true =>
      rw [hcb, if_pos rfl] at hst
      have hiw : i ≠ w := by rintro rfl; simp [gcB] at hcb; omega
      have hXm : Mid 6480000000 27000 (lineF i (wF L' i) w t p) := by
        have := hgm (i + 1) (by omega) (lineF i (wF L' i) w t p)
        rw [hst] at this
        exact this (by simp)
      have hfit := hCm.fits hXm (by decide)
      have hln := fun s => rline_ev i w p (wF L' i) t s ((hL2 i hlt).small (by decide) (by decide)) (ht.small (by decide) (by decide)) (hL2 i hlt).2.1 ht.2.1 (by omega) (by omega) (by omega) (by omega)
      have hst2 : foreF aboveB C0 (givenL (wF L') p w t (i + 1)) = if aboveB (lineF i (wF L' i) w t p) (foreF aboveB C0 GL) = true then lineF i (wF L' i) w t p else foreF aboveB C0 GL := by rw [hst, fore_snoc]
      refine Cd.mono (Q := fun x f2 s2 => x = Ex.normal ∧ f2.marks = [] ∧ f2.get 0 = .slice (some ⟨bl, ol, none⟩) n cl ∧ f2.get 1 = .int .i64 p ∧ f2.get 2 = .int .i64 w ∧ f2.get 7 = .pointer (some ⟨s.next, 0, none⟩) ∧ f2.get 8 = .pointer (some ⟨s.next + 1, 0, none⟩) ∧ f2.get 9 = .pointer (some ⟨wy.next, 0, none⟩) ∧ f2.get 10 = .int .i64 i ∧ f2.get 41 = .bool true ∧ s2 = s1) ?_ ?_
      · by_cases hd : p < w
        · have h1 : (i : Int) ≤ p := by simp [gcB, hd] at hcb; omega
          have h2 : (p : Int) < w := by omega
          apply zz
          refine Cd.ra (h := ?_)
          apply Run.by_eq
          · intro self
            conv => lhs; simp -implicitDefEqProofs (maxSteps := 300000) (disch := omega) [-getElem?_pos, -getElem?_neg, g10, g1, g2, h1, h2]
          try (with_reducible refine Run.ret ?_)
          apply zz
          exact ⟨rfl, by simp [hmk], by simp [g0], by simp [g1], by simp [g2], by simp [g7], by simp [g8], by simp [g9], by simp [g10], by simp, rfl⟩
        · have h2 : ¬ (p : Int) < w := by omega
          have h4 : (w : Int) < p := by omega
          have h3 : (p : Int) ≤ i := by simp [gcB, hd] at hcb; omega
          by_cases h1 : (i : Int) ≤ p
          · apply zz
            refine Cd.ra (h := ?_)
            apply Run.by_eq
            · intro self
              conv => lhs; simp -implicitDefEqProofs (maxSteps := 300000) (disch := omega) [-getElem?_pos, -getElem?_neg, g10, g1, g2, h1, h2, h3, h4]
            try (with_reducible refine Run.ret ?_)
            apply zz
            exact ⟨rfl, by simp [hmk], by simp [g0], by simp [g1], by simp [g2], by simp [g7], by simp [g8], by simp [g9], by simp [g10], by simp, rfl⟩
          · apply zz
            refine Cd.ra (h := ?_)
            apply Run.by_eq
            · intro self
              conv => lhs; simp -implicitDefEqProofs (maxSteps := 300000) (disch := omega) [-getElem?_pos, -getElem?_neg, g10, g1, g2, h1, h2, h3, h4]
            try (with_reducible refine Run.ret ?_)
            apply zz
            exact ⟨rfl, by simp [hmk], by simp [g0], by simp [g1], by simp [g2], by simp [g7], by simp [g8], by simp [g9], by simp [g10], by simp, rfl⟩
      clear hmk g0 g1 g2 g7 g8 g9 g10
      rintro x f2 s2 ⟨rfl, hmk, g0, g1, g2, g7, g8, g9, g10, g41, rfl⟩
      apply zz
      generalize lineF i (wF L' i) w t p = X at *
      generalize hC : foreF aboveB C0 GL = C at *
      apply zz
      apply Cd.ite rfl
      · conv => lhs; simp -implicitDefEqProofs (maxSteps := 300000) (disch := omega) [-getElem?_pos, -getElem?_neg, g41]
      all_goals intro c2
      all_goals try (cases c2; done)
      all_goals try simp only [Bool.not_eq_true', Bool.not_eq_false', decide_eq_true_eq, decide_eq_false_iff_not] at c2
      all_goals apply zz
      apply zz
      refine Cd.drawn (pl := [(0, 0, false, false), (1, 0, false, false), (2, 0, false, false), (3, 0, false, false), (4, 12, false, false), (5, 28, false, false), (7, 0, false, false), (8, 0, false, false), (9, 0, false, false), (6, 60, true, false), (10, 1022, true, false), (11, 2047, true, false), (12, 4095, true, false)]) (by kernel_rfl) (by conv => lhs; simp only [List.map_cons, List.map_nil]) (by conv => lhs; simp [strip, ordered]) ?_
      apply Run.by_eq
      · intro self
        conv => lhs; simp -implicitDefEqProofs (maxSteps := 300000) (disch := omega) [filter_bt, (show Nat.testBit 60 0 = false from rfl), (show Nat.testBit 60 1 = false from rfl), (show Nat.testBit 60 2 = true from rfl), (show Nat.testBit 60 3 = true from rfl), (show Nat.testBit 60 4 = true from rfl), (show Nat.testBit 60 5 = true from rfl), (show Nat.testBit 60 7 = false from rfl), (show Nat.testBit 60 8 = false from rfl), (show Nat.testBit 60 9 = false from rfl), (show Nat.testBit 1022 0 = false from rfl), (show Nat.testBit 1022 1 = true from rfl), (show Nat.testBit 1022 2 = true from rfl), (show Nat.testBit 1022 3 = true from rfl), (show Nat.testBit 1022 4 = true from rfl), (show Nat.testBit 1022 5 = true from rfl), (show Nat.testBit 1022 7 = true from rfl), (show Nat.testBit 1022 8 = true from rfl), (show Nat.testBit 1022 9 = true from rfl), (show ∀ i, Nat.testBit 2047 i = decide (i < 11) from fun i => Nat.testBit_two_pow_sub_one 11 i), (show ∀ i, Nat.testBit 4095 i = decide (i < 12) from fun i => Nat.testBit_two_pow_sub_one 12 i), -getElem?_pos, -getElem?_neg, g0, g1, g2, g7, g9, g10, hg0, hg2, hol2, hcl, hti, hlt, vl5]
      try (with_reducible refine Run.ret ?_)
      apply zz
      refine Run.call ((rwhole_ev (L' i) _).mono fun v wq hv => ?_)
      obtain ⟨rfl, q⟩ := hv
      have qa := q.1
      have qb := q.2
      try simp only [pushed_next', upded_next'] at qa qb
      have q0 := (qb _ (by omega)).trans hg0
      have q2 := (qb _ (by omega)).trans hg2
      have ql2 := (qb _ (by omega)).trans hol2
      apply Run.by_eq
      · intro self
        conv => lhs; simp -implicitDefEqProofs (maxSteps := 300000) (disch := omega) [-getElem?_pos, -getElem?_neg, g0, g1, g2, g7, g9, g10, q0, q2, ql2, hcl, hti, hlt, vl5]
      try (with_reducible refine Run.ret ?_)
      apply zz
      rw [wF_v]
      try rw [← v_eq]
      refine Run.call ((hln _).mono fun v wu hv => ?_)
      obtain ⟨rfl, u⟩ := hv
      have ua := u.1
      have ub := u.2
      try simp only [pushed_next', upded_next'] at ua ub
      have u0 := (ub _ (by omega)).trans q0
      have u2 := (ub _ (by omega)).trans q2
      have ul2 := (ub _ (by omega)).trans ql2
      apply Run.by_eq
      · intro self
        conv => lhs; simp -implicitDefEqProofs (maxSteps := 300000) (disch := omega) [-getElem?_pos, -getElem?_neg, g0, g1, g2, g7, g9, g10, u0, u2, ul2, hcl, hti, hlt, vl5]
      try (with_reducible refine Run.ret ?_)
      apply zz
      try rw [← v_eq]
      refine Run.call ((rmost_ev C X _ hfit).mono fun v wx hv => ?_)
      obtain ⟨rfl, x⟩ := hv
      have xa := x.1
      have xb := x.2
      try simp only [pushed_next', upded_next'] at xa xb
      have x0 := (xb _ (by omega)).trans u0
      have x2 := (xb _ (by omega)).trans u2
      have xl2 := (xb _ (by omega)).trans ul2
      have x1 := (xb _ (by omega)).trans ((ub _ (by omega)).trans ((qb _ (by omega)).trans hg1))
      rw [← hst2]
      generalize hC2 : foreF aboveB C0 (givenL (wF L') p w t (i + 1)) = C2
      apply Run.by_eq
      · intro self
        conv => lhs; simp -implicitDefEqProofs (maxSteps := 300000) (disch := omega) [-getElem?_pos, -getElem?_neg, v_eq, g0, g1, g2, g7, g9, g10, x0, x2, xl2, hcl, hti, hlt, vl5]
      try (with_reducible refine Run.ret ?_)
      apply zz
      refine Cd.ra (h := ?_)
      apply Run.by_eq
      · intro self
        conv => lhs; simp -implicitDefEqProofs (maxSteps := 300000) (disch := omega) [-getElem?_pos, -getElem?_neg, g10]
      try (with_reducible refine Run.ret ?_)
      apply zz
      refine LoopK.nm (n - (i + 1)) (by omega) ⟨i + 1, by omega, rfl, by simp [hmk], by simp [g0], by simp [g1], by simp [g2], by simp [g7], by simp [g8], by simp [g9], by simp, ⟨by (try simp only [pushed_next', upded_next']); omega, fun i hi => by simp -implicitDefEqProofs (disch := omega) [xb, ub, qb, hkpb]⟩, by (try simp only [upded_next']); omega, ?_, ?_, ?_⟩
      · simp -implicitDefEqProofs (disch := omega) [x0]
      · simp -implicitDefEqProofs (disch := omega) [x1]
      · rw [hC2]; simp -implicitDefEqProofs (disch := omega)
  · obtain rfl : i = n := by omega
    generalize foreF aboveB C0 (givenL (wF L') p w t i) = C at *
    apply zz
    refine Cd.ra (h := ?_)
    apply Run.by_eq
    · intro self
      conv => lhs; simp -implicitDefEqProofs (maxSteps := 300000) (disch := omega) [-getElem?_pos, -getElem?_neg, g10, g0]
    try (with_reducible refine Run.ret ?_)
    apply zz
    apply Cd.ite rfl
    · conv => lhs; simp -implicitDefEqProofs (maxSteps := 300000) (disch := omega) [-getElem?_pos, -getElem?_neg]
    all_goals intro c1
    all_goals try (cases c1; done)
    all_goals try simp only [Bool.not_eq_true', Bool.not_eq_false', decide_eq_true_eq, decide_eq_false_iff_not] at c1
    all_goals apply zz
    apply zz
    refine Cd.ra (h := ?_)
    apply Run.by_eq
    · intro self
      conv => lhs; simp -implicitDefEqProofs (maxSteps := 300000) (disch := omega) [-getElem?_pos, -getElem?_neg, g8, g9, hg1, hg2]
    try (with_reducible refine Run.ret ?_)
    apply zz
    apply Leave.mk (by first | exact .inl rfl | exact .inr rfl) (by simp only [Fr.marks_put, fr0_marks, hmk, g8])
    · conv => lhs; simp -implicitDefEqProofs (disch := omega) [Try.results83, hmk, g8]
    exact ⟨rfl, ⟨by (try simp only [pushed_next', upded_next']); omega, fun i hi => by simp -implicitDefEqProofs (disch := omega) [hkpb]⟩⟩
end Go.Proofs.Ytnhokodcmeekhaa
namespace Go.Proofs.Ytnhokodcmeekhaa
open Go Kern
/-! The reference's Regret and Cut -/
def rlossF (n : Nat) (L H : Nat → Frac) (p w : Nat) : Frac := minusF (rupF n L H w) (givenF n L p w (rupF n L H w))
def rregF (n : Nat) (L H : Nat → Frac) (p : Nat) : Frac := foreF aboveB ⟨0, 1⟩ ((List.range n).map (rlossF n L H p))
theorem rup_mid {n w : Nat} {L H : Nat → Frac} (hn : n ≤ 30) (hw : w < n) (hL : ∀ i, i < n → Mid 60000 1 (L i)) (hH : ∀ i, i < n → Mid 60000 1 (H i)) : Mid 3600000 30 (rupF n L H w) :=
  fore_mid ((hH w hw).mono (by decide) (by decide)) (lines_fit (A := 60000) (B := 1) (x0 := H w) (items := rtowardL n w) hn hw (by decide) (by decide) (by decide) hL hH (hH w hw) fun p hp => by have := rtoward_mem.1 hp; omega).1
theorem rloss_mid {n p w : Nat} {L H : Nat → Frac} (hn : n ≤ 30) (hp : p < n) (hw : w < n) (hL : ∀ i, i < n → Mid 60000 1 (L i)) (hH : ∀ i, i < n → Mid 60000 1 (H i)) : Mid 291600000000 810000 (rlossF n L H p w) :=
  minus_mid (rup_mid hn hw hL hH) (given_mid hn hp hw hL (rup_mid hn hw hL hH))
theorem rreg_mid {n p k : Nat} {L H : Nat → Frac} (hn : n ≤ 30) (hp : p < n) (hk : k ≤ n) (hL : ∀ i, i < n → Mid 60000 1 (L i)) (hH : ∀ i, i < n → Mid 60000 1 (H i)) : Mid 291600000000 810000 (foreF aboveB ⟨0, 1⟩ ((List.range k).map (rlossF n L H p))) := by
  refine fore_mid (by unfold Mid; simp only []; omega) fun x hx => ?_
  obtain ⟨w, hw, rfl⟩ := List.mem_map.1 hx
  have : w < k := by simpa using hw
  exact rloss_mid hn hp (by omega) hL hH
set_option maxRecDepth 100000 in
set_option maxHeartbeats 4000000 in
theorem rregret_ev (n : Nat) (L' H' : Nat → Int) (vl vh : Value) (p : Nat) (s : St) (hl : IntsAt s vl ((List.range n).map L')) (hh : IntsAt s vh ((List.range n).map H')) (hn : n ≤ 30) (hp : p < n) (hL : ∀ w, w < n → -60000 ≤ L' w ∧ L' w ≤ 60000) (hH : ∀ w, w < n → -60000 ≤ H' w ∧ H' w ≤ 60000) :
    Ev TT 65 [vl, vh, .int .i64 p] s fun r s' => r = (rregF n (wF L') (wF H') p).v ∧ Keep s s' := by
  have hup := fun w s' (k : Keep s s') hw => upper_ev n L' H' vl vh w s' (hl.keep k) (hh.keep k) hn hw hL hH
  have hgi := fun w t s' (k : Keep s s') hw ht => rgiven_ev n L' vl p w t s' (hl.keep k) hn hp hw hL ht
  obtain ⟨al, cl, rfl⟩ := hl.shape
  obtain ⟨ah, ch, rfl⟩ := hh.shape
  rw [List.length_map, List.length_map, List.length_range] at hl hh hup hgi ⊢
  rw [List.length_map, List.length_map, List.length_range] at hup ⊢
  have hL2 := fun i (h : i < n) => wF_mid (hL i h)
  have hH2 := fun i (h : i < n) => wF_mid (hH i h)
  have hum := fun w (hw : w < n) => rup_mid hn hw hL2 hH2
  have hgm := fun w (hw : w < n) => given_mid hn hp hw hL2 (hum w hw)
  have hlm := fun w (hw : w < n) => rloss_mid hn hp hw hL2 hH2
  have hcm := fun k hk => rreg_mid (k := k) hn hp hk hL2 hH2
  have hreg : rregF n (wF L') (wF H') p = foreF aboveB ⟨0, 1⟩ ((List.range n).map (rlossF n (wF L') (wF H') p)) := rfl
  have hlo : ∀ w, rlossF n (wF L') (wF H') p w = minusF (rupF n (wF L') (wF H') w) (givenF n (wF L') p w (rupF n (wF L') (wF H') w)) := fun w => rfl
  have hst : ∀ k, foreF aboveB ⟨0, 1⟩ ((List.range (k + 1)).map (rlossF n (wF L') (wF H') p)) = if aboveB (rlossF n (wF L') (wF H') p k) (foreF aboveB ⟨0, 1⟩ ((List.range k).map (rlossF n (wF L') (wF H') p))) = true then rlossF n (wF L') (wF H') p k else foreF aboveB ⟨0, 1⟩ ((List.range k).map (rlossF n (wF L') (wF H') p)) := fun k => by
    rw [List.range_succ, List.map_append, List.map_cons, List.map_nil, fore_snoc]
  rw [hreg]
  refine Ev.intro (fn := Try.f65) rfl (by kernel_rfl) rfl rfl ?_
  apply zz
  refine Cd.ra (h := ?_)
  apply Run.by_eq
  · intro self
    conv => lhs; simp -implicitDefEqProofs (maxSteps := 300000) (disch := omega) [-getElem?_pos, -getElem?_neg]
  try (with_reducible refine Run.ret ?_)
  apply zz
  refine Cd.ra (h := ?_)
  apply Run.by_eq
  · intro self
    conv => lhs; simp -implicitDefEqProofs (maxSteps := 300000) (disch := omega) [-getElem?_pos, -getElem?_neg]
  try (with_reducible refine Run.ret ?_)
  apply zz
  refine Run.call ((rwhole_ev 0 _).mono fun v wy hv => ?_)
  obtain ⟨rfl, y⟩ := hv
  have ya := y.1
  have yb := y.2
  try simp only [pushed_next', upded_next'] at ya yb
  apply Run.by_eq
  · intro self
    conv => lhs; simp -implicitDefEqProofs (maxSteps := 300000) (disch := omega) [-getElem?_pos, -getElem?_neg, v_eq]
  try (with_reducible refine Run.ret ?_)
  apply zz
  refine Cd.ra (h := ?_)
  apply Run.by_eq
  · intro self
    conv => lhs; simp -implicitDefEqProofs (maxSteps := 300000) (disch := omega) [-getElem?_pos, -getElem?_neg]
  try (with_reducible refine Run.ret ?_)
  apply zz
  refine Cd.inv (fun z f s' => ∃ k : Nat, k ≤ n ∧ z = n - k ∧ f.marks = [] ∧ f.get 0 = .slice al n cl ∧ f.get 1 = .slice ah n ch ∧ f.get 2 = .int .i64 p ∧ f.get 6 = .pointer (some ⟨s.next, 0, none⟩) ∧ f.get 7 = .pointer (some ⟨wy.next, 0, none⟩) ∧ f.get 8 = .int .i64 k ∧ Keep s s' ∧ wy.next < s'.next ∧ s'.heap.get s.next = some (.cells [.int .i64 0, .int .i64 0] none) ∧ s'.heap.get wy.next = some (.cells [.int .i64 (foreF aboveB ⟨0, 1⟩ ((List.range k).map (rlossF n (wF L') (wF H') p))).o, .int .i64 (foreF aboveB ⟨0, 1⟩ ((List.range k).map (rlossF n (wF L') (wF H') p))).u] none)) n ?_ ?_
  · refine ⟨0, by omega, rfl, by simp, by simp, by simp, by simp, by simp, by simp, by simp, ⟨by (try simp only [pushed_next', upded_next']); omega, fun i hi => by simp -implicitDefEqProofs (disch := omega) [yb]⟩, by simp, ?_, ?_⟩
    · simp -implicitDefEqProofs (disch := omega) [yb]
    · show _ = some (AObj.cells [.int .i64 0, .int .i64 1] none)
      simp -implicitDefEqProofs (disch := omega)
  rintro z f s1 ⟨k, hk, rfl, hmk, g0, g1, g2, g6, g7, g8, hkp, hnx, hg0, hg1⟩
  have hkpa := hkp.1
  have hkpb := hkp.2
  by_cases hlt : k < n
  · have hlt' : (k : Int) < n := by omega
    have hstk := hst k
    have hfit := (hcm k hk).fits (hlm k hlt) (by decide)
    have hupk := fun s' kk => hup k s' kk hlt
    have hgik := fun s' kk => hgi k _ s' kk hlt (hum k hlt)
    have p1 := mul_bd 3600000 27000 (hum k hlt).1 (b := (givenF n (wF L') p k (rupF n (wF L') (wF H') k)).u) (by have := (hgm k hlt).2; omega)
    have p2 := mul_bd 6480000000 30 (hgm k hlt).1 (b := (rupF n (wF L') (wF H') k).u) (by have := (hum k hlt).2; omega)
    have p3 := mul_bd 30 27000 (a := (rupF n (wF L') (wF H') k).u) (b := (givenF n (wF L') p k (rupF n (wF L') (wF H') k)).u) (by have := (hum k hlt).2; omega) (by have := (hgm k hlt).2; omega)
    have hlk : rlossF n (wF L') (wF H') p k = ⟨(rupF n (wF L') (wF H') k).o * (givenF n (wF L') p k (rupF n (wF L') (wF H') k)).u - (givenF n (wF L') p k (rupF n (wF L') (wF H') k)).o * (rupF n (wF L') (wF H') k).u, (rupF n (wF L') (wF H') k).u * (givenF n (wF L') p k (rupF n (wF L') (wF H') k)).u⟩ := rfl
    generalize givenF n (wF L') p k (rupF n (wF L') (wF H') k) = G at *
    generalize rupF n (wF L') (wF H') k = U at *
    have hX := hlk
    generalize hXe : rlossF n (wF L') (wF H') p k = X at *
    generalize hC : foreF aboveB ⟨0, 1⟩ ((List.range k).map (rlossF n (wF L') (wF H') p)) = C at *
    generalize hM1 : U.o * G.u = M1 at *
    generalize hM2 : G.o * U.u = M2 at *
    generalize hM3 : U.u * G.u = M3 at *
    apply zz
    refine Cd.ra (h := ?_)
    apply Run.by_eq
    · intro self
      conv => lhs; simp -implicitDefEqProofs (maxSteps := 300000) (disch := omega) [-getElem?_pos, -getElem?_neg, g8, g0, hlt']
    try (with_reducible refine Run.ret ?_)
    apply zz
    apply Cd.ite rfl
    · conv => lhs; simp -implicitDefEqProofs (maxSteps := 300000) (disch := omega) [-getElem?_pos, -getElem?_neg]
    all_goals intro c1
    all_goals try (cases c1; done)
    all_goals try simp only [Bool.not_eq_true', Bool.not_eq_false', decide_eq_true_eq, decide_eq_false_iff_not] at c1
    all_goals apply zz
    apply zz
    refine Cd.ra (h := ?_)
    apply Run.by_eq
    · intro self
      conv => lhs; simp -implicitDefEqProofs (maxSteps := 300000) (disch := omega) [-getElem?_pos, -getElem?_neg, g0, g1, g8]
    try (with_reducible refine Run.ret ?_)
    apply zz
    refine Run.call ((hupk _ hkp).mono fun v wq hv => ?_)
    obtain ⟨rfl, q⟩ := hv
    have qa := q.1
    have qb := q.2
    try simp only [pushed_next', upded_next'] at qa qb
    have k1 : Keep s (wq.pushed (.cells [.int .i64 0, .int .i64 0] none)) := (hkp.trans ⟨qa, qb⟩).pushed _
    apply Run.by_eq
    · intro self
      conv => lhs; simp -implicitDefEqProofs (maxSteps := 300000) (disch := omega) [-getElem?_pos, -getElem?_neg, v_eq]
    try (with_reducible refine Run.ret ?_)
    apply zz
    refine Cd.ra (h := ?_)
    apply Run.by_eq
    · intro self
      conv => lhs; simp -implicitDefEqProofs (maxSteps := 300000) (disch := omega) [-getElem?_pos, -getElem?_neg, g0, g2, g8]
    try (with_reducible refine Run.ret ?_)
    apply zz
    rw [← v_eq]
    refine Run.call ((hgik _ ?_).mono fun v wu hv => ?_)
    · exact ⟨by (try simp only [pushed_next', upded_next'] at *); omega, fun i hi => by simp -implicitDefEqProofs (disch := omega) [qb, hkpb]⟩
    obtain ⟨rfl, u⟩ := hv
    have ua := u.1
    have ub := u.2
    try simp only [pushed_next', upded_next'] at ua ub
    have u1 : wu.heap.get wq.next = some (.cells [.int .i64 U.o, .int .i64 U.u] none) := by rw [ub _ (by omega)]; simp -implicitDefEqProofs (disch := omega)
    have u2 : wu.heap.get wy.next = some (.cells [.int .i64 C.o, .int .i64 C.u] none) := by rw [ub _ (by omega)]; simp -implicitDefEqProofs (disch := omega) [qb, hg1]
    have u0 : wu.heap.get s.next = some (.cells [.int .i64 0, .int .i64 0] none) := by rw [ub _ (by omega)]; simp -implicitDefEqProofs (disch := omega) [qb, hg0]
    have ku : Keep s wu := ⟨by omega, fun i hi => by rw [ub i (by omega)]; simp -implicitDefEqProofs (disch := omega) [qb, hkpb]⟩
    apply Run.by_eq
    · intro self
      conv => lhs; simp -implicitDefEqProofs (maxSteps := 300000) (disch := omega) [-getElem?_pos, -getElem?_neg, v_eq]
    try (with_reducible refine Run.ret ?_)
    apply zz
    refine Cd.ra (h := ?_)
    apply Run.by_eq
    · intro self
      conv => lhs; simp -implicitDefEqProofs (maxSteps := 300000) (disch := omega) [-getElem?_pos, -getElem?_neg, g7, u1, u2, hM1, hM2, hM3]
    try (with_reducible refine Run.ret ?_)
    apply zz
    rw [← v_eq]
    have hXv : Value.agg #[.int .i64 (M1 - M2), .int .i64 M3] = X.v := by rw [hX]; rfl
    rw [hXv]
    refine Run.call ((rmost_ev C X _ hfit).mono fun v wt hv => ?_)
    obtain ⟨rfl, t⟩ := hv
    have ta := t.1
    have tb := t.2
    try simp only [pushed_next', upded_next'] at ta tb
    have t1 : wt.heap.get wy.next = some (.cells [.int .i64 C.o, .int .i64 C.u] none) := by rw [tb _ (by (try simp only [pushed_next', upded_next']); omega)]; simp -implicitDefEqProofs (disch := omega) [u2]
    have t0 : wt.heap.get s.next = some (.cells [.int .i64 0, .int .i64 0] none) := by rw [tb _ (by (try simp only [pushed_next', upded_next']); omega)]; simp -implicitDefEqProofs (disch := omega) [u0]
    have kt : Keep s wt := ⟨by (try simp only [pushed_next', upded_next'] at *); omega, fun i hi => by rw [tb i (by (try simp only [pushed_next', upded_next']); omega)]; simp -implicitDefEqProofs (disch := omega) [ku.2]⟩
    have ktn : wu.next + 1 ≤ wt.next := by (try simp only [pushed_next', upded_next'] at *); omega
    rw [← hstk]
    generalize hC2 : foreF aboveB ⟨0, 1⟩ ((List.range (k + 1)).map (rlossF n (wF L') (wF H') p)) = C2
    apply Run.by_eq
    · intro self
      conv => lhs; simp -implicitDefEqProofs (maxSteps := 300000) (disch := omega) [-getElem?_pos, -getElem?_neg, v_eq, g7, t1]
    try (with_reducible refine Run.ret ?_)
    apply zz
    refine Cd.ra (h := ?_)
    apply Run.by_eq
    · intro self
      conv => lhs; simp -implicitDefEqProofs (maxSteps := 300000) (disch := omega) [-getElem?_pos, -getElem?_neg, g8]
    try (with_reducible refine Run.ret ?_)
    apply zz
    refine LoopK.nm (n - (k + 1)) (by omega) ⟨k + 1, by omega, rfl, by simp [hmk], by simp [g0], by simp [g1], by simp [g2], by simp [g6], by simp [g7], by simp, ⟨by have := kt.1; (try simp only [upded_next']); omega, fun i hi => by rw [get_upded_other _ _ _ _ (by omega)]; exact kt.2 i hi⟩, by (try simp only [upded_next']); omega, ?_, ?_⟩
    · simp -implicitDefEqProofs (disch := omega) [t0]
    · rw [hC2]; simp -implicitDefEqProofs (disch := omega)
  · obtain rfl : k = n := by omega
    generalize foreF aboveB ⟨0, 1⟩ ((List.range k).map (rlossF k (wF L') (wF H') p)) = C at *
    apply zz
    refine Cd.ra (h := ?_)
    apply Run.by_eq
    · intro self
      conv => lhs; simp -implicitDefEqProofs (maxSteps := 300000) (disch := omega) [-getElem?_pos, -getElem?_neg, g8, g0]
    try (with_reducible refine Run.ret ?_)
    apply zz
    apply Cd.ite rfl
    · conv => lhs; simp -implicitDefEqProofs (maxSteps := 300000) (disch := omega) [-getElem?_pos, -getElem?_neg]
    all_goals intro c1
    all_goals try (cases c1; done)
    all_goals try simp only [Bool.not_eq_true', Bool.not_eq_false', decide_eq_true_eq, decide_eq_false_iff_not] at c1
    all_goals apply zz
    apply zz
    refine Cd.ra (h := ?_)
    apply Run.by_eq
    · intro self
      conv => lhs; simp -implicitDefEqProofs (maxSteps := 300000) (disch := omega) [-getElem?_pos, -getElem?_neg, g6, g7, hg0, hg1]
    try (with_reducible refine Run.ret ?_)
    apply zz
    apply Leave.mk (by first | exact .inl rfl | exact .inr rfl) (by simp only [Fr.marks_put, fr0_marks, hmk, g6])
    · conv => lhs; simp -implicitDefEqProofs (disch := omega) [Try.results65, hmk, g6]
    exact ⟨rfl, ⟨by (try simp only [pushed_next', upded_next']); omega, fun i hi => by simp -implicitDefEqProofs (disch := omega) [hkpb]⟩⟩
end Go.Proofs.Ytnhokodcmeekhaa
namespace Go.Proofs.Ytnhokodcmeekhaa
open Go Kern
/-! Both regrets are worth the same -/
def Eqv (x y : Frac) : Prop := LeF x y ∧ LeF y x
theorem Eqv.refl (x : Frac) : Eqv x x := ⟨LeF.refl x, LeF.refl x⟩
theorem Eqv.symm {x y : Frac} (h : Eqv x y) : Eqv y x := ⟨h.2, h.1⟩
theorem Eqv.of {x y : Frac} (h : x.o * y.u = y.o * x.u) : Eqv x y := ⟨Int.le_of_eq h, Int.le_of_eq h.symm⟩
theorem Eqv.eq {x y : Frac} (h : Eqv x y) : x.o * y.u = y.o * x.u := Int.le_antisymm h.1 h.2
theorem line_mono {i w p : Int} {x y y' : Frac} (hx : 0 < x.u) (h : LeF y y') (hb : (i < p ∧ p < w) ∨ (w < p ∧ p < i)) : LeF (lineF i x w y p) (lineF i x w y' p) := by
  obtain ⟨a, b⟩ := x
  obtain ⟨c, d⟩ := y
  obtain ⟨c', d'⟩ := y'
  unfold LeF at h ⊢
  unfold lineF lineO
  simp only [] at h hx ⊢
  rcases hb with ⟨h1, h2⟩ | ⟨h1, h2⟩
  · rw [if_neg (by omega), if_neg (by omega)]
    simp only []
    have hc : 0 ≤ b * b * ((p - i) * (w - i)) := Int.mul_nonneg (Int.mul_nonneg (by omega) (by omega)) (Int.mul_nonneg (by omega) (by omega))
    have hm := Int.mul_le_mul_of_nonneg_right h hc
    have e : (a * d' * (w - p) + c' * b * (p - i)) * (b * d * (w - i)) - (a * d * (w - p) + c * b * (p - i)) * (b * d' * (w - i)) = c' * d * (b * b * ((p - i) * (w - i))) - c * d' * (b * b * ((p - i) * (w - i))) := by grind
    omega
  · rw [if_pos (by omega), if_pos (by omega)]
    simp only []
    have hc : 0 ≤ b * b * ((i - p) * (i - w)) := Int.mul_nonneg (Int.mul_nonneg (by omega) (by omega)) (Int.mul_nonneg (by omega) (by omega))
    have hm := Int.mul_le_mul_of_nonneg_right h hc
    have e : (c' * b * (i - p) + a * d' * (p - w)) * (d * b * (i - w)) - (c * b * (i - p) + a * d * (p - w)) * (d' * b * (i - w)) = c' * d * (b * b * ((i - p) * (i - w))) - c * d' * (b * b * ((i - p) * (i - w))) := by grind
    omega
theorem line_eqv {i w p : Int} {x y y' : Frac} (hx : 0 < x.u) (h : Eqv y y') (hb : (i < p ∧ p < w) ∨ (w < p ∧ p < i)) : Eqv (lineF i x w y p) (lineF i x w y' p) := ⟨line_mono hx h.1 hb, line_mono hx h.2 hb⟩
theorem line_swap (i w p : Int) (x y : Frac) (h : i ≠ w) : lineF i x w y p = lineF w y i x p := by
  unfold lineF
  by_cases h1 : w < i
  · rw [if_pos h1, if_neg (by omega)]
  · rw [if_neg h1, if_pos (by omega)]
theorem line_start {w p : Int} (x y : Frac) (h : p ≠ w) : Eqv (lineF p x w y p) x := by
  refine Eqv.of ?_
  unfold lineF lineO
  split <;> (simp only []; grind)
theorem key_lines {Li Lk Lf Hn a b w k i : Int} (hab : a < b) (hbw : b < w) (hwk : w < k) (hiw : i < w) (F1 : Lf * (k - b) + Lk * (b - a) ≤ Hn * (k - a)) (F2 : b < i → Lf * (i - b) + Li * (b - a) ≤ Hn * (i - a)) (F3 : i ≤ b → Li * (k - b) + Lk * (b - i) ≤ Hn * (k - i)) :
    (Li * (k - w) + Lk * (w - i)) * (b - a) ≤ (Lf * (b - w) + Hn * (w - a)) * (k - i) := by
  have f1 : 0 ≤ Hn * (k - a) - (Lf * (k - b) + Lk * (b - a)) := by omega
  by_cases h : b < i
  · have f2 : 0 ≤ Hn * (i - a) - (Lf * (i - b) + Li * (b - a)) := by have := F2 h; omega
    have g1 := Int.mul_nonneg (show 0 ≤ w - i by omega) f1
    have g2 := Int.mul_nonneg (show 0 ≤ k - w by omega) f2
    have e : (Lf * (b - w) + Hn * (w - a)) * (k - i) - (Li * (k - w) + Lk * (w - i)) * (b - a) = (w - i) * (Hn * (k - a) - (Lf * (k - b) + Lk * (b - a))) + (k - w) * (Hn * (i - a) - (Lf * (i - b) + Li * (b - a))) := by grind
    omega
  · have f3 : 0 ≤ Hn * (k - i) - (Li * (k - b) + Lk * (b - i)) := by have := F3 (by omega); omega
    have g1 := Int.mul_nonneg (Int.mul_nonneg (show 0 ≤ w - b by omega) (show 0 ≤ k - i by omega)) f1
    have g3 := Int.mul_nonneg (Int.mul_nonneg (show 0 ≤ b - a by omega) (show 0 ≤ k - w by omega)) f3
    have e : (k - b) * ((Lf * (b - w) + Hn * (w - a)) * (k - i) - (Li * (k - w) + Lk * (w - i)) * (b - a)) = (b - a) * (k - w) * (Hn * (k - i) - (Li * (k - b) + Lk * (b - i))) + (w - b) * (k - i) * (Hn * (k - a) - (Lf * (k - b) + Lk * (b - a))) := by grind
    have h0 : 0 ≤ (k - b) * ((Lf * (b - w) + Hn * (w - a)) * (k - i) - (Li * (k - w) + Lk * (w - i)) * (b - a)) := by omega
    have := Int.nonneg_of_mul_nonneg_right h0 (by omega)
    omega
/-- What no clash says, in numbers. -/
theorem nocl_num {m : Nat} {L H : Nat → Frac} (hW : ∀ w, w < m → (L w).u = 1 ∧ (H w).u = 1) (hall : ∀ i j k, i < m → j < m → k < m → clashB L H i j k = false) {i j k : Nat} (hk : k < m) (hij : i < j) (hjk : j < k) : (L i).o * ((k : Int) - j) + (L k).o * ((j : Int) - i) ≤ (H j).o * ((k : Int) - i) := by
  have h0 := hall i j k (by omega) (by omega) hk
  unfold clashB at h0
  rw [if_neg (by omega), decide_eq_true hij, decide_eq_true hjk, Bool.true_and, Bool.true_and, above_not] at h0
  unfold lineF lineO at h0
  rw [if_neg (by omega)] at h0
  simp only [(hW i (by omega)).1, (hW k hk).1, (hW j (by omega)).2, Int.mul_one, Int.one_mul] at h0
  omega
theorem nocl_one {m : Nat} {L H : Nat → Frac} (hW : ∀ w, w < m → (L w).u = 1 ∧ (H w).u = 1) (hall : ∀ i j k, i < m → j < m → k < m → clashB L H i j k = false) {j : Nat} (hj : j < m) : (L j).o ≤ (H j).o := by
  have h0 := hall j j j hj hj hj
  unfold clashB at h0
  rw [if_pos ⟨rfl, rfl⟩, above_not] at h0
  simp only [(hW j hj).1, (hW j hj).2, Int.mul_one] at h0
  exact h0
/-- No line across a week lies above the greatest sweetness. -/
theorem across_le_up {m w i k : Nat} {L H : Nat → Frac} (hW : ∀ w, w < m → (L w).u = 1 ∧ (H w).u = 1) (hall : ∀ i j k, i < m → j < m → k < m → clashB L H i j k = false) (hi : i < w) (hk : w < k) (hkm : k < m) : LeF (lineF i (L i) k (L k) w) (upF m L H w) := by
  have hline : lineF i (L i) k (L k) w = ⟨(L i).o * ((k : Int) - w) + (L k).o * ((w : Int) - i), (k : Int) - i⟩ := by
    unfold lineF lineO
    rw [if_neg (by omega)]
    simp only [(hW i (by omega)).1, (hW k hkm).1, Int.mul_one, Int.one_mul]
  unfold upF
  rcases foreF_mem (bf := belowB) (H w) ((towardL m w).map fun p => lineF p.1 (L p.1) p.2 (H p.2) w) with e | e
  · rw [e, hline]
    have := nocl_num hW hall hkm hi hk
    unfold LeF
    rw [(hW w (by omega)).2]
    simp only [Int.mul_one]
    exact this
  · obtain ⟨⟨a, b⟩, hp, hx⟩ := List.mem_map.1 e
    rw [← hx, hline]
    have hm := toward_mem.1 hp
    simp only [] at hm ⊢
    obtain ⟨ha, hm | hm⟩ := hm
    · have F1 := nocl_num hW hall hkm hm.1 (show b < k by omega)
      have F2 : (b : Int) < i → (L a).o * ((i : Int) - b) + (L i).o * ((b : Int) - a) ≤ (H b).o * ((i : Int) - a) := fun h => nocl_num hW hall (by omega) hm.1 (by omega)
      have F3 : (i : Int) ≤ b → (L i).o * ((k : Int) - b) + (L k).o * ((b : Int) - i) ≤ (H b).o * ((k : Int) - i) := fun h => by
        by_cases hib : i = b
        · subst hib
          have := nocl_one hW hall (j := i) (by omega)
          have := Int.mul_le_mul_of_nonneg_right this (show (0 : Int) ≤ (k : Int) - i by omega)
          rw [Int.sub_self, Int.mul_zero, Int.add_zero]; exact this
        · exact nocl_num hW hall hkm (by omega) (by omega)
      have hK := key_lines (by omega) (by omega) (by omega) (by omega) F1 F2 F3 (w := w)
      unfold lineF lineO LeF
      rw [if_neg (by omega)]
      simp only [(hW a ha).1, (hW b (by omega)).2, Int.mul_one, Int.one_mul]
      exact hK
    · have F1 : (L a).o * (-(i : Int) - -(b : Int)) + (L i).o * (-(b : Int) - -(a : Int)) ≤ (H b).o * (-(i : Int) - -(a : Int)) := by
        have := nocl_num hW hall ha (show i < b by omega) hm.2
        rw [show -(i : Int) - -(b : Int) = b - i by omega, show -(b : Int) - -(a : Int) = a - b by omega, show -(i : Int) - -(a : Int) = a - i by omega]; omega
      have F2 : -(b : Int) < -(k : Int) → (L a).o * (-(k : Int) - -(b : Int)) + (L k).o * (-(b : Int) - -(a : Int)) ≤ (H b).o * (-(k : Int) - -(a : Int)) := fun h => by
        have := nocl_num hW hall ha (show k < b by omega) hm.2
        rw [show -(k : Int) - -(b : Int) = b - k by omega, show -(b : Int) - -(a : Int) = a - b by omega, show -(k : Int) - -(a : Int) = a - k by omega]; omega
      have F3 : -(k : Int) ≤ -(b : Int) → (L k).o * (-(i : Int) - -(b : Int)) + (L i).o * (-(b : Int) - -(k : Int)) ≤ (H b).o * (-(i : Int) - -(k : Int)) := fun h => by
        rw [show -(i : Int) - -(b : Int) = b - i by omega, show -(b : Int) - -(k : Int) = k - b by omega, show -(i : Int) - -(k : Int) = k - i by omega]
        by_cases hkb : k = b
        · subst hkb
          have := nocl_one hW hall (j := k) (by omega)
          have := Int.mul_le_mul_of_nonneg_right this (show (0 : Int) ≤ (k : Int) - i by omega)
          rw [Int.sub_self, Int.mul_zero, Int.add_zero]; exact this
        · have := nocl_num hW hall hkm (show i < b by omega) (show b < k by omega)
          omega
      have hK := key_lines (by omega) (by omega) (by omega) (by omega) F1 F2 F3 (w := -(w : Int))
      unfold lineF lineO LeF
      rw [if_pos (by omega)]
      simp only [(hW a ha).1, (hW b (by omega)).2, Int.mul_one, Int.one_mul]
      rw [show -(i : Int) - -(w : Int) = w - i by omega, show -(w : Int) - -(k : Int) = k - w by omega, show -(b : Int) - -(a : Int) = a - b by omega, show -(b : Int) - -(w : Int) = w - b by omega, show -(w : Int) - -(a : Int) = a - w by omega, show -(i : Int) - -(k : Int) = k - i by omega] at hK
      rw [Int.add_comm ((L i).o * ((k : Int) - w)), Int.add_comm ((H b).o * ((a : Int) - w))]
      exact hK
end Go.Proofs.Ytnhokodcmeekhaa
namespace Go.Proofs.Ytnhokodcmeekhaa
open Go Kern
theorem fore_le {fs : List Frac} {a b : Frac} (ha : LeF a b) (h : ∀ x ∈ fs, LeF x b) : LeF (foreF aboveB a fs) b := by
  rcases foreF_mem (bf := aboveB) a fs with e | e
  · rw [e]; exact ha
  · exact h _ e
/-- What holds of lows and highs without a clash. -/
structure NoCl (m : Nat) (L H : Nat → Frac) : Prop where
  u : ∀ w, w < m → (L w).u = 1 ∧ (H w).u = 1
  all : ∀ i j k, i < m → j < m → k < m → clashB L H i j k = false
theorem NoCl.pos {m : Nat} {L H : Nat → Frac} (h : NoCl m L H) : (∀ i, i < m → 0 < (L i).u) ∧ ∀ i, i < m → 0 < (H i).u := ⟨fun i hi => by rw [(h.u i hi).1]; decide, fun i hi => by rw [(h.u i hi).2]; decide⟩
theorem NoCl.none {m : Nat} {L H : Nat → Frac} (h : NoCl m L H) : ∀ w, w < m → NoneIn m (clashB L H) w := fun w hw => ⟨h.all w w w hw hw hw, fun i k hi hk hkm => h.all i w k (by omega) hw hkm⟩
/-- With a week as sweet as can be, the least sweetness of the weeks is as the reference has it. -/
theorem raised_given {m p w : Nat} {L H : Nat → Frac} {t : Frac} (hN : NoCl m L H) (hp : p < m) (hw : w < m) (htu : 0 < t.u) (ht : Eqv (upF m L H w) t) : Eqv (lowF m (raisedL m L H w) p) (givenF m L p w t) := by
  obtain ⟨hL, hH⟩ := hN.pos
  have hU := up_pos hL hH hw
  have hge := up_ge (fun i hi => hN.u i hi) hw hN.none
  have hR : ∀ i, i < m → 0 < (raisedL m L H w i).u := fun i hi => by
    unfold raisedL updF; split
    · exact hU
    · exact hL i hi
  have hRw : raisedL m L H w w = upF m L H w := if_pos rfl
  have hRn : ∀ i, i ≠ w → raisedL m L H w i = L i := fun i h => if_neg h
  have hlinesR : ∀ x ∈ (acrossL m p).map (fun q => lineF q.1 (raisedL m L H w q.1) q.2 (raisedL m L H w q.2) p), 0 < x.u := fun x hx => by
    obtain ⟨q, hq, rfl⟩ := List.mem_map.1 hx
    have := across_mem.1 hq
    exact line_pos (hR _ (by omega)) (hR _ (by omega)) (by omega)
  have hlinesL : ∀ x ∈ (acrossL m p).map (fun q => lineF q.1 (L q.1) q.2 (L q.2) p), 0 < x.u := fun x hx => by
    obtain ⟨q, hq, rfl⟩ := List.mem_map.1 hx
    have := across_mem.1 hq
    exact line_pos (hL _ (by omega)) (hL _ (by omega)) (by omega)
  obtain ⟨rp, r0, r1⟩ := fore_max _ _ (hR p hp) hlinesR
  obtain ⟨lp, l0, l1⟩ := fore_max _ _ (hL p hp) hlinesL
  have elowR : lowF m (raisedL m L H w) p = foreF aboveB (raisedL m L H w p) ((acrossL m p).map fun q => lineF q.1 (raisedL m L H w q.1) q.2 (raisedL m L H w q.2) p) := rfl
  have elow : lowF m L p = foreF aboveB (L p) ((acrossL m p).map fun q => lineF q.1 (L q.1) q.2 (L q.2) p) := rfl
  rw [← elowR] at rp r0 r1
  rw [← elow] at lp l0 l1
  unfold givenF
  by_cases hpw : p = w
  · rw [if_pos hpw]
    subst hpw
    rw [hRw] at r0
    refine ⟨?_, ht.2.trans htu hU rp r0⟩
    refine LeF.trans rp hU htu (?_ : LeF (lowF m (raisedL m L H p) p) (upF m L H p)) ht.1
    rw [elowR, hRw]
    refine fore_le (LeF.refl _) fun x hx => ?_
    obtain ⟨q, hq, rfl⟩ := List.mem_map.1 hx
    have hm := across_mem.1 hq
    rw [hRn q.1 (by omega), hRn q.2 (by omega)]
    exact across_le_up hN.u hN.all hm.1 hm.2.1 hm.2.2
  · rw [if_neg hpw]
    rw [hRn p hpw] at r0
    have hgl : ∀ x ∈ givenL L p w t m, 0 < x.u := fun x hx => by
      obtain ⟨i, hi, rfl⟩ := List.mem_map.1 hx
      obtain ⟨h1, h2⟩ := List.mem_filter.1 hi
      have h3 : i < m := by simpa using h1
      have h4 : i ≠ w := by rintro rfl; simp [gcB] at h2; omega
      exact line_pos (hL i h3) htu (by omega)
    obtain ⟨gp, g0, g1⟩ := fore_max (givenL L p w t m) (lowF m L p) lp hgl
    have hgmem : ∀ i, i < m → gcB p w i = true → LeF (lineF i (L i) w t p) (foreF aboveB (lowF m L p) (givenL L p w t m)) := fun i hi hg => g1 _ (List.mem_map.2 ⟨i, List.mem_filter.2 ⟨by simpa using hi, hg⟩, rfl⟩)
    have hrmem : ∀ i k, i < p → p < k → k < m → LeF (lineF i (raisedL m L H w i) k (raisedL m L H w k) p) (lowF m (raisedL m L H w) p) := fun i k hi hk hkm => r1 _ (List.mem_map.2 ⟨(i, k), across_mem.2 ⟨hi, hk, hkm⟩, rfl⟩)
    constructor
    · rw [elowR]
      refine fore_le ?_ fun x hx => ?_
      · rw [hRn p hpw]; exact l0.trans (hL p hp) lp gp g0
      · obtain ⟨⟨i, k⟩, hq, rfl⟩ := List.mem_map.1 hx
        obtain ⟨hi, hk, hkm⟩ := across_mem.1 hq
        simp only [] at hi hk hkm ⊢
        by_cases hiw : i = w
        · subst hiw
          rw [hRw, hRn k (by omega), line_swap _ _ _ _ _ (by omega)]
          have h1 := line_eqv (i := k) (w := i) (p := p) (hL k hkm) ht (by omega)
          exact h1.1.trans (line_pos (hL k hkm) hU (by omega)) (line_pos (hL k hkm) htu (by omega)) gp (hgmem k hkm (by simp [gcB]; omega))
        · by_cases hkw : k = w
          · subst hkw
            rw [hRw, hRn i hiw]
            have h1 := line_eqv (i := i) (w := k) (p := p) (hL i (by omega)) ht (by omega)
            exact h1.1.trans (line_pos (hL i (by omega)) hU (by omega)) (line_pos (hL i (by omega)) htu (by omega)) gp (hgmem i (by omega) (by simp [gcB]; omega))
          · rw [hRn i hiw, hRn k hkw]
            exact (l1 _ (List.mem_map.2 ⟨(i, k), across_mem.2 ⟨hi, hk, hkm⟩, rfl⟩)).trans (line_pos (hL i (by omega)) (hL k hkm) (by omega)) lp gp g0
    · refine fore_le ?_ fun x hx => ?_
      · rw [elow]
        refine fore_le r0 fun x hx => ?_
        obtain ⟨⟨i, k⟩, hq, rfl⟩ := List.mem_map.1 hx
        obtain ⟨hi, hk, hkm⟩ := across_mem.1 hq
        simp only [] at hi hk hkm ⊢
        have hr := hrmem i k hi hk hkm
        by_cases hiw : i = w
        · subst hiw
          rw [hRw, hRn k (by omega), line_swap _ _ _ _ _ (by omega)] at hr
          rw [line_swap _ _ _ _ _ (by omega)]
          exact (line_mono (hL k hkm) hge (by omega)).trans (line_pos (hL k hkm) (hL i (by omega)) (by omega)) (line_pos (hL k hkm) hU (by omega)) rp hr
        · by_cases hkw : k = w
          · subst hkw
            rw [hRw, hRn i hiw] at hr
            exact (line_mono (hL i (by omega)) hge (by omega)).trans (line_pos (hL i (by omega)) (hL k hkm) (by omega)) (line_pos (hL i (by omega)) hU (by omega)) rp hr
          · rw [hRn i hiw, hRn k hkw] at hr
            exact hr
      · obtain ⟨i, hi, rfl⟩ := List.mem_map.1 hx
        obtain ⟨h1, h2⟩ := List.mem_filter.1 hi
        have h3 : i < m := by simpa using h1
        by_cases hip : i = p
        · subst hip
          exact (line_start (L i) t (by omega)).1.trans (line_pos (hL i h3) htu (by omega)) (hL i h3) rp r0
        · have h4 : (i < p ∧ p < w) ∨ (w < p ∧ p < i) := by simp [gcB] at h2; omega
          have he := line_eqv (i := i) (w := w) (p := p) (hL i h3) ht (by omega)
          have hlu := line_pos (a := i) (b := w) (w := p) (hL i h3) htu (by omega)
          have hlu2 := line_pos (a := i) (b := w) (w := p) (hL i h3) hU (by omega)
          rcases h4 with ⟨h5, h6⟩ | ⟨h5, h6⟩
          · have hr := hrmem i w h5 h6 hw
            rw [hRw, hRn i (by omega)] at hr
            exact he.2.trans hlu hlu2 rp hr
          · have hr := hrmem w i h5 h6 h3
            rw [hRw, hRn i (by omega), line_swap _ _ _ _ _ (by omega)] at hr
            exact he.2.trans hlu hlu2 rp hr
theorem minus_eqv {x x' y y' : Frac} (h : Eqv x x') (k : Eqv y y') : Eqv (minusF x y) (minusF x' y') := by
  have h1 := h.eq
  have h2 := k.eq
  refine Eqv.of ?_
  unfold minusF
  simp only []
  have e1 : x.o * y.u * (x'.u * y'.u) = x.o * x'.u * (y.u * y'.u) := by ac_rfl
  have e2 : x'.o * y'.u * (x.u * y.u) = x'.o * x.u * (y.u * y'.u) := by ac_rfl
  have e3 : y.o * x.u * (x'.u * y'.u) = y.o * y'.u * (x.u * x'.u) := by ac_rfl
  have e4 : y'.o * x'.u * (x.u * y.u) = y'.o * y.u * (x.u * x'.u) := by ac_rfl
  rw [Int.sub_mul, Int.sub_mul, e1, e2, e3, e4, h1, h2]
theorem fore_eqv_map {m : Nat} {f g : Nat → Frac} {a : Frac} (ha : 0 < a.u) (hf : ∀ i, i < m → 0 < (f i).u ∧ 0 < (g i).u) (h : ∀ i, i < m → Eqv (f i) (g i)) : Eqv (foreF aboveB a ((List.range m).map f)) (foreF aboveB a ((List.range m).map g)) := by
  have key : ∀ {f g : Nat → Frac}, (∀ i, i < m → 0 < (f i).u ∧ 0 < (g i).u) → (∀ i, i < m → LeF (f i) (g i)) → LeF (foreF aboveB a ((List.range m).map f)) (foreF aboveB a ((List.range m).map g)) := fun {f g} hf h => by
    obtain ⟨gp, g0, g1⟩ := fore_max ((List.range m).map g) a ha fun x hx => by
      obtain ⟨i, hi, rfl⟩ := List.mem_map.1 hx
      exact (hf i (by simpa using hi)).2
    refine fore_le g0 fun x hx => ?_
    obtain ⟨i, hi, rfl⟩ := List.mem_map.1 hx
    have hi' : i < m := by simpa using hi
    exact (h i hi').trans (hf i hi').1 (hf i hi').2 gp (g1 _ (List.mem_map_of_mem hi))
  exact ⟨key hf fun i hi => (h i hi).1, key (fun i hi => (hf i hi).symm) fun i hi => (h i hi).2⟩
/-- Both regrets are worth the same. -/
theorem reg_eqv {m p : Nat} {L H : Nat → Frac} (hm : m ≤ 30) (hN : NoCl m L H) (hL : ∀ i, i < m → Mid 60000 1 (L i)) (hH : ∀ i, i < m → Mid 60000 1 (H i)) (hp : p < m) : Eqv (regF m L H p) (rregF m L H p) := by
  obtain ⟨hLp, hHp⟩ := hN.pos
  refine fore_eqv_map (by decide) (fun w hw => ⟨(loss_mid hm hp hw hL hH).2.1, (rloss_mid hm hp hw hL hH).2.1⟩) fun w hw => ?_
  have hu : Eqv (upF m L H w) (rupF m L H w) := Eqv.of (up_eqv hLp hHp hw)
  exact minus_eqv hu (raised_given hN hp hw (rup_pos hLp hHp hw) hu)
end Go.Proofs.Ytnhokodcmeekhaa
namespace Go.Proofs.Ytnhokodcmeekhaa
open Go Kern
/-! The reference's Regret and Cut, as the program's -/
theorem rreg_congr {m p : Nat} {L H M K : Nat → Frac} (h : ∀ i, i < m → L i = M i) (h2 : ∀ i, i < m → H i = K i) (hp : p < m) : rregF m L H p = rregF m M K p := by
  unfold rregF
  congr 1
  refine List.map_congr_left fun w hw => ?_
  have hw' : w < m := by simpa using hw
  unfold rlossF givenF givenL
  rw [rupF_congr h h2 hw', lowF_congr h hp]
  congr 3
  refine List.map_congr_left fun i hi => ?_
  have : i < m := by simpa using (List.mem_filter.1 hi).1
  rw [h i this]
theorem nocl_of {m : Nat} {lo hi : Int} {ss : List SampD} (h1 : fieldErr m lo hi ss = 0) (hc : ∀ i j k, i < m → j < m → k < m → hB lo hi ss i j k = false) : NoCl m (LF m lo hi ss) (HF m lo hi ss) := by
  obtain ⟨hm, hb⟩ := base_ok h1
  exact ⟨fun w hw => ⟨(hb w hw).1.1, (hb w hw).2.1.1⟩, fun i j k hi' hj hk => by
    show clashB (bndN m lo hi ss).1 (bndN m lo hi ss).2 i j k = false
    rw [hB_eq h1 i j k hi' hj hk]; exact hc i j k hi' hj hk⟩
abbrev RR (m : Nat) (lo hi : Int) (ss : List SampD) : Nat → Frac := rregF m (wF (LR lo hi ss)) (wF (HR lo hi ss))
theorem RF_eqv {m : Nat} {lo hi : Int} {ss : List SampD} (h1 : fieldErr m lo hi ss = 0) (hc : ∀ i j k, i < m → j < m → k < m → hB lo hi ss i j k = false) {p : Nat} (hp : p < m) : Eqv (RF m lo hi ss p) (RR m lo hi ss p) ∧ 0 < (RF m lo hi ss p).u ∧ Mid 291600000000 810000 (RR m lo hi ss p) := by
  obtain ⟨hm, hb⟩ := base_ok h1
  have hL : ∀ i, i < m → Mid 60000 1 (LF m lo hi ss i) := fun i hi => (hb i hi).1.mid
  have hH : ∀ i, i < m → Mid 60000 1 (HF m lo hi ss i) := fun i hi => (hb i hi).2.1.mid
  have e : RR m lo hi ss p = rregF m (LF m lo hi ss) (HF m lo hi ss) p := (rreg_congr (fun i hi => LF_ref h1 hi) (fun i hi => HF_ref h1 hi) hp).symm
  rw [e]
  exact ⟨reg_eqv (by omega) (nocl_of h1 hc) hL hH hp, (reg_mid (by omega) hp hL hH).1.2.1, rreg_mid (by omega) hp (Nat.le_refl _) hL hH⟩
theorem above_eqv1 {x y T : Frac} (hx : 0 < x.u) (hy : 0 < y.u) (h : x.o * y.u = y.o * x.u) : aboveB x T = aboveB y T := by
  have key : ∀ {x y : Frac}, 0 < x.u → 0 < y.u → x.o * y.u = y.o * x.u → aboveB x T = true → aboveB y T = true := fun {x y} hx hy h ha => by
    rw [above_iff] at ha ⊢
    have h1 := Int.mul_lt_mul_of_pos_right ha hy
    have e1 : x.o * T.u * y.u = y.o * T.u * x.u := by rw [Int.mul_right_comm, h, Int.mul_right_comm]
    have e2 : T.o * x.u * y.u = T.o * y.u * x.u := by rw [Int.mul_right_comm]
    rw [e1, e2] at h1
    exact Int.lt_of_mul_lt_mul_right h1 (by omega)
  rw [Bool.eq_iff_iff]
  exact ⟨key hx hy h, key hy hx h.symm⟩
theorem best_eqv {m : Nat} {R S : Nat → Frac} (h : ∀ w, w < m → Eqv (R w) (S w) ∧ 0 < (R w).u ∧ 0 < (S w).u) : ∀ k, k < m → bestI R k = bestI S k
  | 0, _ => rfl
  | k + 1, hk => by
    unfold bestI
    have ih := best_eqv h k (by omega)
    have hb := bestI_le S k
    obtain ⟨e1, p1, q1⟩ := h (bestI S k) (by omega)
    obtain ⟨e2, p2, q2⟩ := h (k + 1) hk
    rw [ih, above_eqv1 p1 q1 e1.eq, above_eqv p2 q2 e2.eq]
set_option maxRecDepth 100000 in
set_option maxHeartbeats 4000000 in
theorem refRegret_ev (n lo hi week : Int) (v : Value) (ss : List SampD) (s : St) (hs : SmAt s v ss) (hl : ss.length ≤ 1000000) : Ev TT 30 [fieldV n lo hi v, .int .i64 week] s fun r s' => Keep s s' ∧ ∃ x e, r = .tuple #[.int .i64 x, .int .i64 e] ∧ RegA n lo hi ss week x e := by
  have hck := refKnown_ev n lo hi v ss
  have hbo := fun (m : Nat) (e : n = m) (s : St) (h : SmAt s v ss) hc => ends_ev m lo hi v ss s h hc
  obtain ⟨a, c, rfl⟩ := hs.shape
  rw [List.length_map] at hs hck hbo ⊢
  unfold fieldV at hck hbo ⊢
  refine Ev.intro (fn := Try.f30) rfl (by kernel_rfl) rfl rfl ?_
  apply zz
  refine Cd.ra (h := ?_)
  apply Run.by_eq
  · intro self
    conv => lhs; simp -implicitDefEqProofs (maxSteps := 300000) (disch := omega) [-getElem?_pos, -getElem?_neg]
  try (with_reducible refine Run.ret ?_)
  apply zz
  refine Cd.ra (h := ?_)
  apply Run.by_eq
  · intro self
    conv => lhs; simp -implicitDefEqProofs (maxSteps := 300000) (disch := omega) [-getElem?_pos, -getElem?_neg]
  try (with_reducible refine Run.ret ?_)
  apply zz
  refine Run.call ((hck _ (hs.keep ⟨by (try simp only [pushed_next', upded_next']); omega, fun i hi => by simp -implicitDefEqProofs (disch := omega) []⟩) hl).mono fun v wy hv => ?_)
  obtain ⟨y, w0, e, rfl, hK⟩ := hv
  have ya := y.1
  have yb := y.2
  try simp only [pushed_next', upded_next'] at ya yb
  obtain ⟨hA, how⟩ := hK.ans
  have y0 : wy.heap.get s.next = some (.cells [.int .i64 n, .int .i64 lo, .int .i64 hi, .slice a ss.length c] none) := by rw [yb _ (by omega)]; simp -implicitDefEqProofs (disch := omega)
  apply Run.by_eq
  · intro self
    conv => lhs; simp -implicitDefEqProofs (maxSteps := 300000) (disch := omega) [-getElem?_pos, -getElem?_neg]
  try (with_reducible refine Run.ret ?_)
  apply zz
  rcases hA with ⟨h1, rfl, _⟩ | ⟨h1, rfl, _, hc⟩ | ⟨h1, rfl, _, hc⟩
  · apply zz
    refine Cd.ra (h := ?_)
    apply Run.by_eq
    · intro self
      conv => lhs; simp -implicitDefEqProofs (maxSteps := 300000) (disch := omega) [-getElem?_pos, -getElem?_neg, h1]
    try (with_reducible refine Run.ret ?_)
    apply zz
    apply Cd.ite rfl
    · conv => lhs; simp -implicitDefEqProofs (maxSteps := 300000) (disch := omega) [-getElem?_pos, -getElem?_neg]
    all_goals intro c0
    all_goals try (cases c0; done)
    all_goals try simp only [Bool.not_eq_true', Bool.not_eq_false', decide_eq_true_eq, decide_eq_false_iff_not] at c0
    all_goals apply zz
    apply zz
    refine Cd.ra (h := ?_)
    apply Run.by_eq
    · intro self
      conv => lhs; simp -implicitDefEqProofs (maxSteps := 300000) (disch := omega) [-getElem?_pos, -getElem?_neg]
    try (with_reducible refine Run.ret ?_)
    apply zz
    apply Leave.mk (by first | exact .inl rfl | exact .inr rfl) (by simp only [Fr.marks_put, fr0_marks])
    · conv => lhs; simp -implicitDefEqProofs (disch := omega) [Try.results30]
    exact ⟨⟨by (try simp only [pushed_next', upded_next']); omega, fun i hi => by simp -implicitDefEqProofs (disch := omega) [yb]⟩, _, _, rfl, .inl ⟨h1, rfl, rfl⟩⟩
  · apply zz
    refine Cd.ra (h := ?_)
    apply Run.by_eq
    · intro self
      conv => lhs; simp -implicitDefEqProofs (maxSteps := 300000) (disch := omega) [-getElem?_pos, -getElem?_neg]
    try (with_reducible refine Run.ret ?_)
    apply zz
    apply Cd.ite rfl
    · conv => lhs; simp -implicitDefEqProofs (maxSteps := 300000) (disch := omega) [-getElem?_pos, -getElem?_neg]
    all_goals intro c0
    all_goals try (cases c0; done)
    all_goals try simp only [Bool.not_eq_true', Bool.not_eq_false', decide_eq_true_eq, decide_eq_false_iff_not] at c0
    all_goals apply zz
    apply zz
    refine Cd.ra (h := ?_)
    apply Run.by_eq
    · intro self
      conv => lhs; simp -implicitDefEqProofs (maxSteps := 300000) (disch := omega) [-getElem?_pos, -getElem?_neg]
    try (with_reducible refine Run.ret ?_)
    apply zz
    apply Leave.mk (by first | exact .inl rfl | exact .inr rfl) (by simp only [Fr.marks_put, fr0_marks])
    · conv => lhs; simp -implicitDefEqProofs (disch := omega) [Try.results30]
    exact ⟨⟨by (try simp only [pushed_next', upded_next']); omega, fun i hi => by simp -implicitDefEqProofs (disch := omega) [yb]⟩, _, _, rfl, .inr (.inl ⟨h1, rfl, rfl, hc⟩)⟩
  have hok := (fieldErr_ok h1).1
  obtain ⟨m, rfl⟩ : ∃ m : Nat, n = m := ⟨n.toNat, by omega⟩
  simp only [Int.toNat_natCast] at hc ⊢
  obtain ⟨hm, _⟩ := base_ok h1
  have va : veq 4 (Value.slice a ss.length c) (Value.slice a ss.length c) = true := slAt_veq hs 3
  have his := fun s => is_ev week 0 ((m : Int) - 1) s
  simp only [week_ref] at his
  apply zz
  refine Cd.ra (h := ?_)
  apply Run.by_eq
  · intro self
    conv => lhs; simp -implicitDefEqProofs (maxSteps := 300000) (disch := omega) [-getElem?_pos, -getElem?_neg]
  try (with_reducible refine Run.ret ?_)
  apply zz
  apply Cd.ite rfl
  · conv => lhs; simp -implicitDefEqProofs (maxSteps := 300000) (disch := omega) [-getElem?_pos, -getElem?_neg]
  all_goals intro c0
  all_goals try (cases c0; done)
  all_goals try simp only [Bool.not_eq_true', Bool.not_eq_false', decide_eq_true_eq, decide_eq_false_iff_not] at c0
  all_goals apply zz
  apply zz
  refine Cd.ra (h := ?_)
  apply Run.by_eq
  · intro self
    conv => lhs; simp -implicitDefEqProofs (maxSteps := 300000) (disch := omega) [-getElem?_pos, -getElem?_neg, y0]
  try (with_reducible refine Run.ret ?_)
  apply zz
  refine Run.call ((his _).mono fun v wx hv => ?_)
  obtain ⟨rfl, x⟩ := hv
  have xa := x.1
  have xb := x.2
  try simp only [pushed_next', upded_next'] at xa xb
  have x0 := (xb _ (by omega)).trans y0
  cases hwb : weekB m week with
  | false =>
    apply Run.by_eq
    · intro self
      conv => lhs; simp -implicitDefEqProofs (maxSteps := 300000) (disch := omega) [-getElem?_pos, -getElem?_neg]
    try (with_reducible refine Run.ret ?_)
    apply zz
    apply Cd.ite rfl
    · conv => lhs; simp -implicitDefEqProofs (maxSteps := 300000) (disch := omega) [-getElem?_pos, -getElem?_neg]
    all_goals intro c1
    all_goals try (cases c1; done)
    all_goals try simp only [Bool.not_eq_true', Bool.not_eq_false', decide_eq_true_eq, decide_eq_false_iff_not] at c1
    all_goals apply zz
    apply zz
    refine Cd.ra (h := ?_)
    apply Run.by_eq
    · intro self
      conv => lhs; simp -implicitDefEqProofs (maxSteps := 300000) (disch := omega) [-getElem?_pos, -getElem?_neg]
    try (with_reducible refine Run.ret ?_)
    apply zz
    apply Leave.mk (by first | exact .inl rfl | exact .inr rfl) (by simp only [Fr.marks_put, fr0_marks])
    · conv => lhs; simp -implicitDefEqProofs (disch := omega) [Try.results30]
    exact ⟨⟨by (try simp only [pushed_next', upded_next']); omega, fun i hi => by simp -implicitDefEqProofs (disch := omega) [xb, yb]⟩, _, _, rfl, .inr (.inr ⟨h1, .inl ⟨hwb, rfl, rfl⟩, hc⟩)⟩
  | true =>
    have hw2 := weekB_ok hwb
    obtain ⟨w, rfl⟩ : ∃ w : Nat, week = w := ⟨week.toNat, by omega⟩
    have hwm : w < m := by omega
    obtain ⟨hE1, hE2, hE3⟩ := RF_eqv h1 hc hwm
    have hce := ce_eqv hE2 hE3.2.1 hE1.eq
    have hE := fun w => endN_all h1 w
    apply Run.by_eq
    · intro self
      conv => lhs; simp -implicitDefEqProofs (maxSteps := 300000) (disch := omega) [-getElem?_pos, -getElem?_neg]
    try (with_reducible refine Run.ret ?_)
    apply zz
    apply Cd.ite rfl
    · conv => lhs; simp -implicitDefEqProofs (maxSteps := 300000) (disch := omega) [-getElem?_pos, -getElem?_neg]
    all_goals intro c1
    all_goals try (cases c1; done)
    all_goals try simp only [Bool.not_eq_true', Bool.not_eq_false', decide_eq_true_eq, decide_eq_false_iff_not] at c1
    all_goals apply zz
    apply zz
    refine Cd.ra (h := ?_)
    apply Run.by_eq
    · intro self
      conv => lhs; simp -implicitDefEqProofs (maxSteps := 300000) (disch := omega) [-getElem?_pos, -getElem?_neg, x0, va]
    try (with_reducible refine Run.ret ?_)
    apply zz
    refine Run.call ((hbo m rfl _ (hs.keep ⟨by (try simp only [pushed_next', upded_next']); omega, fun i hi => by simp -implicitDefEqProofs (disch := omega) [xb, yb]⟩) h1).mono fun v wz hv => ?_)
    obtain ⟨z, q1, q2, rfl, hq1, hq2⟩ := hv
    have za := z.1
    have zb := z.2
    have hrr : ∀ s', Keep wz s' → Ev TT 65 [q1, q2, .int .i64 w] s' (fun r s'' => r = (RR m lo hi ss w).v ∧ Keep s' s'') := fun s' k => rregret_ev m (LR lo hi ss) (HR lo hi ss) q1 q2 w s' (hq1.keep k) (hq2.keep k) (by omega) hwm (fun w _ => (hE w).1) fun w _ => (hE w).2
    have ho1 : oneV q1 = true := by obtain ⟨a, c, rfl⟩ := hq1.shape; rfl
    have ho2 : oneV q2 = true := by obtain ⟨a, c, rfl⟩ := hq2.shape; rfl
    unfold Mid at hE3
    generalize hX : RR m lo hi ss w = X at *
    apply Run.by_eq
    · intro self
      conv => lhs; simp -implicitDefEqProofs (maxSteps := 300000) (disch := omega) [-getElem?_pos, -getElem?_neg]
    try (with_reducible refine Run.ret ?_)
    apply zz
    refine Cd.ra (h := ?_)
    apply Run.by_eq
    · intro self
      conv => lhs; simp -implicitDefEqProofs (maxSteps := 300000) (disch := omega) [-getElem?_pos, -getElem?_neg]
    try (with_reducible refine Run.ret ?_)
    apply zz
    refine Run.call ((hrr _ (Keep.refl _)).mono fun v wu hv => ?_)
    obtain ⟨rfl, u⟩ := hv
    have ua := u.1
    have ub := u.2
    try simp only [pushed_next', upded_next'] at ua ub
    apply Run.by_eq
    · intro self
      conv => lhs; simp -implicitDefEqProofs (maxSteps := 300000) (disch := omega) [-getElem?_pos, -getElem?_neg]
    try (with_reducible refine Run.ret ?_)
    apply zz
    refine Run.call ((ceil_ev X _ hE3.2.1 (by omega)).mono fun v wt hv => ?_)
    obtain ⟨rfl, t⟩ := hv
    have ta := t.1
    have tb := t.2
    try simp only [pushed_next', upded_next'] at ta tb
    apply Run.by_eq
    · intro self
      conv => lhs; simp -implicitDefEqProofs (maxSteps := 300000) (disch := omega) [-getElem?_pos, -getElem?_neg]
    try (with_reducible refine Run.ret ?_)
    apply zz
    apply Leave.mk (by first | exact .inl rfl | exact .inr rfl) (by simp only [Fr.marks_put, fr0_marks])
    · conv => lhs; simp -implicitDefEqProofs (disch := omega) [Try.results30]
    exact ⟨⟨by (try simp only [pushed_next', upded_next']); omega, fun i hi => by simp -implicitDefEqProofs (disch := omega) [tb, ub, zb, xb, yb]⟩, _, _, rfl, .inr (.inr ⟨h1, .inr ⟨hwb, rfl, by rw [Int.toNat_natCast, hce]⟩, hc⟩)⟩
set_option maxRecDepth 100000 in
set_option maxHeartbeats 4000000 in
theorem refCut_ev (n lo hi : Int) (v : Value) (ss : List SampD) (s : St) (hs : SmAt s v ss) (hl : ss.length ≤ 1000000) : Ev TT 32 [fieldV n lo hi v] s fun r s' => Keep s s' ∧ ∃ w x e, r = .tuple #[.int .i64 w, .int .i64 x, .int .i64 e] ∧ Ans n lo hi ss e (w = 0 ∧ x = 0) (w = (bestI (RF n lo hi ss) (n.toNat - 1) : Nat) ∧ x = ceF (RF n lo hi ss (bestI (RF n lo hi ss) (n.toNat - 1)))) := by
  have hck := refKnown_ev n lo hi v ss
  have hbo := fun (m : Nat) (e : n = m) (s : St) (h : SmAt s v ss) hc => ends_ev m lo hi v ss s h hc
  obtain ⟨a, c, rfl⟩ := hs.shape
  rw [List.length_map] at hs hck hbo ⊢
  unfold fieldV at hck hbo ⊢
  refine Ev.intro (fn := Try.f32) rfl (by kernel_rfl) rfl rfl ?_
  apply zz
  refine Cd.ra (h := ?_)
  apply Run.by_eq
  · intro self
    conv => lhs; simp -implicitDefEqProofs (maxSteps := 300000) (disch := omega) [-getElem?_pos, -getElem?_neg]
  try (with_reducible refine Run.ret ?_)
  apply zz
  refine Cd.ra (h := ?_)
  apply Run.by_eq
  · intro self
    conv => lhs; simp -implicitDefEqProofs (maxSteps := 300000) (disch := omega) [-getElem?_pos, -getElem?_neg]
  try (with_reducible refine Run.ret ?_)
  apply zz
  refine Run.call ((hck _ (hs.keep ⟨by (try simp only [pushed_next', upded_next']); omega, fun i hi => by simp -implicitDefEqProofs (disch := omega) []⟩) hl).mono fun v wy hv => ?_)
  obtain ⟨y, w0, e, rfl, hK⟩ := hv
  have ya := y.1
  have yb := y.2
  try simp only [pushed_next', upded_next'] at ya yb
  obtain ⟨hA, how⟩ := hK.ans
  have y0 : wy.heap.get s.next = some (.cells [.int .i64 n, .int .i64 lo, .int .i64 hi, .slice a ss.length c] none) := by rw [yb _ (by omega)]; simp -implicitDefEqProofs (disch := omega)
  apply Run.by_eq
  · intro self
    conv => lhs; simp -implicitDefEqProofs (maxSteps := 300000) (disch := omega) [-getElem?_pos, -getElem?_neg]
  try (with_reducible refine Run.ret ?_)
  apply zz
  rcases hA with ⟨h1, rfl, _⟩ | ⟨h1, rfl, _, hc⟩ | ⟨h1, rfl, _, hc⟩
  · apply zz
    refine Cd.ra (h := ?_)
    apply Run.by_eq
    · intro self
      conv => lhs; simp -implicitDefEqProofs (maxSteps := 300000) (disch := omega) [-getElem?_pos, -getElem?_neg, h1]
    try (with_reducible refine Run.ret ?_)
    apply zz
    apply Cd.ite rfl
    · conv => lhs; simp -implicitDefEqProofs (maxSteps := 300000) (disch := omega) [-getElem?_pos, -getElem?_neg]
    all_goals intro c0
    all_goals try (cases c0; done)
    all_goals try simp only [Bool.not_eq_true', Bool.not_eq_false', decide_eq_true_eq, decide_eq_false_iff_not] at c0
    all_goals apply zz
    apply zz
    refine Cd.ra (h := ?_)
    apply Run.by_eq
    · intro self
      conv => lhs; simp -implicitDefEqProofs (maxSteps := 300000) (disch := omega) [-getElem?_pos, -getElem?_neg]
    try (with_reducible refine Run.ret ?_)
    apply zz
    apply Leave.mk (by first | exact .inl rfl | exact .inr rfl) (by simp only [Fr.marks_put, fr0_marks])
    · conv => lhs; simp -implicitDefEqProofs (disch := omega) [Try.results32]
    exact ⟨⟨by (try simp only [pushed_next', upded_next']); omega, fun i hi => by simp -implicitDefEqProofs (disch := omega) [yb]⟩, _, _, _, rfl, .inl ⟨h1, rfl, rfl, rfl⟩⟩
  · apply zz
    refine Cd.ra (h := ?_)
    apply Run.by_eq
    · intro self
      conv => lhs; simp -implicitDefEqProofs (maxSteps := 300000) (disch := omega) [-getElem?_pos, -getElem?_neg]
    try (with_reducible refine Run.ret ?_)
    apply zz
    apply Cd.ite rfl
    · conv => lhs; simp -implicitDefEqProofs (maxSteps := 300000) (disch := omega) [-getElem?_pos, -getElem?_neg]
    all_goals intro c0
    all_goals try (cases c0; done)
    all_goals try simp only [Bool.not_eq_true', Bool.not_eq_false', decide_eq_true_eq, decide_eq_false_iff_not] at c0
    all_goals apply zz
    apply zz
    refine Cd.ra (h := ?_)
    apply Run.by_eq
    · intro self
      conv => lhs; simp -implicitDefEqProofs (maxSteps := 300000) (disch := omega) [-getElem?_pos, -getElem?_neg]
    try (with_reducible refine Run.ret ?_)
    apply zz
    apply Leave.mk (by first | exact .inl rfl | exact .inr rfl) (by simp only [Fr.marks_put, fr0_marks])
    · conv => lhs; simp -implicitDefEqProofs (disch := omega) [Try.results32]
    exact ⟨⟨by (try simp only [pushed_next', upded_next']); omega, fun i hi => by simp -implicitDefEqProofs (disch := omega) [yb]⟩, _, _, _, rfl, .inr (.inl ⟨h1, rfl, ⟨rfl, rfl⟩, hc⟩)⟩
  have hok := (fieldErr_ok h1).1
  obtain ⟨m, rfl⟩ : ∃ m : Nat, n = m := ⟨n.toNat, by omega⟩
  simp only [Int.toNat_natCast] at hc ⊢
  obtain ⟨hm, _⟩ := base_ok h1
  have va : veq 4 (Value.slice a ss.length c) (Value.slice a ss.length c) = true := slAt_veq hs 3
  have hRE := fun w (hw : w < m) => RF_eqv h1 hc hw
  have hbe := best_eqv (m := m) (R := RF m lo hi ss) (S := RR m lo hi ss) fun w hw => ⟨(hRE w hw).1, (hRE w hw).2.1, (hRE w hw).2.2.2.1⟩
  have hE := fun w => endN_all h1 w
  rw [hbe (m - 1) (by omega)]
  have hble := bestI_le (RR m lo hi ss) (m - 1)
  have hce := ce_eqv (hRE (bestI (RR m lo hi ss) (m - 1)) (by omega)).2.1 (hRE (bestI (RR m lo hi ss) (m - 1)) (by omega)).2.2.2.1 (hRE (bestI (RR m lo hi ss) (m - 1)) (by omega)).1.eq
  rw [hce]
  have hmr := fun w (hw : w < m) => (hRE w hw).2.2
  clear hRE hbe hce
  apply zz
  refine Cd.ra (h := ?_)
  apply Run.by_eq
  · intro self
    conv => lhs; simp -implicitDefEqProofs (maxSteps := 300000) (disch := omega) [-getElem?_pos, -getElem?_neg]
  try (with_reducible refine Run.ret ?_)
  apply zz
  apply Cd.ite rfl
  · conv => lhs; simp -implicitDefEqProofs (maxSteps := 300000) (disch := omega) [-getElem?_pos, -getElem?_neg]
  all_goals intro c0
  all_goals try (cases c0; done)
  all_goals try simp only [Bool.not_eq_true', Bool.not_eq_false', decide_eq_true_eq, decide_eq_false_iff_not] at c0
  all_goals apply zz
  apply zz
  refine Cd.ra (h := ?_)
  apply Run.by_eq
  · intro self
    conv => lhs; simp -implicitDefEqProofs (maxSteps := 300000) (disch := omega) [-getElem?_pos, -getElem?_neg, y0, va]
  try (with_reducible refine Run.ret ?_)
  apply zz
  refine Run.call ((hbo m rfl _ (hs.keep ⟨by (try simp only [pushed_next', upded_next']); omega, fun i hi => by simp -implicitDefEqProofs (disch := omega) [yb]⟩) h1).mono fun v wz hv => ?_)
  obtain ⟨z, q1, q2, rfl, hq1, hq2⟩ := hv
  have za := z.1
  have zb := z.2
  have z0 := (zb _ (by omega)).trans y0
  have hOf := fun w s' (k : Keep wz s') hw => rregret_ev m (LR lo hi ss) (HR lo hi ss) q1 q2 w s' (hq1.keep k) (hq2.keep k) (by omega) hw (fun w _ => (hE w).1) fun w _ => (hE w).2
  change ∀ w s', Keep wz s' → w < m → Ev TT 65 [q1, q2, .int .i64 w] s' (fun r s'' => r = (RR m lo hi ss w).v ∧ Keep s' s'') at hOf
  have ho1 : oneV q1 = true := by obtain ⟨a, c, rfl⟩ := hq1.shape; rfl
  have ho2 : oneV q2 = true := by obtain ⟨a, c, rfl⟩ := hq2.shape; rfl
  generalize hR : RR m lo hi ss = R at *
  apply Run.by_eq
  · intro self
    conv => lhs; simp -implicitDefEqProofs (maxSteps := 300000) (disch := omega) [-getElem?_pos, -getElem?_neg]
  try (with_reducible refine Run.ret ?_)
  apply zz
  refine Cd.ra (h := ?_)
  apply Run.by_eq
  · intro self
    conv => lhs; simp -implicitDefEqProofs (maxSteps := 300000) (disch := omega) [-getElem?_pos, -getElem?_neg]
  try (with_reducible refine Run.ret ?_)
  apply zz
  refine Run.call ((hOf 0 _ (Keep.refl _) (by omega)).mono fun v wu hv => ?_)
  obtain ⟨rfl, u⟩ := hv
  have ua := u.1
  have ub := u.2
  have u0 := (ub _ (by omega)).trans z0
  apply Run.by_eq
  · intro self
    conv => lhs; simp -implicitDefEqProofs (maxSteps := 300000) (disch := omega) [-getElem?_pos, -getElem?_neg, v_eq]
  try (with_reducible refine Run.ret ?_)
  apply zz
  refine Cd.ra (h := ?_)
  apply Run.by_eq
  · intro self
    conv => lhs; simp -implicitDefEqProofs (maxSteps := 300000) (disch := omega) [-getElem?_pos, -getElem?_neg]
  try (with_reducible refine Run.ret ?_)
  apply zz
  refine Cd.inv (fun z f s' => ∃ k : Nat, k + 1 ≤ m ∧ z = m - (k + 1) ∧ f.marks = [] ∧ f.get 1 = .pointer (some ⟨s.next, 0, none⟩) ∧ f.get 7 = q1 ∧ f.get 8 = q2 ∧ f.get 9 = .int .i64 (bestI R k : Nat) ∧ f.get 10 = .pointer (some ⟨wu.next, 0, none⟩) ∧ f.get 11 = .int .i64 (k + 1 : Nat) ∧ Keep wu s' ∧ wu.next < s'.next ∧ s'.heap.get wu.next = some (.cells [.int .i64 (R (bestI R k)).o, .int .i64 (R (bestI R k)).u] none)) (m - 1) ?_ ?_
  · exact ⟨0, by omega, rfl, by simp, by simp, by simp, by simp, by simp [bestI], by simp, by simp, ⟨by (try simp only [pushed_next', upded_next']); omega, fun i hi => by simp -implicitDefEqProofs (disch := omega) []⟩, by simp, by simp -implicitDefEqProofs (disch := omega) [bestI]⟩
  rintro zz0 f s1 ⟨k, hk, rfl, hmk, g1, g7, g8, g9, g10, g11, hkp, hnx, hg⟩
  have hkpa := hkp.1
  have hkpb := hkp.2
  have hg0 := (hkpb _ (by omega)).trans u0
  have hbl := bestI_le R k
  have hmb := hmr (bestI R k) (by omega)
  by_cases hlt : k + 1 < m
  · have hst : bestI R (k + 1) = if aboveB (R (bestI R k)) (R (k + 1)) = true then k + 1 else bestI R k := rfl
    have hmk1 := hmr (k + 1) hlt
    have hOk := fun s' kk => hOf (k + 1) s' kk hlt
    have hfit := hmk1.fits hmb (by decide)
    generalize hK : k + 1 = k1 at *
    have hlt' : (k1 : Int) < m := by omega
    apply zz
    refine Cd.ra (h := ?_)
    apply Run.by_eq
    · intro self
      conv => lhs; simp -implicitDefEqProofs (maxSteps := 300000) (disch := omega) [-getElem?_pos, -getElem?_neg, g11, g1, hg0, hlt']
    try (with_reducible refine Run.ret ?_)
    apply zz
    apply Cd.ite rfl
    · conv => lhs; simp -implicitDefEqProofs (maxSteps := 300000) (disch := omega) [-getElem?_pos, -getElem?_neg]
    all_goals intro c1
    all_goals try (cases c1; done)
    all_goals try simp only [Bool.not_eq_true', Bool.not_eq_false', decide_eq_true_eq, decide_eq_false_iff_not] at c1
    all_goals apply zz
    apply zz
    refine Cd.ra (h := ?_)
    apply Run.by_eq
    · intro self
      conv => lhs; simp -implicitDefEqProofs (maxSteps := 300000) (disch := omega) [-getElem?_pos, -getElem?_neg, g7, g8, g11]
    try (with_reducible refine Run.ret ?_)
    apply zz
    refine Run.call ((hOk _ (u.trans hkp)).mono fun v wx hv => ?_)
    obtain ⟨rfl, x⟩ := hv
    have xa := x.1
    have xb := x.2
    have x1 := (xb _ hnx).trans hg
    apply Run.by_eq
    · intro self
      conv => lhs; simp -implicitDefEqProofs (maxSteps := 300000) (disch := omega) [-getElem?_pos, -getElem?_neg, v_eq]
    try (with_reducible refine Run.ret ?_)
    apply zz
    refine Cd.ra (h := ?_)
    apply Run.by_eq
    · intro self
      conv => lhs; simp -implicitDefEqProofs (maxSteps := 300000) (disch := omega) [-getElem?_pos, -getElem?_neg, g10, x1]
    try (with_reducible refine Run.ret ?_)
    apply zz
    rw [← v_eq, ← v_eq]
    refine Run.call ((less_ev (R k1) (R (bestI R k)) _ hfit).mono fun v wt hv => ?_)
    obtain ⟨rfl, t⟩ := hv
    have ta := t.1
    have tb := t.2
    try simp only [pushed_next', upded_next'] at ta tb
    have t1 : wt.heap.get wu.next = some (.cells [.int .i64 (R (bestI R k)).o, .int .i64 (R (bestI R k)).u] none) := by rw [tb _ (by (try simp only [pushed_next', upded_next']); omega)]; simp -implicitDefEqProofs (disch := omega) [x1]
    have t2 : wt.heap.get wx.next = some (.cells [.int .i64 (R k1).o, .int .i64 (R k1).u] none) := by rw [tb _ (by (try simp only [pushed_next', upded_next']); omega)]; simp -implicitDefEqProofs (disch := omega)
    have kt : Keep wu wt := ⟨by (try simp only [pushed_next', upded_next'] at *); omega, fun i hi => by rw [tb i (by (try simp only [pushed_next', upded_next']); omega)]; simp -implicitDefEqProofs (disch := omega) [xb, hkpb]⟩
    have ktn : wx.next + 1 ≤ wt.next := by (try simp only [pushed_next', upded_next'] at *); omega
    cases hab : aboveB (R (bestI R k)) (R k1) with
    | true =>
      rw [hab, if_pos rfl] at hst
      apply Run.by_eq
      · intro self
        conv => lhs; simp -implicitDefEqProofs (maxSteps := 300000) (disch := omega) [-getElem?_pos, -getElem?_neg]
      try (with_reducible refine Run.ret ?_)
      apply zz
      apply Cd.ite rfl
      · conv => lhs; simp -implicitDefEqProofs (maxSteps := 300000) (disch := omega) [-getElem?_pos, -getElem?_neg]
      all_goals intro c2
      all_goals try (cases c2; done)
      all_goals try simp only [Bool.not_eq_true', Bool.not_eq_false', decide_eq_true_eq, decide_eq_false_iff_not] at c2
      all_goals apply zz
      apply zz
      refine Cd.drawn (pl := [(0, 0, false, false), (1, 0, false, false), (2, 1, false, false), (3, 7, true, false)]) (by kernel_rfl) (by conv => lhs; simp only [List.map_cons, List.map_nil]) (by conv => lhs; simp [strip, ordered]) ?_
      apply Run.by_eq
      · intro self
        conv => lhs; simp -implicitDefEqProofs (maxSteps := 300000) (disch := omega) [filter_bt, (show ∀ i, Nat.testBit 7 i = decide (i < 3) from fun i => Nat.testBit_two_pow_sub_one 3 i), -getElem?_pos, -getElem?_neg, g11, g10, t1, t2]
      try (with_reducible refine Run.ret ?_)
      apply zz
      refine Cd.ra (h := ?_)
      apply Run.by_eq
      · intro self
        conv => lhs; simp -implicitDefEqProofs (maxSteps := 300000) (disch := omega) [-getElem?_pos, -getElem?_neg, g11]
      try (with_reducible refine Run.ret ?_)
      apply zz
      refine LoopK.nm (m - (k1 + 1)) (by omega) ⟨k1, by omega, rfl, by simp [hmk], by simp [g1], by simp [g7], by simp [g8], ?_, by simp [g10], by simp, ⟨by (try simp only [upded_next']); omega, fun i hi => by rw [get_upded_other _ _ _ _ (by omega)]; exact kt.2 i hi⟩, by (try simp only [upded_next']); omega, ?_⟩
      · rw [hst]; simp
      · rw [hst]; simp -implicitDefEqProofs (disch := omega)
    | false =>
      rw [hab, if_neg (by decide)] at hst
      apply Run.by_eq
      · intro self
        conv => lhs; simp -implicitDefEqProofs (maxSteps := 300000) (disch := omega) [-getElem?_pos, -getElem?_neg]
      try (with_reducible refine Run.ret ?_)
      apply zz
      apply Cd.ite rfl
      · conv => lhs; simp -implicitDefEqProofs (maxSteps := 300000) (disch := omega) [-getElem?_pos, -getElem?_neg]
      all_goals intro c2
      all_goals try (cases c2; done)
      all_goals try simp only [Bool.not_eq_true', Bool.not_eq_false', decide_eq_true_eq, decide_eq_false_iff_not] at c2
      all_goals apply zz
      apply zz
      refine Cd.ra (h := ?_)
      apply Run.by_eq
      · intro self
        conv => lhs; simp -implicitDefEqProofs (maxSteps := 300000) (disch := omega) [-getElem?_pos, -getElem?_neg, g11]
      try (with_reducible refine Run.ret ?_)
      apply zz
      refine LoopK.nm (m - (k1 + 1)) (by omega) ⟨k1, by omega, rfl, by simp [hmk], by simp [g1], by simp [g7], by simp [g8], ?_, by simp [g10], by simp, kt, by omega, ?_⟩
      · rw [hst]; simp [g9]
      · rw [hst]; exact t1
  · obtain rfl : m = k + 1 := by omega
    simp only [Nat.add_sub_cancel]
    generalize bestI R k = B at *
    unfold Mid at hmb
    apply zz
    refine Cd.ra (h := ?_)
    apply Run.by_eq
    · intro self
      conv => lhs; simp -implicitDefEqProofs (maxSteps := 300000) (disch := omega) [-getElem?_pos, -getElem?_neg, g11, g1, hg0]
    try (with_reducible refine Run.ret ?_)
    apply zz
    apply Cd.ite rfl
    · conv => lhs; simp -implicitDefEqProofs (maxSteps := 300000) (disch := omega) [-getElem?_pos, -getElem?_neg]
    all_goals intro c1
    all_goals try (cases c1; done)
    all_goals try simp only [Bool.not_eq_true', Bool.not_eq_false', decide_eq_true_eq, decide_eq_false_iff_not] at c1
    all_goals apply zz
    apply zz
    refine Cd.ra (h := ?_)
    apply Run.by_eq
    · intro self
      conv => lhs; simp -implicitDefEqProofs (maxSteps := 300000) (disch := omega) [-getElem?_pos, -getElem?_neg, g9, g10, hg]
    try (with_reducible refine Run.ret ?_)
    apply zz
    rw [← v_eq]
    refine Run.call ((ceil_ev (R B) _ hmb.2.1 (by omega)).mono fun v wt hv => ?_)
    obtain ⟨rfl, t⟩ := hv
    have ta := t.1
    have tb := t.2
    try simp only [pushed_next', upded_next'] at ta tb
    apply Run.by_eq
    · intro self
      conv => lhs; simp -implicitDefEqProofs (maxSteps := 300000) (disch := omega) [-getElem?_pos, -getElem?_neg]
    try (with_reducible refine Run.ret ?_)
    apply zz
    apply Leave.mk (by first | exact .inl rfl | exact .inr rfl) (by simp only [Fr.marks_put, fr0_marks, hmk])
    · conv => lhs; simp -implicitDefEqProofs (disch := omega) [Try.results32, hmk]
    exact ⟨⟨by omega, fun i hi => by rw [tb i (by omega), hkpb i (by omega), ub i (by omega), zb i (by omega)]; simp -implicitDefEqProofs (disch := omega) [yb]⟩, _, _, _, rfl, .inr (.inr ⟨h1, rfl, ⟨rfl, rfl⟩, hc⟩)⟩
end Go.Proofs.Ytnhokodcmeekhaa
namespace Go.Proofs.Ytnhokodcmeekhaa
open Go Kern
/-! The examples of the chapter -/
def ssF : List SampD := [⟨0, 1000, 20⟩, ⟨2, 1400, 20⟩, ⟨4, 1200, 30⟩]
def ssZ : List SampD := [⟨0, 1000, 20⟩, ⟨2, 900, 10⟩, ⟨4, 1200, 30⟩]
theorem errF : fieldErr 5 0 2000 ssF = 0 := by kernel_rfl
theorem errZ : fieldErr 5 0 2000 ssZ = 0 := by kernel_rfl
theorem noclF : ∀ i j k, i < 5 → j < 5 → k < 5 → hB 0 2000 ssF i j k = false := by
  have h : ((List.range 5).all fun i => (List.range 5).all fun j => (List.range 5).all fun k => !hB 0 2000 ssF i j k) = true := by kernel_rfl
  intro i j k hi hj hk
  have h1 := List.all_eq_true.1 h i (by simpa using hi)
  have h2 := List.all_eq_true.1 h1 j (by simpa using hj)
  have h3 := List.all_eq_true.1 h2 k (by simpa using hk)
  simpa using h3
theorem clZ : hB 0 2000 ssZ 0 2 4 = true := by kernel_rfl
theorem rowsF : (List.range 5).map (knownRow 5 0 2000 ssF) = ([(980, 1020), (1180, 1545), (1380, 1420), (1275, 1640), (1170, 1230)] : List (Int × Int)).map spP := by kernel_rfl
theorem peaksF : wkL 5 (fromB (UF 5 0 2000 ssF) (topF 5 (LF 5 0 2000 ssF))) = [1, 2, 3] := by kernel_rfl
theorem surelyF : wkL 5 (fromB (WF 5 0 2000 ssF) ⟨limI 1300, 1⟩) = [2] := by kernel_rfl
theorem perhapsF : wkL 5 (fromB (UF 5 0 2000 ssF) ⟨limI 1300, 1⟩) = [1, 2, 3] := by kernel_rfl
theorem regF3 : ceF (RF 5 0 2000 ssF 3) = 250 := by kernel_rfl
theorem cutF1 : bestI (RF 5 0 2000 ssF) 4 = 2 := by kernel_rfl
theorem cutF2 : ceF (RF 5 0 2000 ssF 2) = 220 := by kernel_rfl
theorem verZ : verF 5 0 2000 ssZ [0, 2, 4] = 0 := by kernel_rfl
theorem verFF : verF 5 0 2000 ssF [0, 2, 4] = 11 := by kernel_rfl
theorem Ans.F {e : Int} {bad good : Prop} (h : Ans 5 0 2000 ssF e bad good) : e = 0 ∧ good := by
  rcases h with ⟨h, _⟩ | ⟨_, _, _, i, j, k, hi, hj, hk, h⟩ | ⟨_, h, g, _⟩
  · exact absurd errF h
  · rw [noclF i j k hi hj hk] at h; cases h
  · exact ⟨h, g⟩
theorem known_F {w : Value} {e : Int} {s : St} (h : KnownA 5 0 2000 ssF w e s) : e = 0 ∧ SpAt s w [(980, 1020), (1180, 1545), (1380, 1420), (1275, 1640), (1170, 1230)] := by
  rcases h with ⟨h, _⟩ | ⟨_, _, _, i, j, k, hi, hj, hk, h⟩ | ⟨_, h, g, _⟩
  · exact absurd errF h
  · rw [noclF i j k hi hj hk] at h; cases h
  · refine ⟨h, ?_⟩
    have : (List.range (5 : Int).toNat).map (knownRow (5 : Int).toNat 0 2000 ssF) = _ := rowsF
    rw [this] at g; exact g
theorem known_Z {w : Value} {e : Int} {s : St} (h : KnownA 5 0 2000 ssZ w e s) : e = 12 ∧ w = .slice none 0 0 := by
  rcases h with ⟨h, _⟩ | ⟨_, h, g, _⟩ | ⟨_, _, _, h⟩
  · exact absurd errZ h
  · exact ⟨h, g⟩
  · have := h 0 2 4 (by decide) (by decide) (by decide); rw [clZ] at this; cases this
theorem clash_Z {w : Value} {e : Int} {s : St} (h : ClashA (fieldErr 5 0 2000 ssZ) (5 : Int).toNat (hB 0 2000 ssZ) w e s) : e = 0 ∧ Trip 5 (hB 0 2000 ssZ) w s := by
  rcases h with ⟨h, _⟩ | ⟨_, _, _, h⟩ | ⟨_, h, g⟩
  · exact absurd errZ h
  · have := h 0 2 4 (by decide) (by decide) (by decide); rw [clZ] at this; cases this
  · exact ⟨h, g⟩
theorem reg_F {r e : Int} (h : RegA 5 0 2000 ssF 3 r e) : e = 0 ∧ r = 250 := by
  rcases h with ⟨h, _⟩ | ⟨_, _, _, i, j, k, hi, hj, hk, h⟩ | ⟨_, h, _⟩
  · exact absurd errF h
  · rw [noclF i j k hi hj hk] at h; cases h
  · rcases h with ⟨h, _⟩ | ⟨_, h, g⟩
    · cases h
    · exact ⟨h, g.trans regF3⟩
set_option maxRecDepth 100000 in
theorem span_ev (a b : Int) (s : St) : Ev TT 37 [.int .i64 a, .int .i64 b] s fun r s' => r = .agg #[.int .i64 a, .int .i64 b] ∧ Keep s s' := by
  refine Ev.intro (fn := Try.f37) rfl (by kernel_rfl) rfl rfl ?_
  apply zz
  refine Cd.ra (h := ?_)
  apply Run.by_eq
  · intro self
    conv => lhs; simp -implicitDefEqProofs (maxSteps := 300000) (disch := omega) [-getElem?_pos, -getElem?_neg]
  try (with_reducible refine Run.ret ?_)
  apply zz
  refine Cd.ra (h := ?_)
  apply Run.by_eq
  · intro self
    conv => lhs; simp -implicitDefEqProofs (maxSteps := 300000) (disch := omega) [-getElem?_pos, -getElem?_neg]
  try (with_reducible refine Run.ret ?_)
  apply zz
  apply Leave.mk (by first | exact .inl rfl | exact .inr rfl) (by simp only [Fr.marks_put, fr0_marks])
  · conv => lhs; simp -implicitDefEqProofs (disch := omega) [Try.results37]
  exact ⟨rfl, ⟨by (try simp only [pushed_next', upded_next']); omega, fun i hi => by simp -implicitDefEqProofs (disch := omega) []⟩⟩
def csF : List Value := [.int .i64 0, .int .i64 1000, .int .i64 20, .int .i64 2, .int .i64 1400, .int .i64 20, .int .i64 4, .int .i64 1200, .int .i64 30]
def csZ : List Value := [.int .i64 0, .int .i64 1000, .int .i64 20, .int .i64 2, .int .i64 900, .int .i64 10, .int .i64 4, .int .i64 1200, .int .i64 30]
set_option maxRecDepth 100000 in
set_option maxHeartbeats 1000000 in
theorem F_ev (s : St) : Ev TT 38 [] s fun r s' => Keep s s' ∧ ∃ b, r = .agg #[.int .i64 5, .int .i64 0, .int .i64 2000, .slice (some ⟨b, 0, none⟩) 3 3] ∧ s.next ≤ b ∧ b < s'.next ∧ s'.heap.get b = some (.cells csF none) := by
  refine Ev.intro (fn := Try.f38) rfl (by kernel_rfl) rfl rfl ?_
  apply zz
  refine Cd.ra (h := ?_)
  apply Run.by_eq
  · intro self
    conv => lhs; simp -implicitDefEqProofs (maxSteps := 300000) (disch := omega) [-getElem?_pos, -getElem?_neg]
  try (with_reducible refine Run.ret ?_)
  apply zz
  refine Cd.ra (h := ?_)
  apply Run.by_eq
  · intro self
    conv => lhs; simp -implicitDefEqProofs (maxSteps := 300000) (disch := omega) [-getElem?_pos, -getElem?_neg]
  try (with_reducible refine Run.ret ?_)
  apply zz
  refine Run.call ((span_ev 0 2000 _).mono fun v wy hv => ?_)
  obtain ⟨rfl, y⟩ := hv
  have ya := y.1
  have yb := y.2
  try simp only [pushed_next', upded_next'] at ya yb
  have y0 : wy.heap.get s.next = some (.cells [.int .i64 0, .int .i64 0, .int .i64 0, .slice none 0 0] none) := by rw [yb _ (by omega)]; simp -implicitDefEqProofs (disch := omega)
  have hr3 : repeatL [Value.int .i64 0, .int .i64 0, .int .i64 0] 3 = [.int .i64 0, .int .i64 0, .int .i64 0, .int .i64 0, .int .i64 0, .int .i64 0, .int .i64 0, .int .i64 0, .int .i64 0] := rfl
  have hp1 : overL [Value.int .i64 0, .int .i64 1000, .int .i64 20] [.int .i64 0, .int .i64 0, .int .i64 0, .int .i64 0, .int .i64 0, .int .i64 0, .int .i64 0, .int .i64 0, .int .i64 0] = some [.int .i64 0, .int .i64 1000, .int .i64 20, .int .i64 0, .int .i64 0, .int .i64 0, .int .i64 0, .int .i64 0, .int .i64 0] := rfl
  have hp2 : putL 3 [Value.int .i64 2, .int .i64 1400, .int .i64 20] [.int .i64 0, .int .i64 1000, .int .i64 20, .int .i64 0, .int .i64 0, .int .i64 0, .int .i64 0, .int .i64 0, .int .i64 0] = some [.int .i64 0, .int .i64 1000, .int .i64 20, .int .i64 2, .int .i64 1400, .int .i64 20, .int .i64 0, .int .i64 0, .int .i64 0] := rfl
  have hp3 : putL 6 [Value.int .i64 4, .int .i64 1200, .int .i64 30] [.int .i64 0, .int .i64 1000, .int .i64 20, .int .i64 2, .int .i64 1400, .int .i64 20, .int .i64 0, .int .i64 0, .int .i64 0] = some [.int .i64 0, .int .i64 1000, .int .i64 20, .int .i64 2, .int .i64 1400, .int .i64 20, .int .i64 4, .int .i64 1200, .int .i64 30] := rfl
  apply Run.by_eq
  · intro self
    conv => lhs; simp -implicitDefEqProofs (maxSteps := 300000) (disch := omega) [-getElem?_pos, -getElem?_neg, y0, hr3, hp1, hp2, hp3]
  try (with_reducible refine Run.ret ?_)
  apply zz
  apply Leave.mk (by first | exact .inl rfl | exact .inr rfl) (by simp only [Fr.marks_put, fr0_marks])
  · conv => lhs; simp -implicitDefEqProofs (disch := omega) [Try.results38]
  refine ⟨⟨by (try simp only [pushed_next', upded_next']); omega, fun i hi => by simp -implicitDefEqProofs (disch := omega) [yb]⟩, wy.next, rfl, by omega, by simp, ?_⟩
  unfold csF
  simp -implicitDefEqProofs (disch := omega)
theorem smF {s : St} {b : Nat} (h : b < s.next) (hg : s.heap.get b = some (.cells csF none)) : SmAt s (.slice (some ⟨b, 0, none⟩) 3 3) ssF := sl_of_cells (n := 3) (l := ssF.map SampD.cs) h (samp_len _) hg
theorem smZ {s : St} {b : Nat} (h : b < s.next) (hg : s.heap.get b = some (.cells csZ none)) : SmAt s (.slice (some ⟨b, 0, none⟩) 3 3) ssZ := sl_of_cells (n := 3) (l := ssZ.map SampD.cs) h (samp_len _) hg
set_option maxRecDepth 100000 in
set_option maxHeartbeats 1000000 in
theorem Z_ev (s : St) : Ev TT 39 [] s fun r s' => Keep s s' ∧ ∃ b, r = .agg #[.int .i64 5, .int .i64 0, .int .i64 2000, .slice (some ⟨b, 0, none⟩) 3 3] ∧ s.next ≤ b ∧ b < s'.next ∧ s'.heap.get b = some (.cells csZ none) := by
  refine Ev.intro (fn := Try.f39) rfl (by kernel_rfl) rfl rfl ?_
  apply zz
  refine Cd.ra (h := ?_)
  apply Run.by_eq
  · intro self
    conv => lhs; simp -implicitDefEqProofs (maxSteps := 300000) (disch := omega) [-getElem?_pos, -getElem?_neg]
  try (with_reducible refine Run.ret ?_)
  apply zz
  refine Cd.ra (h := ?_)
  apply Run.by_eq
  · intro self
    conv => lhs; simp -implicitDefEqProofs (maxSteps := 300000) (disch := omega) [-getElem?_pos, -getElem?_neg]
  try (with_reducible refine Run.ret ?_)
  apply zz
  refine Run.call ((F_ev _).mono fun v wy hv => ?_)
  obtain ⟨y, b, rfl, hb1, hb2, hb3⟩ := hv
  have ya := y.1
  have yb := y.2
  try simp only [pushed_next', upded_next'] at ya yb hb1
  have y0 : wy.heap.get s.next = some (.cells [.int .i64 0, .int .i64 0, .int .i64 0, .slice none 0 0] none) := by rw [yb _ (by omega)]; simp -implicitDefEqProofs (disch := omega)
  have hb3' : wy.heap.get b = some (.cells [.int .i64 0, .int .i64 1000, .int .i64 20, .int .i64 2, .int .i64 1400, .int .i64 20, .int .i64 4, .int .i64 1200, .int .i64 30] none) := hb3
  have hbn : ¬ b = wy.next := by omega
  have hbs : ¬ b = s.next := by omega
  have hp2 : putL 3 [Value.int .i64 2, .int .i64 900, .int .i64 10] [.int .i64 0, .int .i64 1000, .int .i64 20, .int .i64 2, .int .i64 1400, .int .i64 20, .int .i64 4, .int .i64 1200, .int .i64 30] = some [.int .i64 0, .int .i64 1000, .int .i64 20, .int .i64 2, .int .i64 900, .int .i64 10, .int .i64 4, .int .i64 1200, .int .i64 30] := rfl
  apply Run.by_eq
  · intro self
    conv => lhs; simp -implicitDefEqProofs (maxSteps := 300000) (disch := omega) [-getElem?_pos, -getElem?_neg]
  try (with_reducible refine Run.ret ?_)
  apply zz
  refine Cd.ra (h := ?_)
  apply Run.by_eq
  · intro self
    conv => lhs; simp -implicitDefEqProofs (maxSteps := 300000) (disch := omega) [-getElem?_pos, -getElem?_neg, hb3', hbn, hp2]
  try (with_reducible refine Run.ret ?_)
  apply zz
  refine Cd.ra (h := ?_)
  apply Run.by_eq
  · intro self
    conv => lhs; simp -implicitDefEqProofs (maxSteps := 300000) (disch := omega) [-getElem?_pos, -getElem?_neg, y0, hbn, hbs]
  try (with_reducible refine Run.ret ?_)
  apply zz
  apply Leave.mk (by first | exact .inl rfl | exact .inr rfl) (by simp only [Fr.marks_put, fr0_marks])
  · conv => lhs; simp -implicitDefEqProofs (disch := omega) [Try.results39]
  refine ⟨⟨by (try simp only [pushed_next', upded_next']); omega, fun i hi => by simp -implicitDefEqProofs (disch := omega) [yb]⟩, b, rfl, by omega, by (try simp only [pushed_next', upded_next']); omega, ?_⟩
  unfold csZ
  simp -implicitDefEqProofs (disch := omega)
end Go.Proofs.Ytnhokodcmeekhaa
