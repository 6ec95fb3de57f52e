/-
  Every operation that the calculation takes is calculated rightly. It holds of every program whose table of types and functions fits (TabOk).
-/
import Derived.Test.YteeamkdblcinnaaKernU
namespace Go.Proofs.Yteeamkdblcinnaa.Kern
open Go Go.RowKit

/-- What a made-ready operation is good for. -/
def CompOk (P : Program) (T : Tab) (o : Oper) (self : Self) : CAct → Prop
  | .pure g => PureOk P o g
  | .new g => NewOk P o g
  | .act g => ActOk P o (g self) ∨ (∃ c f, o.op = .call c ∧ c.callee = .value f ∧ (g = eCall f c.args.toList)) ∨ ∃ c r name, o.op = .call c ∧ c.callee = .invoke r name ∧ g = eInvoke T r name c.args.toList

theorem plainFn_ne {fn : Fn} (h : plainFn fn = true) : ∀ l, fn ≠ .yield l := by
  intro l e; subst e; simp [plainFn] at h

theorem comp_ok {P : Program} {T : Tab} (hT : TabOk P T) (hP : T.prog = P) {o : Oper} {act : CAct} (self : Self) (h : comp T o = some act) : CompOk P T o self act := by
  cases ho : o.op with
  | move x => simp only [comp, ho] at h; cases h; exact mov_ok (.inl ho)
  | assign x => simp only [comp, ho] at h; cases h; exact mov_ok (.inr ho)
  | pick c a b => simp only [comp, ho] at h; cases h; exact pick_ok ho
  | alloc t => simp only [comp, ho] at h; obtain ⟨z, hz, h⟩ := ob_eq h; cases h; exact alloc_ok hT ho hz
  | box t x => simp only [comp, ho] at h; cases h; exact box_ok ho
  | build t ps =>
    simp only [comp, ho] at h
    obtain ⟨z, hz, h⟩ := ob_eq h
    obtain ⟨d, hd, h⟩ := ob_eq h
    split at h
    · obtain ⟨pl, hpl, h⟩ := ob_eq h
      obtain ⟨l, hl, h⟩ := ob_eq h
      cases h
      exact buildS_ok hT ho hz hd hpl hl
    · obtain ⟨n, hn, h⟩ := ob_eq h
      cases h
      exact buildA_ok hT ho hz hd hn
    · cases h
  | buildSlice t len ps =>
    simp only [comp, ho] at h
    obtain ⟨d, hd, h⟩ := ob_eq h
    split at h
    · obtain ⟨n, hn, h⟩ := ob_eq h
      obtain ⟨z, hz, h⟩ := ob_eq h
      obtain ⟨hc, h⟩ := gd_eq h
      cases h
      exact buildSl_ok hT ho hd hn hz hc
    · cases h
  | load t a => simp only [comp, ho] at h; obtain ⟨m, hm, h⟩ := ob_eq h; cases h; exact load_ok ho hm hT
  | store t a x => simp only [comp, ho] at h; obtain ⟨n, hn, h⟩ := ob_eq h; cases h; exact .inl (store_ok hT self ho hn)
  | binOp op t x y yT => simp only [comp, ho] at h; obtain ⟨d, hd, h⟩ := ob_eq h; cases h; exact bin_ok hT hP ho hd
  | unOp op t x => simp only [comp, ho] at h; cases h; exact un_ok ho
  | convert s d x =>
    simp only [comp, ho] at h
    obtain ⟨d0, hs, h⟩ := ob_eq h
    obtain ⟨d1, hd, h⟩ := ob_eq h
    split at h
    · cases h; exact conv_ok hT ho hs hd
    · cases h
  | makeFunc fn first captured => simp only [comp, ho] at h; obtain ⟨hf, h⟩ := gd_eq h; cases h; exact makeFunc_ok (plainFn_ne hf) ho
  | makeMap t r => cases r with
    | none => simp only [comp, ho] at h; cases h; exact makeMap_ok ho
    | some r =>
      simp only [comp, ho] at h
      obtain ⟨d, hd, h⟩ := ob_eq h
      split at h
      · cases h; exact makeMapN_ok hT ho hd
      · cases h
  | makeSlice t l c =>
    simp only [comp, ho] at h
    obtain ⟨d, hd, h⟩ := ob_eq h
    split at h
    · obtain ⟨n, hn, h⟩ := ob_eq h
      obtain ⟨z, hz, h⟩ := ob_eq h
      obtain ⟨by', hby, h⟩ := ob_eq h
      obtain ⟨hc, h⟩ := gd_eq h
      cases h
      exact makeSl_ok hT ho hd hn hz hby hc
    · cases h
  | fieldAddr t x f =>
    simp only [comp, ho] at h
    obtain ⟨d, hd, h⟩ := ob_eq h
    split at h
    · obtain ⟨fd, hf, h⟩ := ob_eq h
      obtain ⟨n, hn, h⟩ := ob_eq h
      obtain ⟨h0, h⟩ := gd_eq h
      cases h
      exact fieldAddr_ok hT ho hd hf hn h0
    · cases h
  | field t x f =>
    simp only [comp, ho] at h
    obtain ⟨d, hd, h⟩ := ob_eq h
    split at h
    · obtain ⟨fd, hf, h⟩ := ob_eq h
      obtain ⟨m, hm, h⟩ := ob_eq h
      cases h
      exact field_ok hT ho hd hf hm
    · cases h
  | indexAddr t x i =>
    simp only [comp, ho] at h
    obtain ⟨d, hd, h⟩ := ob_eq h
    split at h
    · obtain ⟨n, hn, h⟩ := ob_eq h; cases h; exact indexAddrA_ok hT ho hd hn
    · obtain ⟨n, hn, h⟩ := ob_eq h; cases h; exact indexAddrS_ok hT ho hd hn
    · cases h
  | index t x i =>
    simp only [comp, ho] at h
    obtain ⟨d, hd, h⟩ := ob_eq h
    split at h
    · obtain ⟨n, hn, h⟩ := ob_eq h
      obtain ⟨m, hm, h⟩ := ob_eq h
      cases h
      exact indexA_ok hT ho hd hn hm
    · cases h; exact indexStr_ok hT ho hd
    · cases h
  | lookup t x k ok =>
    simp only [comp, ho] at h
    obtain ⟨d, hd, h⟩ := ob_eq h
    split at h
    · obtain ⟨kd, hk, h⟩ := ob_eq h
      obtain ⟨z, hz, h⟩ := ob_eq h
      cases h
      exact lookup_ok hT ho hd hk hz
    · cases h
  | mapUpdate t m k x =>
    simp only [comp, ho] at h
    obtain ⟨d, hd, h⟩ := ob_eq h
    split at h
    · obtain ⟨kd, hk, h⟩ := ob_eq h
      cases h
      exact .inl (mapUpd_ok hT self (.inl ho) hd hk)
    · cases h
  | insert t m k x =>
    simp only [comp, ho] at h
    obtain ⟨d, hd, h⟩ := ob_eq h
    split at h
    · obtain ⟨kd, hk, h⟩ := ob_eq h
      cases h
      exact .inl (mapUpd_ok hT self (.inr ho) hd hk)
    · cases h
  | extract t i => simp only [comp, ho] at h; cases h; exact extract_ok ho
  | makeInterface t x =>
    simp only [comp, ho] at h
    obtain ⟨d, hd, h⟩ := ob_eq h
    split at h
    · cases h
    · rename_i hn
      cases h
      exact iface_ok hT ho hd (fun ms e => hn ms e)
  | call c =>
    simp only [comp, ho] at h
    split at h
    · rename_i f hc
      cases h
      exact .inr (.inl ⟨c, f, ho, hc, rfl⟩)
    · rename_i r name hc
      cases h
      exact .inr (.inr ⟨c, r, name, ho, hc, rfl⟩)
    · rename_i hc
      split at h
      · rename_i t ts x xs ht ha
        obtain ⟨d, hd, h⟩ := ob_eq h
        split at h
        · cases h; exact lenStr_ok hT ho hc ht ha hd
        · cases h; exact lenSl_ok hT ho hc ht ha hd
        · cases h; exact lenArr_ok hT ho hc ht ha hd
        · cases h; exact lenMap_ok hT ho hc ht ha hd
        · cases h
      · cases h
    · rename_i hc
      split at h
      · rename_i t ts x xs ht ha
        obtain ⟨d, hd, h⟩ := ob_eq h
        split at h
        · cases h; exact cap_ok hT ho hc ht ha hd
        · cases h
      · cases h
    · rename_i hc
      split at h
      · rename_i x xs ha
        cases h
        exact ext_ok (mx := false) ho hc ha
      · cases h
    · rename_i hc
      split at h
      · rename_i x xs ha
        cases h
        exact ext_ok (mx := true) ho hc ha
      · cases h
    · rename_i hc
      split at h
      · rename_i t ts s x xs ht ha
        obtain ⟨d, hd, h⟩ := ob_eq h
        split at h
        · obtain ⟨n, hn, h⟩ := ob_eq h
          cases h
          exact .inl (copy_ok hT self ho hc ht ha hd hn)
        · cases h
      · cases h
    · rename_i hc
      split at h
      · rename_i t t1 ts s x xs ht ha
        obtain ⟨d, hd, h⟩ := ob_eq h
        obtain ⟨d1, hd1, h⟩ := ob_eq h
        split at h
        · obtain ⟨n, hn, h⟩ := ob_eq h
          obtain ⟨by', hby, h⟩ := ob_eq h
          obtain ⟨z, hz, h⟩ := ob_eq h
          obtain ⟨hck, h⟩ := gd_eq h
          cases h
          exact .inl (append_ok hT self ho hc ht ha hd hd1 hn hby hz hck)
        · obtain ⟨n, hn, h⟩ := ob_eq h
          obtain ⟨by', hby, h⟩ := ob_eq h
          obtain ⟨z, hz, h⟩ := ob_eq h
          obtain ⟨hck, h⟩ := gd_eq h
          cases h
          exact .inl (grow_ok hT self ho hc ht ha hd hd1 hn hby hz hck)
        · cases h
      · cases h
    · cases h
  | ready g => simp only [comp, ho] at h; cases h
  | waits g => simp only [comp, ho] at h; cases h
  | nilCheck x => simp only [comp, ho] at h; cases h; exact nil_ok ho
  | sliceToArrayPointer d x => simp only [comp, ho] at h; cases h
  | makeChan t s => simp only [comp, ho] at h; cases h
  | slice t x lo hi mx =>
    cases mx with
    | some m => simp only [comp, ho] at h; cases h
    | none =>
      simp only [comp, ho] at h
      obtain ⟨d, hd, h⟩ := ob_eq h
      split at h
      · obtain ⟨n, hn, h⟩ := ob_eq h; cases h; exact sliceS_ok hT ho hd hn
      · obtain ⟨n, hn, h⟩ := ob_eq h; cases h; exact sliceA_ok hT ho hd hn
      · cases h; exact sliceStr_ok hT ho hd
      · cases h
  | mapEntry t m k => simp only [comp, ho] at h; cases h
  | entryStore t m s v => simp only [comp, ho] at h; cases h
  | range t x => simp only [comp, ho] at h; cases h
  | next i b => simp only [comp, ho] at h; cases h
  | entry i => simp only [comp, ho] at h; cases h
  | typeAssert x t u c => simp only [comp, ho] at h; cases h
  | go c => simp only [comp, ho] at h; cases h
  | defer c => simp only [comp, ho] at h; cases h
  | panic x => simp only [comp, ho] at h; cases h
  | send c x => simp only [comp, ho] at h; cases h
  | recv t c b => simp only [comp, ho] at h; cases h
  | select cs b => simp only [comp, ho] at h; cases h

theorem comp_nodefer {T : Tab} {o : Oper} {act : CAct} (h : comp T o = some act) : ∀ c, o.op ≠ .defer c := by
  intro c ho
  simp only [comp, ho] at h
  cases h
end Go.Proofs.Yteeamkdblcinnaa.Kern
