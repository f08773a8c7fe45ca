/- A map from ints to bools, all true, as a set, with the number of its keys. No program's function is spoken of here. -/
import Derived.Test.YtgkplcipplpobaaRow
import Derived.Maps.OwnSet
import Derived.Maps.OwnOps
import Derived.Maps.Views
namespace Go.Proofs.Ytgkplcipplpobaa
open Go.RowKit Go.Maps

/-- the type of maps T, from K to E, an int to a bool -/
structure MapTB (P : Program) (T K E : TypeId) : Prop where
  t : P.underlying T = some (.map K E)
  k : P.underlying K = some (.int .i64)
  e : P.underlying E = some .bool
  z : ∀ w, (zeroValue E).run P w = .ok (.bool false) w
def add1 (f : Int → Bool) (k : Int) : Int → Bool := fun x => if x = k then true else f x
theorem add1_same (f : Int → Bool) (k : Int) : add1 f k k = true := if_pos rfl
theorem add1_other (f : Int → Bool) {k x : Int} (h : x ≠ k) : add1 f k x = f x := if_neg h
/-- block b is a map of n keys -/
def BM (P : Program) (K E : TypeId) (w : World) (b n : Nat) (f : Int → Bool) : Prop :=
  ∃ D : DataW Unit, w.ownsMap P K (plainElem P E) b n D ∧ Maps.size D = n ∧ (∀ k, Maps.has D (.int .i64 k) = f k) ∧ ∀ k, f k = true → D.atKey (.int .i64 k) (.lit (.bool false)) = .lit (.bool true)
section
variable {P : Program} {T K E : TypeId} {w : World} {b n : Nat} {f : Int → Bool}
theorem ownB_tight {H : Type} {R : Value → Option (DataW H × List MemPlace)} {D : DataW H} (h : w.ownsMap P K R b n D) : w.ownsMap P K R b (Maps.size D) D := by
  obtain ⟨es, clock, hb, F, _, rfl⟩ := h
  exact ⟨es, clock, hb, F, by simp [Maps.size, length_sorted], rfl⟩
theorem wfB_i64 {i : Int} (h : I64 i) : (Lit.int .i64 i).wf = true := WalkArith.wf_i64 (by unfold I64 at h; omega)
theorem BM.made (w : World) : BM P K E (w.alloc (.map #[] 0)) w.heap.size 0 (fun _ => false) :=
  ⟨.map [], World.ownsMap_made w P K _, rfl, fun k => by simp [Maps.has], fun k h => by cases h⟩
theorem BM.lt (h : BM P K E w b n f) : b < w.heap.size := by obtain ⟨D, h, _⟩ := h; exact h.lt
theorem BM.keep {w' : World} (h : BM P K E w b n f) (hk : w'.heap[b]? = w.heap[b]?) : BM P K E w' b n f := by
  obtain ⟨D, ⟨es, clock, hb, F, r⟩, q⟩ := h
  exact ⟨D, ⟨es, clock, hk.trans hb, F, r⟩, q⟩
theorem BM.next {w' : World} (h : BM P K E w b n f) (hb : Below w.heap.size w w') : BM P K E w' b n f := h.keep (hb.block b h.lt)
theorem BM.grown {w' : World} {r : Option Nat} (h : BM P K E w b n f) (hg : w.grownBy w' r) (hr : some b ≠ r) : BM P K E w' b n f := h.keep (hg.block b h.lt hr)
theorem keyB_ne {a c : Int} (h : a ≠ c) : Lit.int .i64 a ≠ .int .i64 c := fun e => by injection e; contradiction
theorem plainElem_bool_inv {H : Type} {e : TypeId} (he : P.underlying e = some .bool) {v : Value} {z : DataW H × List MemPlace} (h : plainElem P e v = some z) : ∃ a, v = .bool a ∧ z = (.lit (.bool a), []) := by
  unfold plainElem at h
  rw [he] at h
  cases v <;> simp at h
  subst h
  exact ⟨_, rfl, rfl⟩
/-- 'm[k]' -/
theorem BM.look (M : MapTB P T K E) (h : BM P K E w b n f) {key : Int} (hk : I64 key) : (Instr.lookup T (.map (some b)) (.int .i64 key) false).run P w = .ok (.bool (f key)) w := by
  obtain ⟨D, ho, _, hh, ha⟩ := h
  obtain ⟨v, ps, hr, hv⟩ := ho.lookup (int_keyed M.k) M.t (M.z w) (plainElem_bool M.e false) (keyOf_int_mk M.k (wfB_i64 hk))
  obtain ⟨c, rfl, hc⟩ := plainElem_bool_inv M.e hv
  have hc1 := congrArg Prod.fst hc
  simp only at hc1
  rw [hr]
  cases hf : f key with
  | false =>
    have h0 : D.atKey (.int .i64 key) (.lit (.bool false)) = .lit (.bool false) := atKey_of_not_has (by rw [hh, hf]) _
    rw [h0] at hc1
    injection hc1 with hc1
    injection hc1 with hc1
    subst hc1; rfl
  | true =>
    rw [ha key hf] at hc1
    injection hc1 with hc1
    injection hc1 with hc1
    subst hc1; rfl
/-- 'm[k] = true' -/
theorem BM.store (M : MapTB P T K E) (h : BM P K E w b n f) (hn : n < maxLen) {key : Int} (hk : I64 key) : ∃ w', (Instr.mapUpdate T (.map (some b)) (.int .i64 key) (.bool true)).run P w = .ok () w' ∧ BM P K E w' b (if f key then n else n + 1) (add1 f key) ∧ w.grownBy w' (some b) := by
  obtain ⟨D, ho, hs, hh, ha⟩ := h
  have hkey := keyOf_int_mk M.k (wfB_i64 hk)
  obtain ⟨w', hr, ho', hg⟩ := ho.update (int_keyed M.k) M.t hn hkey (plainElem_bool M.e true)
  have hsz : Maps.size (D.put (.int .i64 key) (.lit (.bool true))) = if f key then n else n + 1 := by
    rw [size_put (ho.tidy (int_keyed M.k)), hh, hs]
  refine ⟨w', hr, ⟨_, by rw [← hsz]; exact ownB_tight ho', hsz, fun k => ?_, fun k hf => ?_⟩, hg⟩
  · by_cases e : k = key
    · subst e
      rw [add1_same, has_put_same (ho.isMap) (by trivial)]
    · rw [add1_other f e, has_put_other (keyB_ne e), hh]
  · by_cases e : k = key
    · subst e
      exact atKey_put_same (ho.isMap) (by trivial) _ _
    · rw [add1_other f e] at hf
      rw [atKey_put_other (keyB_ne e)]
      exact ha k hf
end
/-! ### at the operation, for the walk -/
section
variable {P : Program} {T K E : TypeId} {w : World} {b n : Nat} {f : Int → Bool} {ops : Array Oper} {rest : List Oper} {o : Oper} {a : Act} {Q : Exit → Act → World → Prop}
theorem wpList_bm_store (hg : o.guard = none) (m x v : Operand) (hop : o.op = Op.mapUpdate T m x v) (M : MapTB P T K E) (h : BM P K E w b n f) (hn : n < maxLen) (hm : a.eval m = .map (some b)) {key : Int} (hx : a.eval x = .int .i64 key) (hv : a.eval v = .bool true) (hk : I64 key)
    (hK : ∀ w', BM P K E w' b (if f key then n else n + 1) (add1 f key) → w.grownBy w' (some b) → wpList P ops Q rest (a.put o.dst undef) w') : wpList P ops Q (o :: rest) a w := by
  refine wpList_plain hg fun K' hK' => ?_
  obtain ⟨w', hrun, r1, r2⟩ := h.store M hn hk
  unfold Oper.wp
  simp [execOp, hop, hm, hx, hv, hrun, Result.andThen]
  exact hK' _ _ (hK w' r1 r2)
end
end Go.Proofs.Ytgkplcipplpobaa
