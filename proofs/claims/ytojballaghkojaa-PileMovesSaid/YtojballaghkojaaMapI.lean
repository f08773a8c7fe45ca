/- A map from ints to ints as a function, with the number of its keys. No program's function is spoken of here. -/
import Derived.Test.YtojballaghkojaaFoot
import Derived.Maps.OwnSet
import Derived.Maps.OwnOps
import Derived.Maps.Views
namespace Go.Proofs.Ytojballaghkojaa
open Go.RowKit Go.Maps

/-- the type of maps T, from K to E, both int -/
structure MapT (P : Program) (T K E : TypeId) : Prop where
  t : P.underlying T = some (.map K E)
  k : P.underlying K = some (.int .i64)
  e : P.underlying E = some (.int .i64)
  z : ∀ w, (zeroValue E).run P w = .ok (.int .i64 0) w
def upd (f : Int → Option Int) (k : Int) (v : Option Int) : Int → Option Int := fun x => if x = k then v else f x
theorem upd_same (f : Int → Option Int) (k : Int) (v : Option Int) : upd f k v k = v := if_pos rfl
theorem upd_other (f : Int → Option Int) {k x : Int} (v : Option Int) (h : x ≠ k) : upd f k v x = f x := if_neg h
/-- block b is a map of n keys -/
def IM (P : Program) (K E : TypeId) (w : World) (b n : Nat) (f : Int → Option Int) : Prop :=
  ∃ D : DataW Unit, w.ownsMap P K (plainElem P E) b n D ∧ Maps.size D = n ∧ (∀ k, Maps.has D (.int .i64 k) = (f k).isSome) ∧ ∀ k v, f k = some v → D.atKey (.int .i64 k) (.lit (.int .i64 0)) = .lit (.int .i64 v)
section
variable {P : Program} {T K E : TypeId} {w : World} {b n : Nat} {f : Int → Option Int}
theorem own_tight {H : Type} {R : Value → Option (DataW H × List MemPlace)} {D : DataW H} (h : w.ownsMap P K R b n D) : w.ownsMap P K R b (Maps.size D) D := by
  obtain ⟨es, clock, hb, F, _, rfl⟩ := h
  exact ⟨es, clock, hb, F, by simp [Maps.size, length_sorted], rfl⟩
theorem wf_i64 {i : Int} (h : I64 i) : (Lit.int .i64 i).wf = true := WalkArith.wf_i64 (by unfold I64 at h; omega)
theorem IM.made (w : World) : IM P K E (w.alloc (.map #[] 0)) w.heap.size 0 (fun _ => none) :=
  ⟨.map [], World.ownsMap_made w P K _, rfl, fun k => by simp [Maps.has], fun k v h => by cases h⟩
theorem IM.lt (h : IM P K E w b n f) : b < w.heap.size := by obtain ⟨D, h, _⟩ := h; exact h.lt
theorem IM.keep {w' : World} (h : IM P K E w b n f) (hk : w'.heap[b]? = w.heap[b]?) : IM P K E w' b n f := by
  obtain ⟨D, ⟨es, clock, hb, F, r⟩, q⟩ := h
  exact ⟨D, ⟨es, clock, hk.trans hb, F, r⟩, q⟩
theorem key_ne {a c : Int} (h : a ≠ c) : Lit.int .i64 a ≠ .int .i64 c := fun e => by injection e; contradiction
/-- 'v, ok := m[k]' -/
theorem IM.look_ok (M : MapT P T K E) (h : IM P K E w b n f) {key : Int} (hk : I64 key) : (Instr.lookup T (.map (some b)) (.int .i64 key) true).run P w = .ok (.tuple #[.int .i64 ((f key).getD 0), .bool (f key).isSome]) w := by
  obtain ⟨D, ho, _, hh, ha⟩ := h
  obtain ⟨v, ps, hr, hv⟩ := ho.look_ok (int_keyed M.k) M.t (M.z w) (plainElem_int M.e (by decide)) (keyOf_int_mk M.k (wf_i64 hk))
  obtain ⟨c, rfl, hc, _⟩ := plainElem_int_inv M.e hv
  have hc1 := congrArg Prod.fst hc
  rw [hr, hh key]
  cases hf : f key with
  | none =>
    have h0 : D.atKey (.int .i64 key) (.lit (.int .i64 0)) = .lit (.int .i64 0) := atKey_of_not_has (by rw [hh, hf]; rfl) _
    simp only at hc1
    rw [h0] at hc1
    injection hc1 with hc1
    injection hc1 with _ hc1
    subst hc1; rfl
  | some u =>
    simp only at hc1
    rw [ha key u hf] at hc1
    injection hc1 with hc1
    injection hc1 with _ hc1
    subst hc1; rfl
/-- 'm[k]' -/
theorem IM.look (M : MapT P T K E) (h : IM P K E w b n f) {key : Int} (hk : I64 key) : (Instr.lookup T (.map (some b)) (.int .i64 key) false).run P w = .ok (.int .i64 ((f key).getD 0)) w := by
  obtain ⟨D, ho, _, hh, ha⟩ := h
  obtain ⟨c, hr, hc1, _⟩ := ho.lookup_int (int_keyed M.k) M.t M.e (M.z w) (keyOf_int_mk M.k (wf_i64 hk))
  rw [hr]
  cases hf : f key with
  | none =>
    have h0 : D.atKey (.int .i64 key) (.lit (.int .i64 0)) = .lit (.int .i64 0) := atKey_of_not_has (by rw [hh, hf]; rfl) _
    rw [h0] at hc1
    injection hc1 with hc1
    injection hc1 with _ hc1
    subst hc1; rfl
  | some u =>
    rw [ha key u hf] at hc1
    injection hc1 with hc1
    injection hc1 with _ hc1
    subst hc1; rfl
/-- 'm[k] = v' -/
theorem IM.store (M : MapT P T K E) (h : IM P K E w b n f) (hn : n < maxLen) {key v : Int} (hk : I64 key) (hv : I64 v) : ∃ w', (Instr.mapUpdate T (.map (some b)) (.int .i64 key) (.int .i64 v)).run P w = .ok () w' ∧ IM P K E w' b (if (f key).isSome then n else n + 1) (upd f key (some v)) ∧ w.grownBy w' (some b) := by
  obtain ⟨D, ho, hs, hh, ha⟩ := h
  have hkey := keyOf_int_mk M.k (wf_i64 hk)
  obtain ⟨w', hr, ho', hg⟩ := ho.update (int_keyed M.k) M.t hn hkey (plainElem_int M.e (wf_i64 hv))
  have hsz : Maps.size (D.put (.int .i64 key) (.lit (.int .i64 v))) = if (f key).isSome then n else n + 1 := by
    rw [size_put (ho.tidy (int_keyed M.k)), hh, hs]
  refine ⟨w', hr, ⟨_, by rw [← hsz]; exact own_tight ho', hsz, fun k => ?_, fun k u hf => ?_⟩, hg⟩
  · by_cases e : k = key
    · subst e
      rw [upd_same, has_put_same (ho.isMap) (by trivial)]; rfl
    · rw [upd_other f _ e, has_put_other (key_ne e), hh]
  · by_cases e : k = key
    · subst e
      rw [upd_same] at hf
      injection hf with hf; subst hf
      exact atKey_put_same (ho.isMap) (by trivial) _ _
    · rw [upd_other f _ e] at hf
      rw [atKey_put_other (key_ne e)]
      exact ha k u hf
/-- 'delete(m, k)' -/
theorem IM.drop (M : MapT P T K E) (h : IM P K E w b n f) {key : Int} (hk : I64 key) (ty : TypeId) : ∃ w', (Builtin.delete_ #[T, K] ty #[.map (some b), .int .i64 key]).run P w = .ok (.tuple #[]) w' ∧ IM P K E w' b (if (f key).isSome then n - 1 else n) (upd f key none) ∧ w.grownBy w' (some b) := by
  obtain ⟨D, ho, hs, hh, ha⟩ := h
  have hkey := keyOf_int_mk M.k (wf_i64 hk)
  obtain ⟨w', hr, ho', hg⟩ := ho.drop (int_keyed M.k) M.t hkey ty
  have hsz : Maps.size (D.del (.int .i64 key)) = if (f key).isSome then n - 1 else n := by
    have := size_del (k := .int .i64 key) (ho.tidy (int_keyed M.k))
    rw [hh, hs] at this
    split at this <;> rename_i h <;> simp [h] at this ⊢ <;> omega
  refine ⟨w', hr, ⟨_, by rw [← hsz]; exact own_tight ho', hsz, fun k => ?_, fun k u hf => ?_⟩, hg.grown⟩
  · by_cases e : k = key
    · subst e
      rw [upd_same, has_del_same]; rfl
    · rw [upd_other f _ e, has_del_other (key_ne e), hh]
  · by_cases e : k = key
    · subst e
      rw [upd_same] at hf; cases hf
    · rw [upd_other f _ e] at hf
      rw [atKey_del_other (key_ne e)]
      exact ha k u hf
theorem IM.len (M : MapT P T K E) (h : IM P K E w b n f) (ty : TypeId) : (Builtin.len_ #[T] ty #[.map (some b)]).run P w = .ok (.int .i64 (n : Int)) w := by
  obtain ⟨D, ho, hs, _⟩ := h
  rw [ho.len M.t ty, hs]
/-- a nil map -/
theorem nil_look_ok (M : MapT P T K E) (w : World) {key : Int} (hk : I64 key) : (Instr.lookup T (.map none) (.int .i64 key) true).run P w = .ok (.tuple #[.int .i64 0, .bool false]) w := look_nil true (int_keyed M.k) M.t (M.z w) (keyOf_int_mk M.k (wf_i64 hk))
theorem nil_look (M : MapT P T K E) (w : World) {key : Int} (hk : I64 key) : (Instr.lookup T (.map none) (.int .i64 key) false).run P w = .ok (.int .i64 0) w := look_nil false (int_keyed M.k) M.t (M.z w) (keyOf_int_mk M.k (wf_i64 hk))
theorem nil_len (M : MapT P T K E) (w : World) (ty : TypeId) : (Builtin.len_ #[T] ty #[.map none]).run P w = .ok (.int .i64 0) w := Maps.len_nil M.t ty
end
/-! ### at the operation, for the walk -/
section
variable {P : Program} {T K E : TypeId} {w : World} {b n : Nat} {f : Int → Option Int} {ops : Array Oper} {rest : List Oper} {o : Oper} {a : Act} {Q : Exit → Act → World → Prop}
theorem wpList_im_store (hg : o.guard = none) (m x v : Operand) (hop : o.op = Op.mapUpdate T m x v) (M : MapT P T K E) (h : IM P K E w b n f) (hn : n < maxLen) (hm : a.eval m = .map (some b)) {key u : Int} (hx : a.eval x = .int .i64 key) (hv : a.eval v = .int .i64 u) (hk : I64 key) (hu : I64 u)
    (hK : ∀ w', IM P K E w' b (if (f key).isSome then n else n + 1) (upd f key (some u)) → w.grownBy w' (some b) → wpList P ops Q rest (a.put o.dst undef) w') : wpList P ops Q (o :: rest) a w := by
  refine wpList_plain hg fun K' hK' => ?_
  obtain ⟨w', hrun, r1, r2⟩ := h.store M hn hk hu
  unfold Oper.wp
  simp [execOp, hop, hm, hx, hv, hrun, Result.andThen]
  exact hK' _ _ (hK w' r1 r2)
theorem wpList_im_drop (hg : o.guard = none) (m x : Operand) (hop : o.op = Op.call { callee := Callee.builtin Builtin.delete, args := #[m, x], argTypes := #[T, K] }) (M : MapT P T K E) (h : IM P K E w b n f) (hm : a.eval m = .map (some b)) {key : Int} (hx : a.eval x = .int .i64 key) (hk : I64 key)
    (hK : ∀ w', IM P K E w' b (if (f key).isSome then n - 1 else n) (upd f key none) → w.grownBy w' (some b) → wpList P ops Q rest (a.put o.dst (.tuple #[])) w') : wpList P ops Q (o :: rest) a w := by
  refine wpList_plain hg fun K' hK' => ?_
  obtain ⟨w', hrun, r1, r2⟩ := h.drop M hk o.type
  unfold Oper.wp
  simp [execOp, hop, resolve, invoke, builtin, hm, hx, hrun, Result.andThen]
  exact hK' _ _ (hK w' r1 r2)
end
end Go.Proofs.Ytojballaghkojaa
