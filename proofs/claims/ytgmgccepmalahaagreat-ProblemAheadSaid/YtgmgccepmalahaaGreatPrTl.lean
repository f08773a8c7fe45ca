/- A chain of '&&' (or '||') whose test has failed (or held): all that is left of it is passed over at once. No program's function is spoken of here. -/
import Derived.Test.YtgmgccepmalahaaGreatMem
namespace Go.Proofs.YtgmgccepmalahaaGreat
open Go.RowKit

/-- what is left of a chain leads to slot 'fin', if slot 'cur' holds what ends it (false of '&&': pol is true; true of '||': pol is false) -/
def tailB (ops : Array Oper) (pol : Bool) (n : Nat) : Tmp → List Oper → Option Tmp
  | cur, [] => some cur
  | cur, o :: rest =>
    match o.guard with
    | some (j, want) =>
      match (ops[j]?).bind (·.dst), o.dst with
      | some g, some d => if want == pol && Nat.beq g cur && !Nat.beq d cur then tailB ops pol n cur rest else none
      | some g, none => if want == pol && Nat.beq g cur then tailB ops pol n cur rest else none
      | _, _ => none
    | none =>
      match o.op, o.dst with
      | .move (.tmp s), some d => if Nat.beq s cur && Nat.blt d n then tailB ops pol n d rest else none
      | .assign (.tmp s), some d => if Nat.beq s cur && Nat.blt d n then tailB ops pol n d rest else none
      | .pick (.tmp s) x y, some d =>
        match (if pol then y else x) with
        | .const (.bool b) => if Nat.beq s cur && Nat.blt d n && (b == !pol) then tailB ops pol n d rest else none
        | _ => none
      | _, _ => none
theorem put_at {a : Act} {d : Tmp} {v : Value} (h : d < a.tmps.size) : (a.put (some d) v).tmps[d]? = some v := by
  unfold Act.put
  simp [h]
theorem put_size (a : Act) (d : Option Tmp) (v : Value) : (a.put d v).tmps.size = a.tmps.size := by
  unfold Act.put
  cases d <;> simp
theorem put_other {a : Act} {d s : Tmp} {v : Value} (h : d ≠ s) : (a.put (some d) v).tmps[s]? = a.tmps[s]? := by
  unfold Act.put
  simp [h]
theorem put_defers (a : Act) (d : Option Tmp) (v : Value) : (a.put d v).defers = a.defers := by
  unfold Act.put
  cases d <;> rfl
def keptB (s : Tmp) (l : List Oper) : Bool := l.all fun o => match o.dst with | some d => !Nat.beq d s | none => true
theorem kept_put {a : Act} {o : Oper} {s : Tmp} {v : Value} {l : List Oper} (h : keptB s (o :: l) = true) : (a.put o.dst v).tmps[s]? = a.tmps[s]? ∧ keptB s l = true := by
  unfold keptB at h ⊢
  rw [List.all_cons, Bool.and_eq_true] at h
  refine ⟨?_, h.2⟩
  cases hd : o.dst with
  | none => rfl
  | some d =>
    have h1 := h.1
    rw [hd] at h1
    refine put_other (fun e => ?_)
    subst e
    simp at h1
theorem wpList_tail {P : Program} {ops : Array Oper} {Q : Exit → Act → World → Prop} (pol : Bool) (n : Nat) (fin : Tmp) (w : World) (rest : List Oper) : ∀ (cur : Tmp) (a : Act), tailB ops pol n cur rest = some fin → a.tmps.size = n → a.tmps[cur]? = some (.bool (!pol)) →
    (∀ a' : Act, a'.tmps.size = n → a'.defers = a.defers → a'.tmps[fin]? = some (.bool (!pol)) → (∀ s, keptB s rest = true → a'.tmps[s]? = a.tmps[s]?) → Q .normal a' w) → wpList P ops Q rest a w := by
  induction rest with
  | nil =>
    intro cur a h hn hc hq
    unfold tailB at h
    injection h with h
    subst h
    exact hq a hn rfl hc (fun _ _ => rfl)
  | cons o rest ih =>
    intro cur a h hn hc hq
    have hval : (a.eval (.tmp cur)) = .bool (!pol) := by
      show a.tmps.getD cur undef = _
      rw [Array.getD_eq_getD_getElem?, hc]; rfl
    -- what a step that yields a value leaves
    have step : ∀ (d : Tmp) (v : Value), o.guard = none → o.dst = some d → d < n → v = .bool (!pol) → (execOp a.eval o).run P w = .ok (.value v) w → tailB ops pol n d rest = some fin → wpList P ops Q (o :: rest) a w := by
      intro d v hg hd hdn hv he ht
      have hw : Region.wanted o (yielded ops a.tmps) = true := by simp [Region.wanted, hg]
      show (if Region.wanted o (yielded ops a.tmps) then o.wp P a w (wpList P ops Q rest) Q ∨ (o.asks P a w ∧ LetsOut Q) else wpList P ops Q rest (a.put o.dst undef) w)
      rw [if_pos hw]
      left
      show o.upon P a (wpList P ops Q rest) Q ((execOp a.eval o).run P w)
      rw [he, Oper.upon_value]
      have e1 : (a.put o.dst v).tmps[d]? = some (.bool (!pol)) := by rw [hd, put_at (show d < a.tmps.size by rw [hn]; exact hdn), hv]
      refine ih d (a.put o.dst v) ht (by rw [put_size]; exact hn) e1 (fun a' h1 h2 h3 h4 => hq a' h1 (by rw [h2, put_defers]) h3 (fun s hs => ?_))
      have hk := kept_put (a := a) (v := v) hs
      rw [h4 s hk.2]; exact hk.1
    have skip : o.guard ≠ none → (∀ d, o.dst = some d → d ≠ cur) → Region.wanted o (yielded ops a.tmps) = false → tailB ops pol n cur rest = some fin → wpList P ops Q (o :: rest) a w := by
      intro _ hd hw ht
      refine wpList_skip hw ?_
      have e1 : (a.put o.dst undef).tmps[cur]? = some (.bool (!pol)) := by
        cases hdd : o.dst with
        | none => exact hc
        | some d => rw [put_other (hd d hdd)]; exact hc
      refine ih cur (a.put o.dst undef) ht (by rw [put_size]; exact hn) e1 (fun a' h1 h2 h3 h4 => hq a' h1 (by rw [h2, put_defers]) h3 (fun s hs => ?_))
      have hk := kept_put (a := a) (v := undef) hs
      rw [h4 s hk.2]; exact hk.1
    have hyn : ∀ j g, (ops[j]?).bind (·.dst) = some g → g = cur → yielded ops a.tmps j = some (!pol) := by
      intro j g hj hg
      unfold yielded
      rw [hj, hg]
      show (match a.tmps[cur]? with | some (.bool b) => some b | _ => none) = _
      rw [hc]
    unfold tailB at h
    split at h
    · rename_i j want hgd
      split at h
      · rename_i g d hg hd
        split at h
        · rename_i hcond
          simp only [Bool.and_eq_true, beq_iff_eq, Nat.beq_eq, Bool.not_eq_true'] at hcond
          obtain ⟨⟨rfl, h2⟩, h3⟩ := hcond
          refine skip (by rw [hgd]; simp) (fun d' hd' => by rw [hd] at hd'; injection hd' with e; rw [← e]; intro e2; rw [e2] at h3; simp at h3) ?_ h
          unfold Region.wanted
          rw [hgd]
          show (yielded ops a.tmps j == some want) = false
          rw [hyn j g hg h2]
          cases want <;> rfl
        · cases h
      · rename_i g hg hd
        split at h
        · rename_i hcond
          simp only [Bool.and_eq_true, beq_iff_eq, Nat.beq_eq] at hcond
          obtain ⟨rfl, h2⟩ := hcond
          refine skip (by rw [hgd]; simp) (fun d' hd' => by rw [hd] at hd'; cases hd') ?_ h
          unfold Region.wanted
          rw [hgd]
          show (yielded ops a.tmps j == some want) = false
          rw [hyn j g hg h2]
          cases want <;> rfl
        · cases h
      · cases h
    · rename_i hgd
      split at h
      · rename_i s d ho hd
        split at h
        · rename_i hcond
          simp only [Bool.and_eq_true, Nat.beq_eq, Nat.blt_eq] at hcond
          obtain ⟨rfl, h2⟩ := hcond
          exact step d _ hgd hd h2 hval (by unfold execOp; rw [ho]; rfl) h
        · cases h
      · rename_i s d ho hd
        split at h
        · rename_i hcond
          simp only [Bool.and_eq_true, Nat.beq_eq, Nat.blt_eq] at hcond
          obtain ⟨rfl, h2⟩ := hcond
          exact step d _ hgd hd h2 hval (by unfold execOp; rw [ho]; rfl) h
        · cases h
      · rename_i s x y d ho hd
        split at h
        · rename_i b hb
          split at h
          · rename_i hcond
            simp only [Bool.and_eq_true, Nat.beq_eq, Nat.blt_eq, beq_iff_eq] at hcond
            obtain ⟨⟨rfl, h2⟩, h3⟩ := hcond
            refine step d (a.eval (if pol then y else x)) hgd hd h2 (by rw [hb, ← h3]; rfl) ?_ h
            unfold execOp
            rw [ho]
            simp only [hval]
            cases pol <;> rfl
          · cases h
        · cases h
      · cases h
end Go.Proofs.YtgmgccepmalahaaGreat
