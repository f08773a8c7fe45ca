/- A region that draws its order, in a round of a range over a function: as anywhere, where no operation of it defers. And what layer 13's laws over ranges stand on. -/
import Derived.Test.YtcnpfchopjopeaaCltE
import Derived.RangeFuncCalls
namespace Go.Proofs.Ytcnpfchopjopeaa
open Go.RowKit Go.Shelf
open Whn (Gr Wh)

/-- nothing but the ordinary way out -/
def Only (Q : Exit → Act → World → Prop) : Exit → Act → World → Prop
  | .normal, a, w => Q .normal a w
  | _, _, _ => False
theorem Only.go {Q : Exit → Act → World → Prop} {a : Act} {w : World} (h : Q .normal a w) : Only Q .normal a w := h
theorem only_lets {Q : Exit → Act → World → Prop} (h : LetsOut (Only Q)) : False := by
  obtain ⟨_, _, h⟩ := h
  exact h
def noDefer (o : Oper) : Bool := match o.op with
  | .defer _ => false
  | _ => true
theorem noDefer_ne {o : Oper} (h : noDefer o = true) : ∀ c, o.op ≠ .defer c := fun c e => by
  unfold noDefer at h
  rw [e] at h
  cases h
theorem ops_round {P : Program} {ops : Array Oper} {Q : Exit → Act → World → Prop} {l n : Nat} (hd : ops.all noDefer = true) : ∀ (L : List Nat) (a : Act) (w : World), wpOps P ops (Only Q) L a w → wpOpsIn (Fence.wide.inRound l) n P ops Q L a w
  | [], _, _, h => h
  | i :: rest, a, w, h => by
    have ih := fun a w => ops_round (P := P) (ops := ops) (Q := Q) (l := l) (n := n) hd rest a w
    unfold wpOps at h
    unfold wpOpsIn
    cases ho : ops[i]? with
    | none =>
      rw [ho] at h
      exact ih a w h
    | some o =>
      rw [ho] at h
      simp only at h ⊢
      have hnd : ∀ c, o.op ≠ .defer c := noDefer_ne (by
        obtain ⟨hi, e⟩ := Array.getElem?_eq_some_iff.1 ho
        have := Array.all_eq_true.1 hd i hi
        rwa [e] at this)
      by_cases hw : Region.wanted o (yielded ops a.tmps) = true
      · rw [if_pos hw] at h ⊢
        rcases h with h | ⟨_, h⟩
        · refine ⟨fun f _ => trivial, ?_⟩
          rw [Fence.inRound_round, Oper.semAt_some l a.eval o hnd]
          unfold Oper.wp at h
          generalize (execOp a.eval o).run P w = r at h ⊢
          cases r with
          | ok nx w' =>
            cases nx with
            | value v => exact ih _ _ h
            | skip => exact ih _ _ h
            | defer d => exact ih _ _ h
            | enter f args =>
              refine ⟨(by intro h; cases h), ?_⟩
              have h1 : Calls P f args w' _ := h
              refine (CallsIn.inRound l (callsIn_wide.2 h1)).mono ?_
              intro e w2 he
              cases e with
              | returned v => exact ih _ _ he
              | panicked chain => exact (he : False).elim
              | outgrown => exact (only_lets he).elim
            | row row args =>
              refine ⟨(by intro h; cases h), ?_⟩
              have h1 : Rows P row args w' _ := h
              intro c cs _
              obtain ⟨v, w2, r, s⟩ := h1 c cs
              exact ⟨v, w2, ih _ _ r, stepsIn_wide.2 s⟩
            | _ => exact (h : False).elim
          | halt hh w' =>
            cases hh <;> exact (h : False).elim
        · exact (only_lets h).elim
      · rw [if_neg hw] at h ⊢
        exact ⟨fun f _ => trivial, ih _ _ h⟩
theorem region_round {P : Program} {id : Nat} {ops : Array Oper} {Q : Exit → Act → World → Prop} {a : Act} {w : World} {S : World → Prop} {l n : Nat} (hm : P.follows .mixedOrders = true) (hd : ops.all noDefer = true) (hS : S w.drew)
    (h : S w.drew → wpAnyH P .any ops (Only Q) S ops.size (Array.replicate ops.size false) a w.drew) : (Code.region id ops true).wpIn (Fence.wide.inRound l) n P Q a w :=
  wpIn_region_draw fun t => by
    simp only [Region.schedule, hm, Bool.true_or, if_true]
    exact ops_round hd _ _ _ (wpAny_sound ops.size t _ a _ (wpAny_of_held _ _ _ _ (h hS)))
def seEq (x y : Se) : Bool := decide (x.t = y.t) && decide (x.p = y.p)
theorem seEq_iff (x y : Se) : seEq x y = true ↔ x = y := by
  unfold seEq
  rw [Bool.and_eq_true, decide_eq_true_iff, decide_eq_true_iff]
  constructor
  · rintro ⟨h1, h2⟩
    cases x; cases y
    simp only at h1 h2
    subst h1; subst h2
    rfl
  · rintro rfl; exact ⟨rfl, rfl⟩
theorem se_neq (x y : Se) (w : World) : (binOp .neq 41 (sv x) (sv y)).run Try.prog w = .ok (.bool (!seEq x y)) w := by
  obtain ⟨a, b⟩ := x
  obtain ⟨c, d⟩ := y
  unfold seEq
  go_simp
  by_cases h1 : a = c
  · by_cases h2 : b = d
    · simp [h1, h2]
    · simp [h1, h2]
  · simp [h1]
theorem se_eql (x y : Se) (w : World) : (binOp .eql 41 (sv x) (sv y)).run Try.prog w = .ok (.bool (seEq x y)) w := by
  obtain ⟨a, b⟩ := x
  obtain ⟨c, d⟩ := y
  unfold seEq
  go_simp
  by_cases h1 : a = c
  · by_cases h2 : b = d
    · simp [h1, h2]
    · simp [h1, h2]
  · simp [h1]
theorem ob_ownFrom {β : Type} {B NB : Nat} {t : TypeId} (f : β → List Value) : OwnFrom B (fun (s : β) W => Ob W NB (f s) t) := by
  rintro s W W' row hob hg hr
  refine (hg.block NB hob.lt (fun e => ?_)).trans hob
  obtain ⟨_, o, ho, hc⟩ := hr NB e.symm
  rw [show W.heap[NB]? = _ from hob] at ho
  cases ho; cases hc
theorem mem_upto {w W X : World} {L : Obs} {C : Nat} (h : Mem w W L) (hb : Below C W X) (hlt : ∀ p ∈ L, p.1 < C) (hw : w.heap.size ≤ C) : Mem w X L :=
  ⟨fun p hp => (h.1 p hp).below hb (hlt p hp), h.2.trans (hb.mono hw)⟩
end Go.Proofs.Ytcnpfchopjopeaa
