/- Leave and Return, and the document's own answers for them, side by side (layer 12). -/
import Derived.Test.YtodhpdaoghbmcaaPerU
import Derived.Test.YtodhpdaoghbmcaaRomL
namespace Go.Proofs.Ytodhpdaoghbmcaa
open Go.RowKit
open Whn (Gr Wh)

/-- a person, whose row lies where it may -/
def CpRet (p : Ps) (w : World) (e : Ending) (w' : World) : Prop := ∃ A c, e = .returned (pv p A c) ∧ Whs w' w'.heap.size A p.l ∧ Below w.heap.size w w'
/-- the same answers: the program's, a row with an error, and the person of that row -/
def TwinP (f1 f2 : FuncId) (p : Ps) (A : Option Addr) (c : Nat) (x : Wh) (pa : Ps) (k : Nat) (lp : List Wh) : Prop :=
  (∀ X : World, Whs X X.heap.size A p.l → Calls Try.prog f1 #[pv p A c, wv x] X (PsRet pa (k : Int) X)) ∧
  (∀ X : World, Whs X X.heap.size A p.l → Calls Try.prog f2 #[.slice A p.l.length c, wv x] X (LeRet (lp, k) X)) ∧
  lp.length ≤ 1000000 ∧ pa.l.length ≤ 1000000 ∧
  (∀ (A2 : Option Addr) (c2 : Nat) (X : World), Whs X X.heap.size A2 lp → Calls Try.prog 30 #[pv p A c, .slice A2 lp.length c2, .int .i64 (k : Int)] X (CpRet pa X))
theorem gone_ok (p : Ps) (A : Option Addr) (c : Nat) (lp : List Wh) (A2 : Option Addr) (c2 : Nat) (X : World) (h : Whs X X.heap.size A2 lp) :
    Calls Try.prog 30 #[pv p A c, .slice A2 lp.length c2, .int .i64 ((0 : Nat) : Int)] X (CpRet ⟨p.n, lp⟩ X) := by
  refine (r_Gone0 p A A2 c lp.length c2 X).mono ?_
  rintro e w1 ⟨rfl, b1⟩
  exact ⟨A2, c2, rfl, (h.below b1 (Nat.le_refl _)).more b1.size, b1⟩
theorem gone_no (p : Ps) (A : Option Addr) (c : Nat) (lp : List Wh) (A2 : Option Addr) (c2 : Nat) (k : Nat) (hk : ((k : Int) != 0) = true) (X : World) :
    Calls Try.prog 30 #[pv p A c, .slice A2 lp.length c2, .int .i64 (k : Int)] X (CpRet ps0 X) := by
  refine (r_GoneE p A A2 c lp.length c2 (k : Int) hk X).mono ?_
  rintro e w1 ⟨rfl, b1⟩
  exact ⟨none, 0, rfl, Rd.none_ _ _ _, b1⟩
theorem twin_leave (p : Ps) (A : Option Addr) (c : Nat) (hm : p.l.length ≤ 1000) (x : Wh) : ∃ pa k lp, TwinP 25 26 p A c x pa k lp := by
  by_cases h : 16 ≤ p.l.length
  · refine ⟨ps0, 9, [], fun X hX => p_LeaveOf p A c x rm0 9 (fun X _ => p_CloseFull (rmOf p) A c h x X) X hX, fun X hX => ?_, Nat.zero_le _, Nat.zero_le _, fun A2 c2 X _ => gone_no p A c [] A2 c2 9 (by decide) X⟩
    have := r_More A c p.l (by omega) x X hX
    unfold more at this
    rwa [if_pos h] at this
  · refine ⟨⟨p.n, p.l ++ [x]⟩, 0, p.l ++ [x], fun X hX => p_LeaveOf p A c x ⟨p.n, 0, 0, p.l ++ [x]⟩ 0 (fun X hX => p_Close (rmOf p) A c (show p.l.length < 16 by omega) x X hX) X hX, fun X hX => ?_, by rw [List.length_append, List.length_singleton]; omega, by show (p.l ++ [x]).length ≤ 1000000; rw [List.length_append, List.length_singleton]; omega, fun A2 c2 X hX => gone_ok p A c (p.l ++ [x]) A2 c2 X hX⟩
    have := r_More A c p.l (by omega) x X hX
    unfold more at this
    rwa [if_neg h] at this
theorem twin_return (p : Ps) (A : Option Addr) (c : Nat) (hm : p.l.length ≤ 1000) (hmc : p.l.length ≤ c) (x : Wh) : ∃ pa k lp, TwinP 27 28 p A c x pa k lp := by
  by_cases h : x ∈ p.l
  · refine ⟨⟨p.n, p.l.erase x⟩, 0, p.l.erase x, fun X hX => p_ReturnOf p A c x ⟨p.n, 0, 0, p.l.erase x⟩ 0 (fun X hX => ?_) X hX, fun X hX => ?_, Nat.le_trans (List.length_erase_le) (by omega), Nat.le_trans (List.length_erase_le) (by omega), fun A2 c2 X hX => gone_ok p A c (p.l.erase x) A2 c2 X hX⟩
    · refine (p_Reopen (rmOf p) A c hm hmc x X hX).mono ?_
      rintro e w1 (⟨hn, _⟩ | ⟨_, h1⟩)
      · exact absurd h hn
      · exact h1
    · have := r_Fewer A c p.l (by omega) hmc x X hX
      unfold fewer at this
      rwa [if_pos h] at this
  · refine ⟨ps0, 8, [], fun X hX => p_ReturnOf p A c x rm0 8 (fun X hX => ?_) X hX, fun X hX => ?_, Nat.zero_le _, Nat.zero_le _, fun A2 c2 X _ => gone_no p A c [] A2 c2 8 (by decide) X⟩
    · refine (p_Reopen (rmOf p) A c hm hmc x X hX).mono ?_
      rintro e w1 (⟨_, h1⟩ | ⟨hn, _⟩)
      · exact h1
      · exact absurd hn h
    · have := r_Fewer A c p.l (by omega) hmc x X hX
      unfold fewer at this
      rwa [if_neg h] at this
theorem r_SameSelfP (x : Ps) (A A2 : Option Addr) (c c2 : Nat) (hm : x.l.length ≤ 1000000) (w : World) (h : Whs w w.heap.size A x.l) (h2 : Whs w w.heap.size A2 x.l) :
    Calls Try.prog 29 #[pv x A c, pv x A2 c2] w (Did (.bool true) w) := by
  have := r_SameP x x A A2 c c2 (by unfold maxLen; omega) w h h2
  rwa [(psEq_iff x x).2 rfl] at this
theorem p_SameSelfP (x : Ps) (A A2 : Option Addr) (c c2 : Nat) (hm : x.l.length ≤ 1000000) (w : World) (h : Whs w w.heap.size A x.l) (h2 : Whs w w.heap.size A2 x.l) :
    Calls Try.prog 31 #[pv x A c, pv x A2 c2] w (Did (.bool true) w) := by
  have := p_SameP x x A A2 c c2 (by unfold maxLen; omega) w h h2
  rwa [(psEq_iff x x).2 rfl] at this
end Go.Proofs.Ytodhpdaoghbmcaa
