/- Close and Reopen, and the document's own answers for them, side by side (layer 11). -/
import Derived.Test.YteldcaebbmaemaaRomZ
namespace Go.Proofs.Yteldcaebbmaemaa
open Go.RowKit
open Whn (Gr Wh)

/-- a room, whose row lies where it may -/
def CdRet (r : Rm) (w : World) (e : Ending) (w' : World) : Prop := ∃ A c, e = .returned (rv r A c) ∧ Whs w' w'.heap.size A r.l ∧ Below w.heap.size w w'
/-- the same answers: the program's, a row with an error, and the room of that row -/
def Twin (f1 f2 : FuncId) (r : Rm) (A : Option Addr) (c : Nat) (x : Wh) (ra : Rm) (k : Nat) (lp : List Wh) : Prop :=
  (∀ X : World, Whs X X.heap.size A r.l → Calls Try.prog f1 #[rv r A c, wv x] X (RmRet ra (k : Int) X)) ∧
  (∀ X : World, Whs X X.heap.size A r.l → Calls Try.prog f2 #[.slice A r.l.length c, wv x] X (LeRet (lp, k) X)) ∧
  lp.length ≤ 1000000 ∧ ra.l.length ≤ 1000000 ∧
  (∀ (A2 : Option Addr) (c2 : Nat) (X : World), Whs X X.heap.size A2 lp → Calls Try.prog 31 #[rv r A c, .slice A2 lp.length c2, .int .i64 (k : Int)] X (CdRet ra X))
theorem closed_ok (r : Rm) (A : Option Addr) (c : Nat) (lp : List Wh) (A2 : Option Addr) (c2 : Nat) (X : World) (h : Whs X X.heap.size A2 lp) :
    Calls Try.prog 31 #[rv r A c, .slice A2 lp.length c2, .int .i64 ((0 : Nat) : Int)] X (CdRet ⟨r.n, r.s, r.g, lp⟩ X) := by
  refine (r_Closed0 r A A2 c lp.length c2 X).mono ?_
  rintro e w1 ⟨rfl, b1⟩
  exact ⟨A2, c2, rfl, (h.below b1 (Nat.le_refl _)).more b1.size, b1⟩
theorem closed_no (r : Rm) (A : Option Addr) (c : Nat) (lp : List Wh) (A2 : Option Addr) (c2 : Nat) (k : Nat) (hk : ((k : Int) != 0) = true) (X : World) :
    Calls Try.prog 31 #[rv r A c, .slice A2 lp.length c2, .int .i64 (k : Int)] X (CdRet rm0 X) := by
  refine (r_ClosedE r A A2 c lp.length c2 (k : Int) hk X).mono ?_
  rintro e w1 ⟨rfl, b1⟩
  exact ⟨none, 0, rfl, Rd.none_ _ _ _, b1⟩
theorem twin_close (r : Rm) (A : Option Addr) (c : Nat) (hm : r.l.length ≤ 1000) (x : Wh) : ∃ ra k lp, Twin 26 27 r A c x ra k lp := by
  by_cases h : 16 ≤ r.l.length
  · refine ⟨rm0, 9, [], fun X _ => p_CloseFull r A c h x X, fun X hX => ?_, Nat.zero_le _, Nat.zero_le _, fun A2 c2 X _ => closed_no r A c [] A2 c2 9 (by decide) X⟩
    have := r_More A c r.l (by omega) x X hX
    unfold more at this
    rwa [if_pos h] at this
  · refine ⟨⟨r.n, r.s, r.g, r.l ++ [x]⟩, 0, r.l ++ [x], fun X hX => p_Close r A c (by omega) x X hX, fun X hX => ?_, by rw [List.length_append, List.length_singleton]; omega, by show (r.l ++ [x]).length ≤ 1000000; rw [List.length_append, List.length_singleton]; omega, fun A2 c2 X hX => closed_ok r A c (r.l ++ [x]) A2 c2 X hX⟩
    have := r_More A c r.l (by omega) x X hX
    unfold more at this
    rwa [if_neg h] at this
theorem twin_reopen (r : Rm) (A : Option Addr) (c : Nat) (hm : r.l.length ≤ 1000) (hmc : r.l.length ≤ c) (x : Wh) : ∃ ra k lp, Twin 28 29 r A c x ra k lp := by
  by_cases h : x ∈ r.l
  · refine ⟨⟨r.n, r.s, r.g, r.l.erase x⟩, 0, r.l.erase x, fun X hX => ?_, fun X hX => ?_, Nat.le_trans (List.length_erase_le) (by omega), Nat.le_trans (List.length_erase_le) (by omega), fun A2 c2 X hX => closed_ok r A c (r.l.erase x) A2 c2 X hX⟩
    · refine (p_Reopen r A c hm hmc x X hX).mono ?_
      rintro e w1 (⟨hn, _⟩ | ⟨_, h1⟩)
      · exact absurd h hn
      · exact h1
    · have := r_Fewer A c r.l (by omega) hmc x X hX
      unfold fewer at this
      rwa [if_pos h] at this
  · refine ⟨rm0, 8, [], fun X hX => ?_, fun X hX => ?_, Nat.zero_le _, Nat.zero_le _, fun A2 c2 X _ => closed_no r A c [] A2 c2 8 (by decide) X⟩
    · refine (p_Reopen r A c hm hmc x X hX).mono ?_
      rintro e w1 (⟨_, h1⟩ | ⟨hn, _⟩)
      · exact h1
      · exact absurd hn h
    · have := r_Fewer A c r.l (by omega) hmc x X hX
      unfold fewer at this
      rwa [if_neg h] at this
theorem r_SameSelf (x : Rm) (A A2 : Option Addr) (c c2 : Nat) (hm : x.l.length ≤ 1000000) (w : World) (h : Whs w w.heap.size A x.l) (h2 : Whs w w.heap.size A2 x.l) :
    Calls Try.prog 30 #[rv x A c, rv x A2 c2] w (Did (.bool true) w) := by
  have := r_Same x x A A2 c c2 (by unfold maxLen; omega) w h h2
  rwa [(rmEq_iff x x).2 rfl] at this
theorem back_reopen (r : Rm) (x : Wh) (hx : x ∉ r.l) (hm : r.l.length ≤ 900) (A : Option Addr) (c : Nat) (hmc : (r.l ++ [x]).length ≤ c) (X : World) (h : Whs X X.heap.size A (r.l ++ [x])) :
    Calls Try.prog 28 #[rv ⟨r.n, r.s, r.g, r.l ++ [x]⟩ A c, wv x] X (RmRet r 0 X) := by
  refine (p_Reopen ⟨r.n, r.s, r.g, r.l ++ [x]⟩ A c (by show (r.l ++ [x]).length ≤ 1000; rw [List.length_append, List.length_singleton]; omega) hmc x X h).mono ?_
  rintro e w1 (⟨hn, _⟩ | ⟨_, h1⟩)
  · exact absurd (List.mem_append_right r.l (List.mem_singleton.2 rfl)) hn
  · have e1 : (r.l ++ [x]).erase x = r.l := by
      rw [List.erase_append_right _ hx, List.erase_cons_head, List.append_nil]
    have h2 : RmRet ⟨r.n, r.s, r.g, (r.l ++ [x]).erase x⟩ 0 X e w1 := h1
    rwa [e1] at h2
theorem back_same (r : Rm) (A A2 : Option Addr) (c c2 : Nat) (hm : r.l.length ≤ 900) (X : World) (h : Whs X X.heap.size A r.l) (h2 : Whs X X.heap.size A2 r.l) :
    Calls Try.prog 32 #[rv r A c, rv r A2 c2] X (Did (.bool true) X) := by
  have := p_SameRoom r r A A2 c c2 (by unfold maxLen; omega) X h h2
  rwa [(rmEq_iff r r).2 rfl] at this
theorem back_not (r : Rm) (x : Wh) (A A2 : Option Addr) (c c2 : Nat) (hm : r.l.length ≤ 900) (X : World) (h : Whs X X.heap.size A (r.l ++ [x])) (h2 : Whs X X.heap.size A2 r.l) :
    Calls Try.prog 32 #[rv ⟨r.n, r.s, r.g, r.l ++ [x]⟩ A c, rv r A2 c2] X (Did (.bool false) X) := by
  have := p_SameRoom ⟨r.n, r.s, r.g, r.l ++ [x]⟩ r A A2 c c2 (by show (r.l ++ [x]).length ≤ maxLen; rw [List.length_append, List.length_singleton]; unfold maxLen; omega) X h h2
  rwa [show rmEq ⟨r.n, r.s, r.g, r.l ++ [x]⟩ r = false by
    cases hq : rmEq ⟨r.n, r.s, r.g, r.l ++ [x]⟩ r with
    | false => rfl
    | true =>
      have e := congrArg (fun z : Rm => z.l.length) ((rmEq_iff _ _).1 hq)
      simp only [List.length_append, List.length_singleton] at e
      omega] at this
end Go.Proofs.Yteldcaebbmaemaa
