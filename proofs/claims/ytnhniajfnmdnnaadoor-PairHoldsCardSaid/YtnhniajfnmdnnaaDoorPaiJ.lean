/- The closure of PairOthers (layer 15). -/
import Derived.Test.YtnhniajfnmdnnaaDoorPaiI
namespace Go.Proofs.YtnhniajfnmdnnaaDoor
open Go.RowKit
open Whn (Gr Wh)

theorem no_both {a b : Bool} (h : ¬ (a = true ∧ b = true)) : (a && b) = false := by
  cases a <;> cases b <;> simp_all
set_option maxRecDepth 20000 in
set_option maxHeartbeats 4000000 in
theorem both15 (O : Own) (g : Gr) (k l : Int) (x y : Sp) (hk : I64 k) (hl : I64 l) (hx : SpOk x) (hy : SpOk y) (P Q R : Nat) (w0 X : World)
    (hM : Mem w0 X [(R, spc y, 29), (Q, spc x, 29), (P, gc g, 23)]) (hT : Tbn X) :
    Calls Tryd.prog 25 #[.int .i64 k, .int .i64 l, .pointer (some ⟨P, 0, none⟩), .pointer (some ⟨Q, 0, none⟩), .pointer (some ⟨R, 0, none⟩)] X (Did (.bool (prH g k 0 x y 0 && prH g l 0 x y 0)) X) := by
  have H1 := hid (fun X h => O.holds g k 0 x y 0 X hk (i64_of _ (by omega)) (i64_of _ (by omega)) hx hy h)
  have H2 := hid (fun X h => O.holds g l 0 x y 0 X hl (i64_of _ (by omega)) (i64_of _ (by omega)) hx hy h)
  generalize prH g k 0 x y 0 = q at *
  generalize prH g l 0 x y 0 = p at *
  have K := hid hM
  have HT := hid hT
  clear hM hT hk hl hx hy O
  obtain ⟨mg0, mg1, mg2⟩ := K.out.gr (B := P) (g := g) (by simp)
  obtain ⟨mx0, mx1, mx2, mx3, mx4⟩ := K.out.sp (B := Q) (x := x) (by simp)
  obtain ⟨my0, my1, my2, my3, my4⟩ := K.out.sp (B := R) (x := y) (by simp)
  go_enter Tryd.func25, Tryd.ntmps25
  go_wp2_with fail
  refine (H1.out _ HT.out).mono ?_
  rintro e Y1 ⟨rfl, bz⟩
  have K1 := hid (K.out.next bz)
  have B1 := hid bz
  have HT1 := hid (HT.out.next bz)
  clear bz K HT mg0 mg1 mg2 mx0 mx1 mx2 mx3 mx4 my0 my1 my2 my3 my4
  cases q with
  | false =>
    go_wp2_with fail
    go_ret
    exact Did.mk rfl B1.out
  | true =>
    obtain ⟨mg0, mg1, mg2⟩ := K1.out.gr (B := P) (g := g) (by simp)
    obtain ⟨mx0, mx1, mx2, mx3, mx4⟩ := K1.out.sp (B := Q) (x := x) (by simp)
    obtain ⟨my0, my1, my2, my3, my4⟩ := K1.out.sp (B := R) (x := y) (by simp)
    go_wp2_with fail
    refine (H2.out _ HT1.out).mono ?_
    rintro e Y2 ⟨rfl, bz⟩
    have B2 := hid (below2 B1.out bz)
    clear bz K1 HT1 B1 mg0 mg1 mg2 mx0 mx1 mx2 mx3 mx4 my0 my1 my2 my3 my4
    go_wp2_with fail
    go_ret
    exact Did.mk (by first | rfl | simp) B2.out
def tmP (x y : Sp) : Bool := decide (-2 ≤ x.r) && decide (-2 ≤ y.r)
set_option maxRecDepth 20000 in
theorem l_tame15 (x y : Sp) (w : World) : Calls Tryd.prog 12 #[spv x, spv y] w (Did (.bool (tmP x y)) w) := by
  obtain ⟨Q, V, hQ, hV, K1, hb1⟩ := (Mem.nil w).one (spc x) 29
  obtain ⟨R, U, hR, hU, K2, hb2⟩ := K1.out.one (spc y) 29
  clear K1 hb1 hb2
  obtain ⟨mx0, mx1, mx2, mx3, mx4⟩ := K2.out.sp (B := Q) (x := x) (by simp)
  obtain ⟨my0, my1, my2, my3, my4⟩ := K2.out.sp (B := R) (x := y) (by simp)
  have hq := hid (show tmP x y = (decide (-2 ≤ x.r) && decide (-2 ≤ y.r)) from rfl)
  generalize tmP x y = q at *
  go_enter Tryd.func12, Tryd.ntmps12
  by_cases h1 : -2 ≤ x.r
  · by_cases h2 : -2 ≤ y.r
    · have e := hq.out
      rw [decide_eq_true h1, decide_eq_true h2] at e
      subst e
      clear hq
      go_wp2_with fail
      go_ret
      exact Did.mk rfl K2.out.2
    · have e := hq.out
      rw [decide_eq_true h1, decide_eq_false h2] at e
      subst e
      clear hq
      go_wp2_with fail
      go_ret
      exact Did.mk rfl K2.out.2
  · have e := hq.out
    rw [decide_eq_false h1] at e
    subst e
    clear hq
    go_wp2_with fail
    go_ret
    exact Did.mk rfl K2.out.2
/-- a time that is not known yet -/
def hideW (b : Bool) (a : Wh) : Wh := if b then ⟨0, 0, 0, 0⟩ else a
/-- a room that is not known yet -/
def hideR (b : Bool) (r : Int) : Int := if b && decide (0 ≤ r) then -2 else r
def hideS (b c : Bool) (x : Sp) : Sp := ⟨hideW b x.w, hideR c x.r⟩
def farP (u v : Sp) (walk : Int) : Int := if decide (u.r < 0) || decide (v.r < 0) then 0 else walk
theorem hideS_ok {b c : Bool} {x : Sp} (h : SpOk x) : SpOk (hideS b c x) := by
  obtain ⟨h1, h2⟩ := h
  constructor
  · show Wok (hideW b x.w)
    unfold hideW
    cases b
    · exact h1
    · exact z_ok.1
  · show I64 (hideR c x.r)
    unfold hideR
    split
    · unfold I64; omega
    · exact h2
theorem farP_ok {u v : Sp} {walk : Int} (h : I64 walk) : I64 (farP u v walk) := by
  unfold farP
  split
  · unfold I64; omega
  · exact h
/-- what can never hold any more of what is hidden does not hold of what is shown -/
theorem round_keeps {g : Gr} {k n : Int} {x y : Sp} {walk : Int} (b c d e : Bool) (hx : x.w.w ≠ 0) (hy : y.w.w ≠ 0) (hp : plB x y = true)
    (h : prN g k n (hideS b d x) (hideS c e y) (farP (hideS b d x) (hideS c e y) walk) = true) : prN g k n x y walk = true := by
  refine never_keeps hx hy hp ?_ ?_ ?_ ?_ ?_ h
  · cases b
    · exact Or.inl rfl
    · exact Or.inr rfl
  · cases c
    · exact Or.inl rfl
    · exact Or.inr rfl
  · show hideR d x.r = x.r ∨ hideR d x.r = -2 ∧ 0 ≤ x.r
    unfold hideR
    cases d
    · exact Or.inl rfl
    · by_cases hr : 0 ≤ x.r
      · rw [Bool.true_and, decide_eq_true hr]; exact Or.inr ⟨rfl, hr⟩
      · rw [Bool.true_and, decide_eq_false hr]; exact Or.inl rfl
  · show hideR e y.r = y.r ∨ hideR e y.r = -2 ∧ 0 ≤ y.r
    unfold hideR
    cases e
    · exact Or.inl rfl
    · by_cases hr : 0 ≤ y.r
      · rw [Bool.true_and, decide_eq_true hr]; exact Or.inr ⟨rfl, hr⟩
      · rw [Bool.true_and, decide_eq_false hr]; exact Or.inl rfl
  · unfold farP
    split
    · rename_i h2
      rw [Bool.or_eq_true, decide_eq_true_iff, decide_eq_true_iff] at h2
      exact Or.inr ⟨rfl, h2⟩
    · exact Or.inl rfl
end Go.Proofs.YtnhniajfnmdnnaaDoor
