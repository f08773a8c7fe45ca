/- The law's popped (layer 7). -/
import Derived.Test.YtojballaghkojaaPilI
namespace Go.Proofs.Ytojballaghkojaa
open Go.RowKit Go.Shelf
open Pil (It)

def PopRet (n₀ p : Nat) (A : Option Addr) (s l : List It) (w : World) (e : Ending) (w' : World) : Prop := e = .returned (.bool true) ∧ Two n₀ w' p A s.tail l ∧ Below n₀ w w'
set_option maxRecDepth 20000 in
set_option maxHeartbeats 4000000 in
theorem l_popped {n₀ : Nat} {w : World} {p : Nat} {A : Option Addr} {s l : List It} (h : Two n₀ w p A s l) (hn : n₀ ≤ w.heap.size) (hm : s.length ≤ 10000) (hp : l.Perm s) (n c : Nat) (hl : l.length = n) :
    Calls Try.prog 18 #[ptr p, .slice A n c] w (PopRet n₀ p A s l w) := by
  subst hl
  have P1 := hid (two_Peek h hm)
  have H := hid h
  have Hs := hid h.pl.srt
  have HP := hid hp
  cases s with
  | nil =>
    have hl0 : l = [] := List.perm_nil.1 hp
    subst hl0
    rw [show topV [] = .tuple #[.int .i64 0, .int .i64 0, .bool false] from rfl] at P1
    clear h hp
    go_enter Try.func18, Try.ntmps18
    go_wp2_with fail
    refine (P1.out).mono ?_
    rintro e w1 ⟨rfl, b1⟩
    have P2 := hid (two_Pop (H.out.below b1) (Nat.le_trans hn b1.size) hm)
    rw [show topV [] = .tuple #[.int .i64 0, .int .i64 0, .bool false] from rfl] at P2
    go_wp2_with fail
    refine (P2.out).mono ?_
    rintro e w2 ⟨rfl, t2, b2⟩
    have T2 := hid t2
    have B2 := hid ((b1.mono hn).trans b2)
    clear t2 b2 P1 P2
    go_wp2_with fail
    go_ret
    exact ⟨rfl, T2.out, B2.out⟩
  | cons x r =>
    obtain ⟨xk, xr⟩ := x
    rw [show topV ((xk, xr) :: r) = .tuple #[.int .i64 xk, .int .i64 xr, .bool true] from rfl] at P1
    have hne : l ≠ [] := by rintro rfl; have := hp.length_eq; simp at this
    have hlp : (0 : Int) < (l.length : Int) := by have := List.length_pos_iff.2 hne; omega
    have hll : l.length ≤ 1000000 := by have := hp.length_eq; omega
    have hz : ((l.length : Int) == 0) = false := by rw [beq_eq_false_iff_ne]; omega
    have Hne := hid hne
    clear h hp hne
    go_enter Try.func18, Try.ntmps18
    go_wp2_with fail
    refine (P1.out).mono ?_
    rintro e w1 ⟨rfl, b1⟩
    have P2 := hid (two_Pop (H.out.below b1) (Nat.le_trans hn b1.size) hm)
    rw [show topV ((xk, xr) :: r) = .tuple #[.int .i64 xk, .int .i64 xr, .bool true] from rfl] at P2
    go_wp2_with fail
    refine (P2.out).mono ?_
    rintro e w2 ⟨rfl, t2, b2⟩
    have T2 := hid t2
    have B2 := hid ((b1.mono hn).trans b2)
    have TP := hid (r_Top A l.length c l rfl hll _ w2 t2.row)
    unfold TopRet at TP
    clear t2 b2 P1 P2
    go_wp2_with fail
    refine (TP.out).mono ?_
    rintro e w3 ⟨z, rfl, b3, _, _, hz3⟩
    obtain ⟨k, rfl, hk, hkl⟩ := hz3 Hne.out
    have hx := Pil.top_head HP.out Hs.out hk
    have T3 := hid (T2.out.below b3)
    obtain ⟨b0, o0, ky, vl, rfl, _, Hx, hc1, hc2⟩ := Its2.get T3.out.row hkl
    have hxe := Hx.out
    rw [hx] at hxe
    injection hxe with hxe
    injection hxe with hx1 hx2
    subst hx1; subst hx2
    have i1 : (0 : Int) ≤ (k : Int) := by omega
    have i2 : (k : Int) < (l.length : Int) := by omega
    have B3 := hid (B2.out.trans (b3.mono (by have := B2.out.size; omega)))
    have hsz := hid (show n₀ ≤ w3.heap.size by have := B3.out.size; omega)
    clear hk hx TP
    go_wp2_with fail
    go_ret
    exact ⟨rfl, T3.out.below (below_alloc _ _), B3.out.trans ((below_alloc _ _).mono hsz.out)⟩
end Go.Proofs.Ytojballaghkojaa
