/- Reach: the program's and the document's (layer 12). -/
import Derived.Test.YtnhniajfnmdnnaaDoorWh2
import Derived.Test.YtnhniajfnmdnnaaDoorWh1
namespace Go.Proofs.YtnhniajfnmdnnaaDoor
open Go.RowKit
open Whn (Gr Wh)

def reach (a b : Wh) (n : Int) : Bool := !(Whn.sameDay a b) || (Whn.gapS a b && decide (n ≤ Whn.gap a b))
theorem reach_ref (a b : Wh) (n : Int) : reach a b n = (!(Whn.meet a b) && (!(Whn.gapS a b) || decide (n ≤ Whn.gap a b))) := by
  unfold reach Whn.meet Whn.gapS
  cases Whn.sameDay a b <;> cases Whn.slots a b <;> simp
set_option maxRecDepth 8000 in
set_option maxHeartbeats 2000000 in
theorem p_Reach (a b : Wh) (ha : Wok a) (hb : Wok b) (n : Int) (w : World) : Calls Tryd.prog 48 #[wv a, wv b, .int .i64 n] w (Did (.bool (reach a b n)) w) := by
  have HS := hid (fun w => p_SameDay a b ha hb w)
  have HG := hid (fun w => p_Gap a b ha hb w)
  have Hr := hid (show reach a b n = (!(Whn.sameDay a b) || (Whn.gapS a b && decide (n ≤ Whn.gap a b))) from rfl)
  generalize reach a b n = rr at *
  generalize Whn.sameDay a b = sd at *
  generalize Whn.gapS a b = gs at *
  generalize Whn.gap a b = gn at *
  obtain ⟨A, W, hA, hW, K, hb0⟩ := (Mem.nil w).one (wc a) 27
  obtain ⟨B, V, hB, hV, K1, hb1⟩ := K.out.one (wc b) 27
  clear K hb0 hb1
  obtain ⟨c0, c1, c2, c3⟩ := K1.out.wh (B := A) (x := a) (by simp)
  obtain ⟨d0, d1, d2, d3⟩ := K1.out.wh (B := B) (x := b) (by simp)
  go_enter Tryd.func48, Tryd.ntmps48
  go_wp2_with fail
  refine (HS.out _).mono ?_
  rintro e w1 ⟨rfl, b1⟩
  have K2 := hid (K1.out.next b1)
  clear c0 c1 c2 c3 d0 d1 d2 d3 K1
  obtain ⟨c0, c1, c2, c3⟩ := K2.out.wh (B := A) (x := a) (by simp)
  obtain ⟨d0, d1, d2, d3⟩ := K2.out.wh (B := B) (x := b) (by simp)
  cases sd with
  | false =>
    go_wp2_with fail
    go_ret
    exact Did.mk (by rw [Hr.out]; rfl) K2.out.2
  | true =>
    go_wp2_with fail
    refine (HG.out _).mono ?_
    rintro e w2 ⟨rfl, b2⟩
    have K3 := hid (K2.out.next b2)
    cases gs with
    | false =>
      go_wp2_with fail
      go_ret
      exact Did.mk (by rw [Hr.out]; rfl) K3.out.2
    | true =>
      go_wp2_with fail
      go_ret
      exact Did.mk (by rw [Hr.out]; rfl) K3.out.2
set_option maxRecDepth 8000 in
set_option maxHeartbeats 2000000 in
theorem r_Reach (a b : Wh) (ha : Wok a) (hb : Wok b) (n : Int) (w : World) : Calls Tryd.prog 54 #[wv a, wv b, .int .i64 n] w (Did (.bool (reach a b n)) w) := by
  have HS := hid (fun w => r_Meet a b ha hb w)
  have HG := hid (fun w => r_Gap a b ha hb w)
  have Hr := hid (reach_ref a b n)
  generalize reach a b n = rr at *
  generalize Whn.meet a b = mt at *
  generalize Whn.gapS a b = gs at *
  generalize Whn.gap a b = gn at *
  obtain ⟨A, W, hA, hW, K, hb0⟩ := (Mem.nil w).one (wc a) 27
  obtain ⟨B, V, hB, hV, K1, hb1⟩ := K.out.one (wc b) 27
  clear K hb0 hb1
  obtain ⟨c0, c1, c2, c3⟩ := K1.out.wh (B := A) (x := a) (by simp)
  obtain ⟨d0, d1, d2, d3⟩ := K1.out.wh (B := B) (x := b) (by simp)
  go_enter Tryd.func54, Tryd.ntmps54
  go_wp2_with fail
  refine (HG.out _).mono ?_
  rintro e w1 ⟨rfl, b1⟩
  have K2 := hid (K1.out.next b1)
  clear c0 c1 c2 c3 d0 d1 d2 d3 K1
  obtain ⟨c0, c1, c2, c3⟩ := K2.out.wh (B := A) (x := a) (by simp)
  obtain ⟨d0, d1, d2, d3⟩ := K2.out.wh (B := B) (x := b) (by simp)
  go_wp2_with fail
  refine (HS.out _).mono ?_
  rintro e w2 ⟨rfl, b2⟩
  have K3 := hid (K2.out.next b2)
  cases mt with
  | true =>
    go_wp2_with fail
    go_ret
    exact Did.mk (by rw [Hr.out]; rfl) K3.out.2
  | false =>
    cases gs with
    | false =>
      go_wp2_with fail
      go_ret
      exact Did.mk (by rw [Hr.out]; rfl) K3.out.2
    | true =>
      go_wp2_with fail
      go_ret
      exact Did.mk (by rw [Hr.out]; rfl) K3.out.2
end Go.Proofs.YtnhniajfnmdnnaaDoor
