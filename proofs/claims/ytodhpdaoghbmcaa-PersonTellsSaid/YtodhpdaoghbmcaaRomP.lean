/- Contracts of the program's own functions of layer 11 (room): Shut, Right. -/
import Derived.Test.YtodhpdaoghbmcaaRomO
import Derived.Test.YtodhpdaoghbmcaaWh2
namespace Go.Proofs.Ytodhpdaoghbmcaa
open Go.RowKit
open Whn (Gr Wh)

set_option maxRecDepth 4000 in
set_option maxHeartbeats 1000000 in
theorem p_Shut (r : Rm) (A : Option Addr) (c : Nat) (hok : Rok r) (hm : r.l.length ≤ maxLen) (x : Wh) (hx0 : Wok x) (w : World) (h : Whs w w.heap.size A r.l) :
    Calls Try.prog 42 #[rv r A c, wv x] w (Did (.bool (r.l.any (fun y => Whn.meet y x))) w) := by
  unfold maxLen at hm
  have HR := hid (fun y hy w => p_Meet y x hy hx0 w)
  have H := hid h
  have HO := hid hok.2.2.2
  clear h hok hx0
  obtain ⟨P, W, hP, hW, K, hb0⟩ := (Mem.nil w).one (rc r A c) 63
  obtain ⟨G, V, hG, hV, K1, hb1⟩ := K.out.one (wc x) 29
  obtain ⟨r0, r1, r2, r3⟩ := K1.out.rm (B := P) (r := r) (A := A) (c := c) (by simp)
  clear K
  go_enter Try.func42, Try.ntmps42
  go_wp2
  go_loopw [10] (fun i wr => ∃ (k : Nat), i = .int .i64 k ∧ k ≤ r.l.length ∧ Hid (Mem w wr [(G, wc x, 29)]) ∧ Hid (∀ y ∈ r.l.take k, Whn.meet y x = false)) (fun i _ => r.l.length - (intOf i).toNat)
  case atStart => exact ⟨0, rfl, Nat.zero_le _, hid (K1.out.sub (by simp)), fun y hy => by simp at hy⟩
  case round =>
    clear r0 r1 r2 r3 K1 hb1
    obtain ⟨k, rfl, hk, K1, hsame⟩ := hrel
    by_cases hlt : k < r.l.length
    · obtain ⟨ad, y, rfl, had, hx, hxl⟩ := whs_ad H.out hlt
      have hy1 : Wok y := HO.out _ hxl
      have b1 : (0 : Int) ≤ (k : Int) := by omega
      have b2 : (k : Int) < r.l.length := by omega
      have H1 := H.out.below K1.out.2 (Nat.le_refl _)
      obtain ⟨d0, d1, d2, d3⟩ := whs_at H1 hx.out
      obtain ⟨D, U, hD, hU, K2, hb2⟩ := K1.out.one (wc y) 29
      obtain ⟨c0, c1, c2, c3⟩ := K2.out.wh (B := D) (x := y) (by simp)
      obtain ⟨e0, e1, e2, e3⟩ := K2.out.wh (B := G) (x := x) (by simp)
      go_wp2_with fail
      refine (HR.out y hy1 _).mono ?_
      rintro e w1 ⟨rfl, b3⟩
      have K3 := hid ((K2.out.next b3).sub (l' := [(G, wc x, 29)]) (by simp))
      cases hR : Whn.meet y x with
      | false =>
        go_wp2_with fail
        refine ⟨⟨k + 1, by go_num, by omega, K3, ?_⟩, by simp [intOf]; omega⟩
        refine hid (fun z hz => ?_)
        rw [List.take_add_one, hx.out, List.mem_append] at hz
        rcases hz with hz | hz
        · exact hsame.out z hz
        · simp at hz
          rw [hz]; exact hR
      | true =>
        go_wp2_with fail
        go_ret
        refine Did.mk ?_ K3.out.2
        have : (r.l.any fun y => Whn.meet y x) = true := by
          rw [List.any_eq_true]
          exact ⟨y, hxl, hR⟩
        rw [this]; rfl
    · have hall : (r.l.any fun y => Whn.meet y x) = false := by
        rw [List.any_eq_false]
        intro y hy
        rw [hsame.out y (by rw [List.take_of_length_le (by omega)]; exact hy)]
        simp
      have Ha := hid hall
      clear hall
      have b2 : ¬ (k : Int) < r.l.length := by omega
      go_wp2_with fail
      go_ret
      refine Did.mk ?_ K1.out.2
      rw [Ha.out]; rfl
set_option maxRecDepth 4000 in
set_option maxHeartbeats 4000000 in
theorem p_RightRoom (g : Gr) (r : Rm) (A : Option Addr) (c : Nat) (hok : Rok r) (hm : r.l.length ≤ maxLen) (w : World) (h : Whs w w.heap.size A r.l) :
    Calls Try.prog 40 #[gv g, rv r A c] w (Did (.bool (rmRight g r)) w) := by
  unfold maxLen at hm
  have HG := hid (fun w => p_RightGrid g w)
  have HN := hid (fun w => p_Name (bs r.n) w)
  rw [bs_data] at HN
  have HI := hid (fun n a b w => p_wi n a b w)
  have HW := hid (fun y hy w => p_Right g y hy w)
  have H := hid h
  have HO := hid hok.2.2.2
  have Hr := hid (show rmRight g r = (Whn.rgrid g && nameOk r.n && inB r.s 0 10000 && (r.l.all (Whn.right g) && decide ((r.l.length : Int) ≤ 16))) by
    unfold rmRight inB; rw [Bool.and_assoc (Whn.rgrid g && nameOk r.n)])
  clear h hok
  obtain ⟨P, W, hP, hW, K, hb0⟩ := (Mem.nil w).one (gc g) 23
  obtain ⟨R, V, hR, hV, K1, hb1⟩ := K.out.one (rc r A c) 63
  clear K hb0 hb1
  obtain ⟨g0, g1, g2⟩ := K1.out.gr (B := P) (g := g) (by simp)
  generalize rmRight g r = q at *
  generalize nameOk r.n = nn at *
  cases hgg : Whn.rgrid g with
  | false =>
    rw [hgg] at HG Hr
    clear hgg
    go_enter Try.func40, Try.ntmps40
    go_wp2_with fail
    refine (HG.out _).mono ?_
    rintro e w1 ⟨rfl, b1⟩
    go_wp2_with fail
    go_ret
    exact Did.mk (by rw [Hr.out]; rfl) (K1.out.next b1).2
  | true =>
    rw [hgg] at HG Hr
    go_enter Try.func40, Try.ntmps40
    go_wp2_with fail
    refine (HG.out _).mono ?_
    rintro e w1 ⟨rfl, b1⟩
    have K2 := K1.out.next b1
    clear g0 g1 g2
    obtain ⟨r0, r1, r2, r3⟩ := K2.rm (B := R) (r := r) (A := A) (c := c) (by simp)
    obtain ⟨g0, g1, g2⟩ := K2.gr (B := P) (g := g) (by simp)
    go_wp2_with fail
    refine (HN.out _).mono ?_
    rintro e w2 ⟨rfl, rfl⟩
    cases nn with
    | false =>
      go_wp2_with fail
      go_ret
      exact Did.mk (by rw [Hr.out]; rfl) K2.2
    | true =>
      go_wp2_with fail
      refine (HI.out _ _ _ _).mono ?_
      rintro e w2 ⟨rfl, rfl⟩
      generalize inB r.s 0 10000 = ss at *
      cases ss with
      | false =>
        go_wp2_with fail
        go_ret
        exact Did.mk (by rw [Hr.out]; rfl) K2.2
      | true =>
        by_cases h16 : (16 : Int) < (r.l.length : Int)
        · go_wp2_with fail
          go_ret
          refine Did.mk ?_ K2.2
          rw [Hr.out, decide_eq_false (show ¬ (r.l.length : Int) ≤ 16 by omega), Bool.and_false]; rfl
        · go_wp2_with fail
          rw [decide_eq_true (show (r.l.length : Int) ≤ 16 by omega)] at Hr
          have K2h := hid (K2.sub (l' := [(P, gc g, 23)]) (by simp))
          clear g0 g1 g2 r0 r1 r2 r3 K2 K1 b1 HG HN HI
          go_loopw [31] (fun i wr => ∃ (k : Nat), i = .int .i64 k ∧ k ≤ r.l.length ∧ Hid (Mem w wr [(P, gc g, 23)]) ∧ Hid (∀ y ∈ r.l.take k, Whn.right g y = true)) (fun i _ => r.l.length - (intOf i).toNat)
          case atStart => exact ⟨0, rfl, Nat.zero_le _, K2h, hid (fun y hy => by simp at hy)⟩
          case round =>
            clear K2h
            obtain ⟨k, rfl, hk, K1, hsame⟩ := hrel
            by_cases hlt : k < r.l.length
            · obtain ⟨ad, y, rfl, had, hx, hxl⟩ := whs_ad H.out hlt
              have hy1 : Wok y := HO.out _ hxl
              have b1 : (0 : Int) ≤ (k : Int) := by omega
              have b2 : (k : Int) < r.l.length := by omega
              have H1 := H.out.below K1.out.2 (Nat.le_refl _)
              obtain ⟨d0, d1, d2, d3⟩ := whs_at H1 hx.out
              obtain ⟨D, U, hD, hU, K2, hb2⟩ := K1.out.one (wc y) 29
              obtain ⟨c0, c1, c2, c3⟩ := K2.out.wh (B := D) (x := y) (by simp)
              obtain ⟨e0, e1, e2⟩ := K2.out.gr (B := P) (g := g) (by simp)
              go_wp2_with fail
              refine (HW.out y hy1 _).mono ?_
              rintro e w3 ⟨rfl, b3⟩
              have K3 := hid ((K2.out.next b3).sub (l' := [(P, gc g, 23)]) (by simp))
              cases hR : Whn.right g y with
              | true =>
                go_wp2_with fail
                refine ⟨⟨k + 1, by go_num, by omega, K3, ?_⟩, by simp [intOf]; omega⟩
                refine hid (fun z hz => ?_)
                rw [List.take_add_one, hx.out, List.mem_append] at hz
                rcases hz with hz | hz
                · exact hsame.out z hz
                · simp at hz
                  rw [hz]; exact hR
              | false =>
                go_wp2_with fail
                go_ret
                refine Did.mk ?_ K3.out.2
                have : r.l.all (Whn.right g) = false := by
                  rw [List.all_eq_false]
                  exact ⟨y, hxl, by rw [hR]; simp⟩
                rw [Hr.out, this]; rfl
            · have hall : r.l.all (Whn.right g) = true := by
                rw [List.all_eq_true]
                intro y hy
                exact hsame.out y (by rw [List.take_of_length_le (by omega)]; exact hy)
              rw [hall] at Hr
              clear hall
              have b2 : ¬ (k : Int) < r.l.length := by omega
              go_wp2_with fail
              go_ret
              refine Did.mk ?_ K1.out.2
              rw [Hr.out]; rfl
end Go.Proofs.Ytodhpdaoghbmcaa
