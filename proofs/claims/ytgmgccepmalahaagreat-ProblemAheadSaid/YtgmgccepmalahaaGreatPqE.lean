/- The document's own answers for layer 14 (course): Has, Rows, Same; and Ints. The laws' own few and light, and the document's own Count, for layer 14 (course). The document's own Right for layer 14 (course). -/
import Derived.Test.YtgmgccepmalahaaGreatPqA
import Derived.Test.YtgmgccepmalahaaGreatPqC
import Derived.Test.YtgmgccepmalahaaGreatPqB
namespace Go.Proofs.YtgmgccepmalahaaGreat
open Go.RowKit
open Whn (Gr Wh)

set_option maxRecDepth 8000 in
set_option maxHeartbeats 1000000 in
theorem r_Has (A : Option Addr) (n c : Nat) (l : List Int) (hn : l.length = n) (hm : l.length ≤ maxLen) (x : Int) (w : World) (B : Nat) (h : Its w B A l) :
    Calls Tryz.prog 65 #[.slice A n c, .int .i64 x] w (fun e w' => e = .returned (.bool (decide (x ∈ l))) ∧ w = w') := by
  subst hn
  unfold maxLen at hm
  have H := hid h
  clear h
  go_enter Tryz.func65, Tryz.ntmps65
  go_wp2
  go_loopw [5] (fun i wr => ∃ (k : Nat), i = .int .i64 k ∧ k ≤ l.length ∧ w = wr ∧ Hid (∀ y ∈ l.take k, y ≠ x)) (fun i _ => l.length - (intOf i).toNat)
  case atStart => exact ⟨0, rfl, Nat.zero_le _, rfl, hid (fun y hy => by simp at hy)⟩
  case round =>
    obtain ⟨k, rfl, hk, rfl, hsame⟩ := hrel
    by_cases hlt : k < l.length
    · obtain ⟨ad, y, rfl, had, hx, hcy⟩ := Its.get H.out hlt
      have b1 : (0 : Int) ≤ (k : Int) := by omega
      have b2 : (k : Int) < l.length := by omega
      by_cases hxy : y = x
      · have q1 : (y == x) = true := by rw [beq_iff_eq]; exact hxy
        have Hr := hid (show decide (x ∈ l) = true from decide_eq_true (by rw [← hxy]; exact List.mem_of_getElem? hx.out))
        clear hxy
        go_wp2_with fail
        go_ret
        exact ⟨by rw [Hr.out]; rfl, rfl⟩
      · have q1 : (y == x) = false := by rw [beq_eq_false_iff_ne]; exact hxy
        have hne := hid hxy
        clear hxy
        go_wp2_with fail
        refine ⟨⟨k + 1, by go_num, by omega, trivial, ?_⟩, by simp [intOf]; omega⟩
        refine hid (fun z hz => ?_)
        rw [List.take_add_one, hx.out, List.mem_append] at hz
        rcases hz with hz | hz
        · exact hsame.out z hz
        · simp at hz
          rw [hz]; exact hne.out
    · have Hr := hid (show decide (x ∈ l) = false from decide_eq_false (fun hx => hsame.out x (by rw [List.take_of_length_le (by omega)]; exact hx) rfl))
      have b2 : ¬ (k : Int) < l.length := by omega
      go_wp2_with fail
      go_ret
      exact ⟨by rw [Hr.out]; rfl, rfl⟩
set_option maxRecDepth 20000 in
set_option maxHeartbeats 2000000 in
theorem r_Rows14 (A A2 : Option Addr) (c c2 : Nat) (ls ms : List (List Int)) (hl : Lsok ls) (w : World) (h : Rows2 w w.heap.size A ls) (h2 : Rows2 w w.heap.size A2 ms) :
    Calls Tryz.prog 97 #[.slice A ls.length c, .slice A2 ms.length c2] w (Did (.bool (decide (ls = ms))) w) := by
  have hm := hl.1
  unfold maxLen at hm
  by_cases hlen : (ls.length : Int) = (ms.length : Int)
  · have Hn := hid (show ls.length = ms.length by omega)
    have H := hid h
    have H2 := hid h2
    have HL := hid hl.2
    have hne : ((ls.length : Int) != (ms.length : Int)) = false := by rw [bne_eq_false_iff_eq]; exact hlen
    clear h h2 hl hlen
    go_enter Tryz.func97, Tryz.ntmps97
    go_wp2
    go_loopw [5] (fun i wr => ∃ (k : Nat), i = .int .i64 k ∧ k ≤ ls.length ∧ Hid (Below w.heap.size w wr) ∧ Hid (ls.take k = ms.take k)) (fun i _ => ls.length - (intOf i).toNat)
    case atStart => exact ⟨0, rfl, Nat.zero_le _, hid (Below.refl _ _), hid rfl⟩
    case round =>
      obtain ⟨k, rfl, hk, K1, hsame⟩ := hrel
      by_cases hlt : k < ls.length
      · obtain ⟨ad, Ak, ck, x, rfl, hadb, hx, hxl, hcx, hrx, hckx⟩ := H.out.get hlt
        obtain ⟨ae, Bk, dk, y, rfl, haeb, hy, _, hcy, hry, hdky⟩ := H2.out.get (k := k) (by have := Hn.out; omega)
        have b1 : (0 : Int) ≤ (k : Int) := by omega
        have b2 : (k : Int) < ls.length := by omega
        have b3 : (k : Int) < ms.length := by have := Hn.out; omega
        have hbx : (ad.add k).block < w.heap.size := by rw [add_block]; exact hadb
        have hby : (ae.add k).block < w.heap.size := by rw [add_block]; exact haeb
        have HI := hid (fun X (hX : Below w.heap.size w X) => r_Ints Ak Bk x.length y.length ck dk x y rfl rfl X _ _ (hrx.below hX (Nat.le_refl _)) (hry.below hX (Nat.le_refl _)) (HL.out x hxl).1)
        clear hrx hry hckx hdky
        go_wp2_with fail
        refine wp_region_held_drew (S := fun X => Below w.heap.size w X) (by kernel_rfl) K1.out.drew (fun hHeld => ?_)
        refine takeH 0 17 (.slice (some ad) ls.length c) rfl rfl (by kernel_rfl) (by kernel_rfl) (by kernel_rfl) (fun _ _ _ h => h) (by kernel_rfl) (fun X hX => by clear hX; first | rfl | go_simp) hHeld ?_
        simp only [Act.put, List.setIfInBounds_toArray, List.set_cons_zero, List.set_cons_succ]
        refine takeH 1 18 (.int .i64 (k : Int)) rfl rfl (by kernel_rfl) (by kernel_rfl) (by kernel_rfl) (fun _ _ _ h => h) (by kernel_rfl) (fun X hX => by clear hX; first | rfl | go_simp) hHeld ?_
        simp only [Act.put, List.setIfInBounds_toArray, List.set_cons_zero, List.set_cons_succ]
        refine takeH 2 19 (.pointer (some (ad.add k))) rfl rfl (by kernel_rfl) (by kernel_rfl) (by kernel_rfl) (fun _ _ _ h => h) (by kernel_rfl) (fun X hX => by clear hX; first | rfl | go_simp) hHeld ?_
        simp only [Act.put, List.setIfInBounds_toArray, List.set_cons_zero, List.set_cons_succ]
        refine takeH 3 20 (.slice Ak x.length ck) rfl rfl (by kernel_rfl) (by kernel_rfl) (by kernel_rfl) (fun _ _ _ h => h) (by kernel_rfl) (fun X hX => by have q := (hX.cell (p := ad.add k) hbx).trans hcx; clear hX; go_simp) hHeld ?_
        simp only [Act.put, List.setIfInBounds_toArray, List.set_cons_zero, List.set_cons_succ]
        refine takeH 4 21 (.slice (some ae) ms.length c2) rfl rfl (by kernel_rfl) (by kernel_rfl) (by kernel_rfl) (fun _ _ _ h => h) (by kernel_rfl) (fun X hX => by clear hX; first | rfl | go_simp) hHeld ?_
        simp only [Act.put, List.setIfInBounds_toArray, List.set_cons_zero, List.set_cons_succ]
        refine takeH 5 22 (.int .i64 (k : Int)) rfl rfl (by kernel_rfl) (by kernel_rfl) (by kernel_rfl) (fun _ _ _ h => h) (by kernel_rfl) (fun X hX => by clear hX; first | rfl | go_simp) hHeld ?_
        simp only [Act.put, List.setIfInBounds_toArray, List.set_cons_zero, List.set_cons_succ]
        refine takeH 6 23 (.pointer (some (ae.add k))) rfl rfl (by kernel_rfl) (by kernel_rfl) (by kernel_rfl) (fun _ _ _ h => h) (by kernel_rfl) (fun X hX => by clear hX; first | rfl | go_simp) hHeld ?_
        simp only [Act.put, List.setIfInBounds_toArray, List.set_cons_zero, List.set_cons_succ]
        refine takeH 7 24 (.slice Bk y.length dk) rfl rfl (by kernel_rfl) (by kernel_rfl) (by kernel_rfl) (fun _ _ _ h => h) (by kernel_rfl) (fun X hX => by have q := (hX.cell (p := ae.add k) hby).trans hcy; clear hX; go_simp) hHeld ?_
        simp only [Act.put, List.setIfInBounds_toArray, List.set_cons_zero, List.set_cons_succ]
        refine wpAnyH_ready (rs := [8]) (by kernel_rfl) (by simp) ?_
        refine AllReadyH.cons rfl (fun KK hK => ?_) AllReadyH.nil
        simp only [List.getElem_toArray, List.getElem_cons_succ, List.getElem_cons_zero]
        go_simp
        refine (HI.out _ K1.out.drew).mono ?_
        rintro e Y ⟨rfl, bz⟩
        have K2 := hid (K1.out.drew.trans (bz.mono K1.out.drew.size))
        refine hK.out _ _ K2.out (fun hHeld => ?_)
        clear hK KK
        try simp only [Act.put, List.setIfInBounds_toArray, List.set_cons_zero, List.set_cons_succ]
        refine takeH 9 26 (.bool (!decide (x = y))) rfl rfl (by kernel_rfl) (by kernel_rfl) (by kernel_rfl) (fun _ _ _ h => h) (by kernel_rfl) (fun X hX => by clear hX; go_simp) hHeld ?_
        simp only [Act.put, List.setIfInBounds_toArray, List.set_cons_zero, List.set_cons_succ]
        refine wpAnyH_done (by kernel_rfl) ?_ _
        clear hHeld HI bz
        cases hR : decide (x = y) with
        | true =>
          have hn := hid (show ls.take (k + 1) = ms.take (k + 1) by rw [List.take_add_one, List.take_add_one, hsame.out, hx.out, hy.out, of_decide_eq_true hR])
          go_wp2_with fail
          exact ⟨⟨k + 1, by go_num, by omega, K2, hn⟩, by simp [intOf]; omega⟩
        | false =>
          have hres := hid (decide_eq_false (takes_ne hx.out hy.out (of_decide_eq_false hR)))
          go_wp2_with fail
          go_ret
          exact Did.mk (by rw [hres.out]; rfl) K2.out
      · have hall := hid (decide_eq_true (takes_all hsame.out (by omega) Hn.out))
        have b2 : ¬ (k : Int) < ls.length := by omega
        go_wp2_with fail
        go_ret
        exact Did.mk (by rw [hall.out]; rfl) K1.out
  · have hne : ((ls.length : Int) != (ms.length : Int)) = true := by rw [bne_iff_ne]; exact hlen
    have hres := hid (show decide (ls = ms) = false by rw [decide_eq_false_iff_not]; intro e; exact hlen (by rw [e]))
    clear hlen h h2
    go_enter Tryz.func97, Tryz.ntmps97
    go_wp2
    go_ret
    exact Did.mk (by rw [hres.out]; rfl) (Below.refl _ _)
def csEq (x y : Cs) : Bool := decide (x.n = y.n) && decide (x.ws = y.ws)
theorem csEq_iff (x y : Cs) : csEq x y = true ↔ x = y := by
  unfold csEq
  rw [Bool.and_eq_true, decide_eq_true_iff, decide_eq_true_iff]
  constructor
  · rintro ⟨h1, h2⟩
    cases x; cases y
    simp only at h1 h2
    subst h1; subst h2
    rfl
  · rintro rfl; exact ⟨rfl, rfl⟩
set_option maxRecDepth 20000 in
set_option maxHeartbeats 4000000 in
theorem r_SameCs (x y : Cs) (A A2 : Option Addr) (c c2 : Nat) (hl : Wsok x.ws) (w : World) (h : Rows3 w w.heap.size A x.ws) (h2 : Rows3 w w.heap.size A2 y.ws) :
    Calls Tryz.prog 101 #[csv x A c, csv y A2 c2] w (Did (.bool (csEq x y)) w) := by
  have hm := hl.1
  unfold maxLen at hm
  have Hr := hid (show csEq x y = (decide (x.n = y.n) && decide (x.ws = y.ws)) from rfl)
  generalize csEq x y = q at *
  obtain ⟨P, W, hP, hW, K, hb0⟩ := (Mem.nil w).one (csc x A c) 65
  obtain ⟨R, V, hR, hV, K1, hb1⟩ := K.out.one (csc y A2 c2) 65
  clear K hb0 hb1
  obtain ⟨e0, e1⟩ := K1.out.cs (B := P) (x := x) (A := A) (c := c) (t := 65) (by simp)
  obtain ⟨f0, f1⟩ := K1.out.cs (B := R) (x := y) (A := A2) (c := c2) (t := 65) (by simp)
  by_cases c1 : x.n = y.n
  · have q1 : ((bs x.n).toList == (bs y.n).toList) = true := by rw [list_of, list_of, bs_data, bs_data, beq_iff_eq]; exact c1
    rw [decide_eq_true c1, Bool.true_and] at Hr
    clear c1
    by_cases hlen : (x.ws.length : Int) = (y.ws.length : Int)
    · have Hn := hid (show x.ws.length = y.ws.length by omega)
      have H := hid h
      have H2 := hid h2
      have HL := hid hl.2
      have hne : ((x.ws.length : Int) != (y.ws.length : Int)) = false := by rw [bne_eq_false_iff_eq]; exact hlen
      clear h h2 hl hlen
      go_enter Tryz.func101, Tryz.ntmps101
      go_wp2
      clear e0 e1 f0 f1
      go_loopw [5] (fun i wr => ∃ (k : Nat), i = .int .i64 k ∧ k ≤ x.ws.length ∧ Hid (Mem w wr [(R, csc y A2 c2, 65), (P, csc x A c, 65)]) ∧ Hid (x.ws.take k = y.ws.take k)) (fun i _ => x.ws.length - (intOf i).toNat)
      case atStart => exact ⟨0, rfl, Nat.zero_le _, K1, hid rfl⟩
      case round =>
        clear K1
        obtain ⟨k, rfl, hk, K1, hsame⟩ := hrel
        obtain ⟨e0, e1⟩ := K1.out.cs (B := P) (x := x) (A := A) (c := c) (t := 65) (by simp)
        by_cases hlt : k < x.ws.length
        · obtain ⟨ad, Ak, ck, u, rfl, hadb, hx, hxl, hcx, hrx, hckx⟩ := H.out.at_ hlt
          obtain ⟨ae, Bk, dk, v, rfl, haeb, hy, _, hcy, hry, hdky⟩ := H2.out.at_ (k := k) (by have := Hn.out; omega)
          have b1 : (0 : Int) ≤ (k : Int) := by omega
          have b2 : (k : Int) < x.ws.length := by omega
          have b3 : (k : Int) < y.ws.length := by have := Hn.out; omega
          have hbx : (ad.add k).block < w.heap.size := by rw [add_block]; exact hadb
          have hby : (ae.add k).block < w.heap.size := by rw [add_block]; exact haeb
          have HI := hid (fun X (hX : Below w.heap.size w X) => r_Rows14 Ak Bk ck dk u v (HL.out u hxl) X ((hrx.below hX (Nat.le_refl _)).more hX.size) ((hry.below hX (Nat.le_refl _)).more hX.size))
          clear hrx hry hckx hdky
          go_wp2_with fail
          clear e0 e1
          refine wp_region_held_drew (S := fun X => Mem w X [(R, csc y (some ae) c2, 65), (P, csc x (some ad) c, 65)]) (by kernel_rfl) K1.out.drew (fun hHeld => ?_)
          refine takeH 0 27 (.pointer (some ⟨P, 1, none⟩)) rfl rfl (by kernel_rfl) (by kernel_rfl) (by kernel_rfl) (fun _ _ _ h => h) (by kernel_rfl) (fun X hX => by clear hX; first | rfl | go_simp) hHeld ?_
          simp only [Act.put, List.setIfInBounds_toArray, List.set_cons_zero, List.set_cons_succ]
          refine takeH 1 28 (.slice (some ad) x.ws.length c) rfl rfl (by kernel_rfl) (by kernel_rfl) (by kernel_rfl) (fun _ _ _ h => h) (by kernel_rfl) (fun X hX => by obtain ⟨q0, q1⟩ := hX.cs (B := P) (x := x) (A := some ad) (c := c) (t := 65) (by simp); clear hX; go_simp) hHeld ?_
          simp only [Act.put, List.setIfInBounds_toArray, List.set_cons_zero, List.set_cons_succ]
          refine takeH 2 29 (.int .i64 (k : Int)) rfl rfl (by kernel_rfl) (by kernel_rfl) (by kernel_rfl) (fun _ _ _ h => h) (by kernel_rfl) (fun X hX => by clear hX; first | rfl | go_simp) hHeld ?_
          simp only [Act.put, List.setIfInBounds_toArray, List.set_cons_zero, List.set_cons_succ]
          refine takeH 3 30 (.pointer (some (ad.add k))) rfl rfl (by kernel_rfl) (by kernel_rfl) (by kernel_rfl) (fun _ _ _ h => h) (by kernel_rfl) (fun X hX => by clear hX; first | rfl | go_simp) hHeld ?_
          simp only [Act.put, List.setIfInBounds_toArray, List.set_cons_zero, List.set_cons_succ]
          refine takeH 4 31 (.pointer (some (ad.add k))) rfl rfl (by kernel_rfl) (by kernel_rfl) (by kernel_rfl) (fun _ _ _ h => h) (by kernel_rfl) (fun X hX => by clear hX; first | rfl | go_simp) hHeld ?_
          simp only [Act.put, List.setIfInBounds_toArray, List.set_cons_zero, List.set_cons_succ]
          refine takeH 5 32 (.slice Ak u.length ck) rfl rfl (by kernel_rfl) (by kernel_rfl) (by kernel_rfl) (fun _ _ _ h => h) (by kernel_rfl) (fun X hX => by have q := (hX.2.cell (p := ad.add k) hbx).trans hcx; clear hX; go_simp) hHeld ?_
          simp only [Act.put, List.setIfInBounds_toArray, List.set_cons_zero, List.set_cons_succ]
          refine takeH 6 33 (.pointer (some ⟨R, 1, none⟩)) rfl rfl (by kernel_rfl) (by kernel_rfl) (by kernel_rfl) (fun _ _ _ h => h) (by kernel_rfl) (fun X hX => by clear hX; first | rfl | go_simp) hHeld ?_
          simp only [Act.put, List.setIfInBounds_toArray, List.set_cons_zero, List.set_cons_succ]
          refine takeH 7 34 (.slice (some ae) y.ws.length c2) rfl rfl (by kernel_rfl) (by kernel_rfl) (by kernel_rfl) (fun _ _ _ h => h) (by kernel_rfl) (fun X hX => by obtain ⟨q0, q1⟩ := hX.cs (B := R) (x := y) (A := some ae) (c := c2) (t := 65) (by simp); clear hX; go_simp) hHeld ?_
          simp only [Act.put, List.setIfInBounds_toArray, List.set_cons_zero, List.set_cons_succ]
          refine takeH 8 35 (.int .i64 (k : Int)) rfl rfl (by kernel_rfl) (by kernel_rfl) (by kernel_rfl) (fun _ _ _ h => h) (by kernel_rfl) (fun X hX => by clear hX; first | rfl | go_simp) hHeld ?_
          simp only [Act.put, List.setIfInBounds_toArray, List.set_cons_zero, List.set_cons_succ]
          refine takeH 9 36 (.pointer (some (ae.add k))) rfl rfl (by kernel_rfl) (by kernel_rfl) (by kernel_rfl) (fun _ _ _ h => h) (by kernel_rfl) (fun X hX => by clear hX; first | rfl | go_simp) hHeld ?_
          simp only [Act.put, List.setIfInBounds_toArray, List.set_cons_zero, List.set_cons_succ]
          refine takeH 10 37 (.pointer (some (ae.add k))) rfl rfl (by kernel_rfl) (by kernel_rfl) (by kernel_rfl) (fun _ _ _ h => h) (by kernel_rfl) (fun X hX => by clear hX; first | rfl | go_simp) hHeld ?_
          simp only [Act.put, List.setIfInBounds_toArray, List.set_cons_zero, List.set_cons_succ]
          refine takeH 11 38 (.slice Bk v.length dk) rfl rfl (by kernel_rfl) (by kernel_rfl) (by kernel_rfl) (fun _ _ _ h => h) (by kernel_rfl) (fun X hX => by have q := (hX.2.cell (p := ae.add k) hby).trans hcy; clear hX; go_simp) hHeld ?_
          simp only [Act.put, List.setIfInBounds_toArray, List.set_cons_zero, List.set_cons_succ]
          refine wpAnyH_ready (rs := [12]) (by kernel_rfl) (by simp) ?_
          refine AllReadyH.cons rfl (fun KK hK => ?_) AllReadyH.nil
          simp only [List.getElem_toArray, List.getElem_cons_succ, List.getElem_cons_zero]
          go_simp
          refine (HI.out _ K1.out.drew.2).mono ?_
          rintro e Y ⟨rfl, bz⟩
          have K2 := hid (K1.out.drew.next bz)
          refine hK.out _ _ K2.out (fun hHeld => ?_)
          clear hK KK
          try simp only [Act.put, List.setIfInBounds_toArray, List.set_cons_zero, List.set_cons_succ]
          refine takeH 13 40 (.bool (!decide (u = v))) rfl rfl (by kernel_rfl) (by kernel_rfl) (by kernel_rfl) (fun _ _ _ h => h) (by kernel_rfl) (fun X hX => by clear hX; go_simp) hHeld ?_
          simp only [Act.put, List.setIfInBounds_toArray, List.set_cons_zero, List.set_cons_succ]
          refine wpAnyH_done (by kernel_rfl) ?_ _
          clear hHeld HI bz K1
          cases hR : decide (u = v) with
          | true =>
            have hn := hid (show x.ws.take (k + 1) = y.ws.take (k + 1) by rw [List.take_add_one, List.take_add_one, hsame.out, hx.out, hy.out, of_decide_eq_true hR])
            go_wp2_with fail
            exact ⟨⟨k + 1, by go_num, by omega, K2, hn⟩, by simp [intOf]; omega⟩
          | false =>
            have hres := hid (decide_eq_false (takes_ne hx.out hy.out (of_decide_eq_false hR)))
            go_wp2_with fail
            go_ret
            exact Did.mk (by rw [Hr.out, hres.out]; rfl) K2.out.2
        · have hall := hid (decide_eq_true (takes_all hsame.out (by omega) Hn.out))
          have b2 : ¬ (k : Int) < x.ws.length := by omega
          go_wp2_with fail
          go_ret
          exact Did.mk (by rw [Hr.out, hall.out]; rfl) K1.out.2
    · have hne : ((x.ws.length : Int) != (y.ws.length : Int)) = true := by rw [bne_iff_ne]; exact hlen
      have hres := hid (show decide (x.ws = y.ws) = false by rw [decide_eq_false_iff_not]; intro e; exact hlen (by rw [e]))
      clear hlen h h2
      go_enter Tryz.func101, Tryz.ntmps101
      go_wp2
      go_ret
      exact Did.mk (by rw [Hr.out, hres.out]; rfl) K1.out.2
  · have q1 : ((bs x.n).toList == (bs y.n).toList) = false := by rw [list_of, list_of, bs_data, bs_data, beq_eq_false_iff_ne]; exact c1
    rw [decide_eq_false c1, Bool.false_and] at Hr
    clear c1 h h2
    go_enter Tryz.func101, Tryz.ntmps101
    go_wp2
    go_ret
    exact Did.mk (by rw [Hr.out]; rfl) K1.out.2
end Go.Proofs.YtgmgccepmalahaaGreat
namespace Go.Proofs.YtgmgccepmalahaaGreat
open Go.RowKit
open Whn (Gr Wh)

def okW (ls : List (List Int)) : Bool := decide (ls.length ≤ 6) && ls.all fun l => decide (l.length ≤ 10)
def fewC (x : Cs) : Bool := decide (x.ws.length ≤ 6) && x.ws.all okW
theorem all_no {α : Type} {f : α → Bool} {l : List α} {k : Nat} {a : α} (h : l[k]? = some a) (hf : f a = false) : l.all f = false := by
  rw [List.all_eq_false]
  exact ⟨a, List.mem_of_getElem? h, by rw [hf]; simp⟩
theorem all_yes {α : Type} {f : α → Bool} {l : List α} (h : ∀ i, i < l.length → ∀ y, l[i]? = some y → f y = true) : l.all f = true := by
  rw [List.all_eq_true]
  intro y hy
  obtain ⟨i, hi, e⟩ := List.mem_iff_getElem.1 hy
  exact h i hi y (by rw [List.getElem?_eq_getElem hi, e])
theorem all_next {α : Type} {f : α → Bool} {l : List α} {k : Nat} {a : α} (ha : l[k]? = some a) (hf : f a = true) (h : ∀ i, i < k → ∀ y, l[i]? = some y → f y = true) : ∀ i, i < k + 1 → ∀ y, l[i]? = some y → f y = true := fun i hi y hy => by
  rcases Nat.lt_or_ge i k with h' | h'
  · exact h i h' y hy
  · obtain rfl : i = k := by omega
    rw [ha] at hy
    rw [← Option.some.inj hy]; exact hf
/-- how many loads the first parts of a way have; the first ways -/
def wayN (ls : List (List Int)) : Nat → Nat
  | 0 => 1
  | k + 1 => min (wayN ls k * min (ls.getD k []).length 65536) 65536
def cntN (ws : List (List (List Int))) : Nat → Nat
  | 0 => 0
  | k + 1 => min (cntN ws k + wayN (ws.getD k []) (ws.getD k []).length) 65536
theorem wayN_le (ls : List (List Int)) : ∀ k, wayN ls k ≤ 65536
  | 0 => by rw [wayN]; omega
  | k + 1 => by rw [wayN]; omega
theorem cntN_le (ws : List (List (List Int))) : ∀ k, cntN ws k ≤ 65536
  | 0 => by rw [cntN]; omega
  | k + 1 => by rw [cntN]; omega
def cntC (x : Cs) : Nat := cntN x.ws x.ws.length
def lightC (x : Cs) : Bool := fewC x && decide (cntC x ≤ 600)
end Go.Proofs.YtgmgccepmalahaaGreat
namespace Go.Proofs.YtgmgccepmalahaaGreat
open Go.RowKit
open Whn (Gr Wh)

theorem Tryz.info_int14 : (Tryz.prog.info? 3).map (fun i => (i.zero, i.size, i.bytes)) = some (some (.int .i64 0), 1, 8) := by kernel_rfl
/-- a row of numbers that is appended -/
theorem src_its {P : Program} (w : World) {e' tx : TypeId} (hk : P.underlying tx = some (.slice e')) {B : Nat} {A : Option Addr} {n c : Nat} {m : List Int} (hn : m.length = n) (h : Its w B A m) : Src P 1 tx (.slice A n c) n (m.map (Value.int .i64)) w := by
  by_cases hl : m = []
  · subst hl
    obtain rfl : n = 0 := hn.symm
    cases A with
    | none => exact Src.ofNil w hk c
    | some a => exact Src.ofSlice w hk a 0 c [] rfl (fun j u hu => by cases hu) (fun u hu => by cases hu)
  · obtain ⟨ad, rfl, _, hc⟩ := h (by rw [ne_eq, List.map_eq_nil_iff]; exact hl)
    exact Src.ofSlice w hk ad n c (m.map (Value.int .i64)) (by rw [List.length_map, hn, Nat.mul_one]) hc (ints_one .i64 m)
/-- may the k-th part of a way be? -/
def partOk (e : Int) (ls : List (List Int)) (k : Nat) : Bool :=
  (decide (1 ≤ (ls.getD k []).length) && decide ((ls.getD k []).length ≤ 8) && risingB (ls.getD k []) e) && (ls.getD k []).all fun n => !decide (n ∈ (ls.take k).flatten)
def wayR (e : Int) (ls : List (List Int)) : Bool := (decide (1 ≤ ls.length) && decide (ls.length ≤ 4)) && (List.range ls.length).all (partOk e ls)
def csRight (e : Int) (x : Cs) : Bool := (nameOk x.n && decide (1 ≤ x.ws.length) && decide (x.ws.length ≤ 4)) && x.ws.all (wayR e)
theorem range_no {n i : Nat} {f : Nat → Bool} (hi : i < n) (h : f i = false) : (List.range n).all f = false := by
  rw [List.all_eq_false]
  exact ⟨i, List.mem_range.2 hi, by rw [h]; simp⟩
theorem range_yes {n : Nat} {f : Nat → Bool} (h : ∀ i, i < n → f i = true) : (List.range n).all f = true := by
  rw [List.all_eq_true]
  exact fun i hi => h i (List.mem_range.1 hi)
theorem flat_next {ls : List (List Int)} {k : Nat} {v : List Int} (h : ls[k]? = some v) : (ls.take (k + 1)).flatten = (ls.take k).flatten ++ v := by
  rw [List.take_add_one, h, List.flatten_append]
  simp
set_option maxRecDepth 20000 in
set_option maxHeartbeats 4000000 in
theorem r_RightCs (e : Int) (x : Cs) (A : Option Addr) (c : Nat) (hl : Wsok x.ws) (w : World) (h : Rows3 w w.heap.size A x.ws) :
    Calls Tryz.prog 144 #[.int .i64 e, csv x A c] w (Did (.bool (csRight e x)) w) := by
  have hm := hl.1
  unfold maxLen at hm
  have HN := hid (fun X => r_Name (bs x.n) X)
  rw [bs_data] at HN
  have HRi := hid (fun B k l hm X h => r_Rising B k l hm e X h)
  have HHa := hid (fun B n k l hn hm y X C h => r_Has B n k l hn hm y X C h)
  have HL := hid hl.2
  have H := hid h
  have Hr := hid (show csRight e x = ((nameOk x.n && decide (1 ≤ x.ws.length) && decide (x.ws.length ≤ 4)) && x.ws.all (wayR e)) from rfl)
  obtain ⟨i0, hi0, hz0, hz1, hz2⟩ := info_parts Tryz.info_int14
  generalize csRight e x = q at *
  generalize nameOk x.n = nn at *
  clear h hl
  obtain ⟨P, W, hP, hW, K, hb0⟩ := (Mem.nil w).one (csc x A c) 65
  have HPw := hid (show w.heap.size ≤ P from by omega)
  obtain ⟨e0, e1⟩ := K.out.cs (B := P) (x := x) (A := A) (c := c) (t := 65) (by simp)
  clear hb0
  go_enter Tryz.func144, Tryz.ntmps144
  go_wp2_with fail
  refine (HN.out _).mono ?_
  rintro e2 w1 ⟨rfl, rfl⟩
  clear hP hW
  cases nn with
  | false =>
    go_wp2_with fail
    go_ret
    exact Did.mk (by rw [Hr.out]; rfl) K.out.2
  | true =>
    by_cases c1 : 1 ≤ x.ws.length
    · have m1 : ¬ ((x.ws.length : Int) < 1) := by omega
      rw [decide_eq_true c1] at Hr
      by_cases c2 : x.ws.length ≤ 4
      · have m2 : ¬ ((x.ws.length : Int) > 4) := by omega
        rw [decide_eq_true c2] at Hr
        simp only [Bool.true_and] at Hr
        go_wp2_with fail
        clear e0 e1
        go_loopw [5] (fun i wr => ∃ (k : Nat), i = .int .i64 k ∧ k ≤ x.ws.length ∧ Hid (Mem w wr [(P, csc x A c, 65)]) ∧ Hid (∀ i, i < k → ∀ ls, x.ws[i]? = some ls → wayR e ls = true)) (fun i _ => x.ws.length - (intOf i).toNat)
        case atStart => exact ⟨0, rfl, Nat.zero_le _, K, hid (fun i hi => absurd hi (Nat.not_lt_zero i))⟩
        case round =>
          clear K
          obtain ⟨k, rfl, hk, K1, hsame⟩ := hrel
          obtain ⟨e0, e1⟩ := K1.out.cs (B := P) (x := x) (A := A) (c := c) (t := 65) (by simp)
          by_cases hlt : k < x.ws.length
          · obtain ⟨ad, Ak, ck, u, hae, hadb, hx, hxl, hcx, hrx, hckx⟩ := H.out.at_ hlt
            have hul := (HL.out u hxl).1
            have HLu := hid (HL.out u hxl).2
            unfold maxLen at hul
            have b1 : (0 : Int) ≤ (k : Int) := by omega
            have b2 : (k : Int) < x.ws.length := by omega
            rw [hae] at e1
            have hbx : (ad.add k).block < w.heap.size := by rw [add_block]; exact hadb
            have hcx1 := (K1.out.2.cell (p := ad.add k) hbx).trans hcx
            have Hbad := hid (fun (h : wayR e u = false) => all_no hx.out h)
            have Hnx := hid (fun (h : wayR e u = true) => all_next hx.out h hsame.out)
            have HR := hid hrx
            obtain ⟨D, U, hD, hU, K2, hb2⟩ := K1.out.one [.slice Ak u.length ck] 67
            have HDU := hid (show P < D ∧ D < U.heap.size from ⟨by have := (K1.out.at_ (b := P) (cs := csc x A c) (t := 65) (by simp)).lt; omega, (K2.out.at_ (b := D) (cs := [.slice Ak u.length ck]) (t := 67) (by simp)).lt⟩)
            have d0 := K2.out.cell (b := D) (cs := [.slice Ak u.length ck]) (t := 67) (by simp) (k := 0) rfl
            clear hrx hsame hckx hcx hb2 K1 hae
            by_cases g1 : 1 ≤ u.length
            · have m3 : ¬ ((u.length : Int) < 1) := by omega
              by_cases g2 : u.length ≤ 4
              · have m4 : ¬ ((u.length : Int) > 4) := by omega
                have Hw := hid (show wayR e u = (List.range u.length).all (partOk e u) by unfold wayR; rw [decide_eq_true g1, decide_eq_true g2]; rfl)
                go_wp2_with fail
                clear e0 e1 d0 hD hU hcx1
                have own0 := hid (World.ownsRow_nil U (D + 1) 3 1)
                obtain ⟨ff, hff⟩ : ∃ ff : Nat → List Int, (fun j => (u.take j).flatten) = ff := ⟨_, rfl⟩
                have Hff := hid (fun j => show (u.take j).flatten = ff j from congrFun hff j)
                have Hf0 := hid (show ff 0 = [] from by rw [← hff]; rfl)
                clear hff
                go_loopw [7, 8] (fun mv i wr => ∃ (j : Nat), i = .int .i64 j ∧ j ≤ u.length ∧ Hid (wr.ownsRow (D + 1) 3 1 mv (ff j).length ((ff j).map (Value.int .i64))) ∧ Hid (Mem w wr [(D, [.slice Ak u.length ck], 67), (P, csc x A c, 65)]) ∧ Hid (∀ i, i < j → partOk e u i = true) ∧ Hid ((ff j).length ≤ 8 * j)) (fun _ i _ => u.length - (intOf i).toNat)
                case atStart => exact ⟨0, rfl, Nat.zero_le _, by rw [Hf0.out]; exact own0, K2, hid (fun i hi => absurd hi (Nat.not_lt_zero i)), by rw [Hf0.out]; exact hid (Nat.zero_le _)⟩
                case round =>
                  clear own0 K2
                  obtain ⟨j, rfl, hj, HO, K3, hsame, HFl⟩ := hrel
                  have d0 := K3.out.cell (b := D) (cs := [.slice Ak u.length ck]) (t := 67) (by simp) (k := 0) rfl
                  by_cases hlt2 : j < u.length
                  · obtain ⟨ae, Bk, dk, v, hbe, haeb, hy, hyl, hcy, hry, hdky⟩ := HR.out.get hlt2
                    have hvl := (HLu.out v hyl).1
                    have b3 : (0 : Int) ≤ (j : Int) := by omega
                    have b4 : (j : Int) < u.length := by omega
                    rw [hbe] at d0
                    have hby : (ae.add j).block < w.heap.size := by rw [add_block]; exact haeb
                    have hcy1 := (K3.out.2.cell (p := ae.add j) hby).trans hcy
                    have HV := hid hry
                    have hfn := flat_next hy.out
                    rw [Hff.out, Hff.out] at hfn
                    have Hfn := hid hfn
                    clear hfn
                    have Hpk := hid (show partOk e u j = ((decide (1 ≤ v.length) && decide (v.length ≤ 8) && risingB v e) && v.all fun n => !decide (n ∈ ff j)) by unfold partOk; rw [List.getD_eq_getElem?_getD, hy.out, Hff.out]; rfl)
                    have Hbad2 := hid (fun (h : partOk e u j = false) => Hbad.out (by rw [Hw.out]; exact range_no hlt2 h))
                    have Hnx2 := hid (fun (h : partOk e u j = true) => show ∀ i, i < j + 1 → partOk e u i = true from fun i hi => by
                      rcases Nat.lt_or_ge i j with h' | h'
                      · exact hsame.out i h'
                      · obtain rfl : i = j := by omega
                        exact h)
                    have HRi1 := hid (HRi.out Bk dk v hvl)
                    have hfl := HFl.out
                    obtain ⟨fl, hfe⟩ : ∃ fl, ff j = fl := ⟨_, rfl⟩
                    rw [hfe] at HO Hpk Hfn hfl
                    unfold maxLen at hvl
                    clear hry hdky hcy hsame Hbad Hnx HFl hfe hbe
                    by_cases g3 : 1 ≤ v.length
                    · have m5 : ¬ ((v.length : Int) < 1) := by omega
                      rw [decide_eq_true g3] at Hpk
                      by_cases g4 : v.length ≤ 8
                      · have m6 : ¬ ((v.length : Int) > 8) := by omega
                        rw [decide_eq_true g4] at Hpk
                        simp only [Bool.true_and] at Hpk
                        go_wp2_with fail
                        refine (HRi1.out _ ((HV.out.below K3.out.2 (Nat.le_refl _)).more K3.out.2.size)).mono ?_
                        rintro e2 Y ⟨rfl, bz⟩
                        have K4 := hid (K3.out.next bz)
                        have HO2 := hid (own_below HO.out bz)
                        clear d0 hcy1 bz K3 HO HRi1
                        cases hR : risingB v e with
                        | false =>
                          have hb := hid (Hbad2.out (by rw [Hpk.out, hR]; rfl))
                          clear Hbad2 Hnx2 Hpk hR
                          go_wp2_with fail
                          go_ret
                          exact Did.mk (by rw [Hr.out, hb.out]; rfl) K4.out.2
                        | true =>
                          rw [hR, Bool.true_and] at Hpk
                          obtain ⟨A1, c1', rfl, hr1, hc1⟩ := own_rd HO2.out
                          have HM := hid hr1
                          have HV1 := hid (HV.out.below K4.out.2 (Nat.le_refl _))
                          clear hR hr1
                          go_wp2_with fail
                          go_loopw [10] (fun i wr => ∃ (m : Nat), i = .int .i64 m ∧ m ≤ v.length ∧ Y = wr ∧ Hid (∀ i, i < m → ∀ n, v[i]? = some n → (!decide (n ∈ fl)) = true)) (fun i _ => v.length - (intOf i).toNat)
                          case atStart => exact ⟨0, rfl, Nat.zero_le _, rfl, hid (fun i hi => absurd hi (Nat.not_lt_zero i))⟩
                          case round =>
                            obtain ⟨m, rfl, hmv, rfl, hsame⟩ := hrel
                            by_cases hlt3 : m < v.length
                            · obtain ⟨af, n, hce, _, hn, hcn⟩ := Its.get HV1.out hlt3
                              have b5 : (0 : Int) ≤ (m : Int) := by omega
                              have b6 : (m : Int) < v.length := by omega
                              have HH1 := hid (fun X (h : Its X X.heap.size A1 fl) => HHa.out A1 fl.length c1' fl rfl (by unfold maxLen; omega) n X _ h)
                              subst hce
                              go_wp2_with fail
                              refine (HH1.out _ HM.out).mono ?_
                              rintro e2 Y2 ⟨rfl, rfl⟩
                              cases hR : decide (n ∈ fl) with
                              | true =>
                                have hb := hid (Hbad2.out (by rw [Hpk.out]; exact all_no hn.out (by rw [hR]; rfl)))
                                clear Hbad2 Hnx2 Hpk hsame hR
                                go_wp2_with fail
                                go_ret
                                exact Did.mk (by rw [Hr.out, hb.out]; rfl) K4.out.2
                              | false =>
                                have hn2 := hid (all_next (f := fun n => !decide (n ∈ fl)) hn.out (by rw [hR]; rfl) hsame.out)
                                clear Hbad2 Hnx2 Hpk hsame hR
                                go_wp2_with fail
                                exact ⟨⟨m + 1, by go_num, by omega, trivial, hn2⟩, by simp [intOf]; omega⟩
                            · have b6 : ¬ (m : Int) < v.length := by omega
                              have hn2 := hid (Hnx2.out (by rw [Hpk.out]; exact all_yes (fun i hi => hsame.out i (by omega))))
                              have Hsrc := hid (src_its (P := Tryz.prog) Y Tryz.underlying43 (c := dk) (rfl : v.length = v.length) HV1.out)
                              have q1 : fl.length + v.length ≤ maxLen := by unfold maxLen; omega
                              have q2 : (fl.length + v.length) * 8 ≤ 140737488355328 := by omega
                              have hDY : D + 1 ≤ Y.heap.size := (K4.out.at_ (b := D) (cs := [.slice Ak u.length ck]) (t := 67) (by simp)).lt
                              clear Hbad2 Hnx2 Hpk hsame
                              go_wp2_with (at_builtin; refine wpList_append_srcN rfl _ _ 43 43 rfl (D + 1) 3 i0 (.int .i64 0) 1 8 Tryz.underlying43 hi0 hz0 hz1 hz2 rfl _ _ _ rfl HO2.out _ _ _ rfl Hsrc.out q1 q2 hDY ?_; intro v1 w5 hown2 hgrow)
                              have bb : Below (D + 1) Y w5 := (Below.refl (D + 1) Y).grown hgrow hDY (fun k hk => (HO2.out.lt k hk).1)
                              have K6 : Mem w w5 [(D, [.slice Ak u.length ck], 67), (P, csc x A c, 65)] := ⟨fun p hp => (K4.out.1 p hp).below bb (by
                                have := HDU.out
                                simp only [List.mem_cons, List.not_mem_nil, or_false] at hp
                                rcases hp with rfl | rfl
                                · show D < D + 1; omega
                                · show P < D + 1; omega), K4.out.2.trans (bb.mono (by have := HPw.out; have := HDU.out; omega))⟩
                              refine ⟨⟨j + 1, by go_num, by omega, ?_, hid K6, hn2, ?_⟩, by simp [intOf]; omega⟩
                              · rw [Hfn.out, List.length_append, List.map_append]
                                exact hid hown2
                              · rw [Hfn.out, List.length_append]
                                exact hid (by omega)
                      · have m6 : ((v.length : Int) > 8) := by omega
                        have hb := hid (Hbad2.out (by rw [Hpk.out, decide_eq_false g4]; rfl))
                        clear Hbad2 Hnx2 Hpk
                        go_wp2_with fail
                        go_ret
                        exact Did.mk (by rw [Hr.out, hb.out]; rfl) K3.out.2
                    · have m5 : ((v.length : Int) < 1) := by omega
                      have hb := hid (Hbad2.out (by rw [Hpk.out, decide_eq_false g3]; rfl))
                      clear Hbad2 Hnx2 Hpk
                      go_wp2_with fail
                      go_ret
                      exact Did.mk (by rw [Hr.out, hb.out]; rfl) K3.out.2
                  · have b4 : ¬ (j : Int) < u.length := by omega
                    have hn := hid (Hnx.out (by rw [Hw.out]; exact range_yes (fun i hi => hsame.out i (by omega))))
                    have K5 := hid (K3.out.sub (l' := [(P, csc x A c, 65)]) (by simp))
                    clear hsame Hbad Hnx HFl
                    go_wp2_with fail
                    exact ⟨⟨k + 1, by go_num, by omega, K5, hn⟩, by simp [intOf]; omega⟩
              · have m4 : ((u.length : Int) > 4) := by omega
                have hb := hid (Hbad.out (by unfold wayR; rw [decide_eq_false g2, Bool.and_false, Bool.false_and]))
                clear Hbad Hnx
                go_wp2_with fail
                go_ret
                exact Did.mk (by rw [Hr.out, hb.out]; rfl) K2.out.2
            · have m3 : ((u.length : Int) < 1) := by omega
              have hb := hid (Hbad.out (by unfold wayR; rw [decide_eq_false g1, Bool.false_and, Bool.false_and]))
              clear Hbad Hnx
              go_wp2_with fail
              go_ret
              exact Did.mk (by rw [Hr.out, hb.out]; rfl) K2.out.2
          · have b2 : ¬ (k : Int) < x.ws.length := by omega
            have hn := hid (all_yes (fun i hi => hsame.out i (by omega)))
            clear hsame
            go_wp2_with fail
            go_ret
            exact Did.mk (by rw [Hr.out, hn.out]; rfl) K1.out.2
      · have m2 : ((x.ws.length : Int) > 4) := by omega
        rw [decide_eq_false c2] at Hr
        go_wp2_with fail
        go_ret
        exact Did.mk (by rw [Hr.out]; rfl) K.out.2
    · have m1 : ((x.ws.length : Int) < 1) := by omega
      rw [decide_eq_false c1] at Hr
      go_wp2_with fail
      go_ret
      exact Did.mk (by rw [Hr.out]; rfl) K.out.2
end Go.Proofs.YtgmgccepmalahaaGreat
