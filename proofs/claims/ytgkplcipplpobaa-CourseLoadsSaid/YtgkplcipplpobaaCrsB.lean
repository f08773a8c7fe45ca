/- The document's own answers for layer 14 (course): Has, Rows, Same; and Ints. -/
import Derived.Test.YtgkplcipplpobaaCrsA
namespace Go.Proofs.Ytgkplcipplpobaa
open Go.RowKit
open Whn (Gr Wh)

set_option maxHeartbeats 1000000 in
theorem r_Ints (A A' : Option Addr) (n n' c c' : Nat) (ls ms : List Int) (hn : ls.length = n) (hn' : ms.length = n') (w : World) (B B' : Nat) (h : Its w B A ls) (h' : Its w B' A' ms) (hm : ls.length ≤ maxLen) :
    Calls Try.prog 13 #[.slice A n c, .slice A' n' c'] w (Did (.bool (decide (ls = ms))) w) := by
  unfold maxLen at hm
  subst hn
  by_cases hlen : ls.length = n'
  · have H := hid h
    have H' := hid h'
    clear h h'
    subst hlen
    have Hn := hid hn'
    clear hn'
    go_enter Try.func13, Try.ntmps13
    go_wp2
    go_loopw [5] (fun i wr => ∃ (k m : Nat), i = .int .i64 k ∧ k ≤ ls.length ∧ wr = w.drewN m ∧ Hid (ls.take k = ms.take k)) (fun i _ => ls.length - (intOf i).toNat)
    case atStart => exact ⟨0, 0, rfl, Nat.zero_le _, rfl, rfl⟩
    case round =>
      obtain ⟨k, m, rfl, hk, rfl, hsame⟩ := hrel
      by_cases hlt : k < ls.length
      · have hlt' : k < ms.length := by rw [Hn.out]; exact hlt
        obtain ⟨ad, x, rfl, _, hx, hc⟩ := Its.get H.out hlt
        obtain ⟨ad', y, rfl, _, hy, hc'⟩ := Its.get H'.out hlt'
        have b1 : (0 : Int) ≤ (k : Int) := by omega
        have b2 : (k : Int) < ls.length := by omega
        by_cases hxy : x = y
        · have hxy' : (x != y) = false := by rw [hxy]; exact bne_self_eq_false y
          have Hxy := hid hxy
          clear hxy
          go_wp2_with fail
          go_quiet (fail)
          go_wp2_with fail
          refine ⟨⟨k + 1, _, by go_num, by omega, rfl, ?_⟩, by simp [intOf]; omega⟩
          show ls.take (k + 1) = ms.take (k + 1)
          rw [List.take_add_one, List.take_add_one, hsame.out, hx.out, hy.out, Hxy.out]
        · have hxy' : (x != y) = true := by rw [bne_iff_ne]; exact hxy
          have Hxy := hid hxy
          clear hxy
          go_wp2_with fail
          go_quiet (fail)
          go_wp2_with fail
          go_ret
          refine Did.mk (congrArg Value.bool ?_) (below_drewN (below_drewN (Below.refl _ _) _) _)
          symm
          rw [decide_eq_false_iff_not]
          intro e
          apply Hxy.out
          have e1 : ls[k]? = ms[k]? := by rw [e]
          rw [hx.out, hy.out] at e1
          injection e1
      · go_wp2_with fail
        go_ret
        refine Did.mk (congrArg Value.bool ?_) (below_drewN (Below.refl _ _) _)
        symm
        rw [decide_eq_true_iff]
        have e := hsame.out
        rwa [List.take_of_length_le (by omega), List.take_of_length_le (by rw [Hn.out]; omega)] at e
  · subst hn'
    have hne : ((ls.length : Int) != (ms.length : Int)) = true := by rw [bne_iff_ne]; omega
    have hres := hid (show decide (ls = ms) = false by rw [decide_eq_false_iff_not]; intro e; exact hlen (by rw [e]))
    go_enter Try.func13, Try.ntmps13
    go_wp2
    go_ret
    exact Did.mk (congrArg Value.bool hres.out.symm) (Below.refl _ _)
theorem takes_all {α : Type} {l m : List α} {k : Nat} (h : l.take k = m.take k) (h1 : l.length ≤ k) (h2 : l.length = m.length) : l = m := by
  rwa [List.take_of_length_le h1, List.take_of_length_le (by omega)] at h
theorem takes_ne {α : Type} {l m : List α} {k : Nat} {x y : α} (hx : l[k]? = some x) (hy : m[k]? = some y) (h : x ≠ y) : ¬ l = m := fun e => by
  rw [e, hy] at hx
  exact h (Option.some.inj hx).symm
set_option maxRecDepth 8000 in
set_option maxHeartbeats 1000000 in
theorem r_Has (A : Option Addr) (n c : Nat) (l : List Int) (hn : l.length = n) (hm : l.length ≤ maxLen) (x : Int) (w : World) (B : Nat) (h : Its w B A l) :
    Calls Try.prog 34 #[.slice A n c, .int .i64 x] w (fun e w' => e = .returned (.bool (decide (x ∈ l))) ∧ w = w') := by
  subst hn
  unfold maxLen at hm
  have H := hid h
  clear h
  go_enter Try.func34, Try.ntmps34
  go_wp2
  go_loopw [5] (fun i wr => ∃ (k : Nat), i = .int .i64 k ∧ k ≤ l.length ∧ w = wr ∧ Hid (∀ y ∈ l.take k, y ≠ x)) (fun i _ => l.length - (intOf i).toNat)
  case atStart => exact ⟨0, rfl, Nat.zero_le _, rfl, hid (fun y hy => by simp at hy)⟩
  case round =>
    obtain ⟨k, rfl, hk, rfl, hsame⟩ := hrel
    by_cases hlt : k < l.length
    · obtain ⟨ad, y, rfl, had, hx, hcy⟩ := Its.get H.out hlt
      have b1 : (0 : Int) ≤ (k : Int) := by omega
      have b2 : (k : Int) < l.length := by omega
      by_cases hxy : y = x
      · have q1 : (y == x) = true := by rw [beq_iff_eq]; exact hxy
        have Hr := hid (show decide (x ∈ l) = true from decide_eq_true (by rw [← hxy]; exact List.mem_of_getElem? hx.out))
        clear hxy
        go_wp2_with fail
        go_ret
        exact ⟨by rw [Hr.out]; rfl, rfl⟩
      · have q1 : (y == x) = false := by rw [beq_eq_false_iff_ne]; exact hxy
        have hne := hid hxy
        clear hxy
        go_wp2_with fail
        refine ⟨⟨k + 1, by go_num, by omega, trivial, ?_⟩, by simp [intOf]; omega⟩
        refine hid (fun z hz => ?_)
        rw [List.take_add_one, hx.out, List.mem_append] at hz
        rcases hz with hz | hz
        · exact hsame.out z hz
        · simp at hz
          rw [hz]; exact hne.out
    · have Hr := hid (show decide (x ∈ l) = false from decide_eq_false (fun hx => hsame.out x (by rw [List.take_of_length_le (by omega)]; exact hx) rfl))
      have b2 : ¬ (k : Int) < l.length := by omega
      go_wp2_with fail
      go_ret
      exact ⟨by rw [Hr.out]; rfl, rfl⟩
set_option maxRecDepth 20000 in
set_option maxHeartbeats 2000000 in
theorem r_Rows (A A2 : Option Addr) (c c2 : Nat) (ls ms : List (List Int)) (hl : Lsok ls) (w : World) (h : Rows2 w w.heap.size A ls) (h2 : Rows2 w w.heap.size A2 ms) :
    Calls Try.prog 19 #[.slice A ls.length c, .slice A2 ms.length c2] w (Did (.bool (decide (ls = ms))) w) := by
  have hm := hl.1
  unfold maxLen at hm
  by_cases hlen : (ls.length : Int) = (ms.length : Int)
  · have Hn := hid (show ls.length = ms.length by omega)
    have H := hid h
    have H2 := hid h2
    have HL := hid hl.2
    have hne : ((ls.length : Int) != (ms.length : Int)) = false := by rw [bne_eq_false_iff_eq]; exact hlen
    clear h h2 hl hlen
    go_enter Try.func19, Try.ntmps19
    go_wp2
    go_loopw [5] (fun i wr => ∃ (k : Nat), i = .int .i64 k ∧ k ≤ ls.length ∧ Hid (Below w.heap.size w wr) ∧ Hid (ls.take k = ms.take k)) (fun i _ => ls.length - (intOf i).toNat)
    case atStart => exact ⟨0, rfl, Nat.zero_le _, hid (Below.refl _ _), hid rfl⟩
    case round =>
      obtain ⟨k, rfl, hk, K1, hsame⟩ := hrel
      by_cases hlt : k < ls.length
      · obtain ⟨ad, Ak, ck, x, rfl, hadb, hx, hxl, hcx, hrx, hckx⟩ := H.out.get hlt
        obtain ⟨ae, Bk, dk, y, rfl, haeb, hy, _, hcy, hry, hdky⟩ := H2.out.get (k := k) (by have := Hn.out; omega)
        have b1 : (0 : Int) ≤ (k : Int) := by omega
        have b2 : (k : Int) < ls.length := by omega
        have b3 : (k : Int) < ms.length := by have := Hn.out; omega
        have hbx : (ad.add k).block < w.heap.size := by rw [add_block]; exact hadb
        have hby : (ae.add k).block < w.heap.size := by rw [add_block]; exact haeb
        have HI := hid (fun X (hX : Below w.heap.size w X) => r_Ints Ak Bk x.length y.length ck dk x y rfl rfl X _ _ (hrx.below hX (Nat.le_refl _)) (hry.below hX (Nat.le_refl _)) (HL.out x hxl).1)
        clear hrx hry hckx hdky
        go_wp2_with fail
        refine wp_region_held_drew (S := fun X => Below w.heap.size w X) (by kernel_rfl) K1.out.drew (fun hHeld => ?_)
        refine takeH 0 17 (.slice (some ad) ls.length c) rfl rfl (by kernel_rfl) (by kernel_rfl) (by kernel_rfl) (fun _ _ _ h => h) (by kernel_rfl) (fun X hX => by clear hX; first | rfl | go_simp) hHeld ?_
        simp only [Act.put, List.setIfInBounds_toArray, List.set_cons_zero, List.set_cons_succ]
        refine takeH 1 18 (.int .i64 (k : Int)) rfl rfl (by kernel_rfl) (by kernel_rfl) (by kernel_rfl) (fun _ _ _ h => h) (by kernel_rfl) (fun X hX => by clear hX; first | rfl | go_simp) hHeld ?_
        simp only [Act.put, List.setIfInBounds_toArray, List.set_cons_zero, List.set_cons_succ]
        refine takeH 2 19 (.pointer (some (ad.add k))) rfl rfl (by kernel_rfl) (by kernel_rfl) (by kernel_rfl) (fun _ _ _ h => h) (by kernel_rfl) (fun X hX => by clear hX; first | rfl | go_simp) hHeld ?_
        simp only [Act.put, List.setIfInBounds_toArray, List.set_cons_zero, List.set_cons_succ]
        refine takeH 3 20 (.slice Ak x.length ck) rfl rfl (by kernel_rfl) (by kernel_rfl) (by kernel_rfl) (fun _ _ _ h => h) (by kernel_rfl) (fun X hX => by have q := (hX.cell (p := ad.add k) hbx).trans hcx; clear hX; go_simp) hHeld ?_
        simp only [Act.put, List.setIfInBounds_toArray, List.set_cons_zero, List.set_cons_succ]
        refine takeH 4 21 (.slice (some ae) ms.length c2) rfl rfl (by kernel_rfl) (by kernel_rfl) (by kernel_rfl) (fun _ _ _ h => h) (by kernel_rfl) (fun X hX => by clear hX; first | rfl | go_simp) hHeld ?_
        simp only [Act.put, List.setIfInBounds_toArray, List.set_cons_zero, List.set_cons_succ]
        refine takeH 5 22 (.int .i64 (k : Int)) rfl rfl (by kernel_rfl) (by kernel_rfl) (by kernel_rfl) (fun _ _ _ h => h) (by kernel_rfl) (fun X hX => by clear hX; first | rfl | go_simp) hHeld ?_
        simp only [Act.put, List.setIfInBounds_toArray, List.set_cons_zero, List.set_cons_succ]
        refine takeH 6 23 (.pointer (some (ae.add k))) rfl rfl (by kernel_rfl) (by kernel_rfl) (by kernel_rfl) (fun _ _ _ h => h) (by kernel_rfl) (fun X hX => by clear hX; first | rfl | go_simp) hHeld ?_
        simp only [Act.put, List.setIfInBounds_toArray, List.set_cons_zero, List.set_cons_succ]
        refine takeH 7 24 (.slice Bk y.length dk) rfl rfl (by kernel_rfl) (by kernel_rfl) (by kernel_rfl) (fun _ _ _ h => h) (by kernel_rfl) (fun X hX => by have q := (hX.cell (p := ae.add k) hby).trans hcy; clear hX; go_simp) hHeld ?_
        simp only [Act.put, List.setIfInBounds_toArray, List.set_cons_zero, List.set_cons_succ]
        refine wpAnyH_ready (rs := [8]) (by kernel_rfl) (by simp) ?_
        refine AllReadyH.cons rfl (fun KK hK => ?_) AllReadyH.nil
        simp only [List.getElem_toArray, List.getElem_cons_succ, List.getElem_cons_zero]
        go_simp
        refine (HI.out _ K1.out.drew).mono ?_
        rintro e Y ⟨rfl, bz⟩
        have K2 := hid (K1.out.drew.trans (bz.mono K1.out.drew.size))
        refine hK.out _ _ K2.out (fun hHeld => ?_)
        clear hK KK
        try simp only [Act.put, List.setIfInBounds_toArray, List.set_cons_zero, List.set_cons_succ]
        refine takeH 9 26 (.bool (!decide (x = y))) rfl rfl (by kernel_rfl) (by kernel_rfl) (by kernel_rfl) (fun _ _ _ h => h) (by kernel_rfl) (fun X hX => by clear hX; go_simp) hHeld ?_
        simp only [Act.put, List.setIfInBounds_toArray, List.set_cons_zero, List.set_cons_succ]
        refine wpAnyH_done (by kernel_rfl) ?_ _
        clear hHeld HI bz
        cases hR : decide (x = y) with
        | true =>
          have hn := hid (show ls.take (k + 1) = ms.take (k + 1) by rw [List.take_add_one, List.take_add_one, hsame.out, hx.out, hy.out, of_decide_eq_true hR])
          go_wp2_with fail
          exact ⟨⟨k + 1, by go_num, by omega, K2, hn⟩, by simp [intOf]; omega⟩
        | false =>
          have hres := hid (decide_eq_false (takes_ne hx.out hy.out (of_decide_eq_false hR)))
          go_wp2_with fail
          go_ret
          exact Did.mk (by rw [hres.out]; rfl) K2.out
      · have hall := hid (decide_eq_true (takes_all hsame.out (by omega) Hn.out))
        have b2 : ¬ (k : Int) < ls.length := by omega
        go_wp2_with fail
        go_ret
        exact Did.mk (by rw [hall.out]; rfl) K1.out
  · have hne : ((ls.length : Int) != (ms.length : Int)) = true := by rw [bne_iff_ne]; exact hlen
    have hres := hid (show decide (ls = ms) = false by rw [decide_eq_false_iff_not]; intro e; exact hlen (by rw [e]))
    clear hlen h h2
    go_enter Try.func19, Try.ntmps19
    go_wp2
    go_ret
    exact Did.mk (by rw [hres.out]; rfl) (Below.refl _ _)
def csEq (x y : Cs) : Bool := decide (x.n = y.n) && decide (x.ws = y.ws)
theorem csEq_iff (x y : Cs) : csEq x y = true ↔ x = y := by
  unfold csEq
  rw [Bool.and_eq_true, decide_eq_true_iff, decide_eq_true_iff]
  constructor
  · rintro ⟨h1, h2⟩
    cases x; cases y
    simp only at h1 h2
    subst h1; subst h2
    rfl
  · rintro rfl; exact ⟨rfl, rfl⟩
set_option maxRecDepth 20000 in
set_option maxHeartbeats 4000000 in
theorem r_SameCs (x y : Cs) (A A2 : Option Addr) (c c2 : Nat) (hl : Wsok x.ws) (w : World) (h : Rows3 w w.heap.size A x.ws) (h2 : Rows3 w w.heap.size A2 y.ws) :
    Calls Try.prog 27 #[csv x A c, csv y A2 c2] w (Did (.bool (csEq x y)) w) := by
  have hm := hl.1
  unfold maxLen at hm
  have Hr := hid (show csEq x y = (decide (x.n = y.n) && decide (x.ws = y.ws)) from rfl)
  generalize csEq x y = q at *
  obtain ⟨P, W, hP, hW, K, hb0⟩ := (Mem.nil w).one (csc x A c) 24
  obtain ⟨R, V, hR, hV, K1, hb1⟩ := K.out.one (csc y A2 c2) 24
  clear K hb0 hb1
  obtain ⟨e0, e1⟩ := K1.out.cs (B := P) (x := x) (A := A) (c := c) (t := 24) (by simp)
  obtain ⟨f0, f1⟩ := K1.out.cs (B := R) (x := y) (A := A2) (c := c2) (t := 24) (by simp)
  by_cases c1 : x.n = y.n
  · have q1 : ((bs x.n).toList == (bs y.n).toList) = true := by rw [list_of, list_of, bs_data, bs_data, beq_iff_eq]; exact c1
    rw [decide_eq_true c1, Bool.true_and] at Hr
    clear c1
    by_cases hlen : (x.ws.length : Int) = (y.ws.length : Int)
    · have Hn := hid (show x.ws.length = y.ws.length by omega)
      have H := hid h
      have H2 := hid h2
      have HL := hid hl.2
      have hne : ((x.ws.length : Int) != (y.ws.length : Int)) = false := by rw [bne_eq_false_iff_eq]; exact hlen
      clear h h2 hl hlen
      go_enter Try.func27, Try.ntmps27
      go_wp2
      clear e0 e1 f0 f1
      go_loopw [5] (fun i wr => ∃ (k : Nat), i = .int .i64 k ∧ k ≤ x.ws.length ∧ Hid (Mem w wr [(R, csc y A2 c2, 24), (P, csc x A c, 24)]) ∧ Hid (x.ws.take k = y.ws.take k)) (fun i _ => x.ws.length - (intOf i).toNat)
      case atStart => exact ⟨0, rfl, Nat.zero_le _, K1, hid rfl⟩
      case round =>
        clear K1
        obtain ⟨k, rfl, hk, K1, hsame⟩ := hrel
        obtain ⟨e0, e1⟩ := K1.out.cs (B := P) (x := x) (A := A) (c := c) (t := 24) (by simp)
        by_cases hlt : k < x.ws.length
        · obtain ⟨ad, Ak, ck, u, rfl, hadb, hx, hxl, hcx, hrx, hckx⟩ := H.out.at_ hlt
          obtain ⟨ae, Bk, dk, v, rfl, haeb, hy, _, hcy, hry, hdky⟩ := H2.out.at_ (k := k) (by have := Hn.out; omega)
          have b1 : (0 : Int) ≤ (k : Int) := by omega
          have b2 : (k : Int) < x.ws.length := by omega
          have b3 : (k : Int) < y.ws.length := by have := Hn.out; omega
          have hbx : (ad.add k).block < w.heap.size := by rw [add_block]; exact hadb
          have hby : (ae.add k).block < w.heap.size := by rw [add_block]; exact haeb
          have HI := hid (fun X (hX : Below w.heap.size w X) => r_Rows Ak Bk ck dk u v (HL.out u hxl) X ((hrx.below hX (Nat.le_refl _)).more hX.size) ((hry.below hX (Nat.le_refl _)).more hX.size))
          clear hrx hry hckx hdky
          go_wp2_with fail
          clear e0 e1
          refine wp_region_held_drew (S := fun X => Mem w X [(R, csc y (some ae) c2, 24), (P, csc x (some ad) c, 24)]) (by kernel_rfl) K1.out.drew (fun hHeld => ?_)
          refine takeH 0 27 (.pointer (some ⟨P, 1, none⟩)) rfl rfl (by kernel_rfl) (by kernel_rfl) (by kernel_rfl) (fun _ _ _ h => h) (by kernel_rfl) (fun X hX => by clear hX; first | rfl | go_simp) hHeld ?_
          simp only [Act.put, List.setIfInBounds_toArray, List.set_cons_zero, List.set_cons_succ]
          refine takeH 1 28 (.slice (some ad) x.ws.length c) rfl rfl (by kernel_rfl) (by kernel_rfl) (by kernel_rfl) (fun _ _ _ h => h) (by kernel_rfl) (fun X hX => by obtain ⟨q0, q1⟩ := hX.cs (B := P) (x := x) (A := some ad) (c := c) (t := 24) (by simp); clear hX; go_simp) hHeld ?_
          simp only [Act.put, List.setIfInBounds_toArray, List.set_cons_zero, List.set_cons_succ]
          refine takeH 2 29 (.int .i64 (k : Int)) rfl rfl (by kernel_rfl) (by kernel_rfl) (by kernel_rfl) (fun _ _ _ h => h) (by kernel_rfl) (fun X hX => by clear hX; first | rfl | go_simp) hHeld ?_
          simp only [Act.put, List.setIfInBounds_toArray, List.set_cons_zero, List.set_cons_succ]
          refine takeH 3 30 (.pointer (some (ad.add k))) rfl rfl (by kernel_rfl) (by kernel_rfl) (by kernel_rfl) (fun _ _ _ h => h) (by kernel_rfl) (fun X hX => by clear hX; first | rfl | go_simp) hHeld ?_
          simp only [Act.put, List.setIfInBounds_toArray, List.set_cons_zero, List.set_cons_succ]
          refine takeH 4 31 (.pointer (some (ad.add k))) rfl rfl (by kernel_rfl) (by kernel_rfl) (by kernel_rfl) (fun _ _ _ h => h) (by kernel_rfl) (fun X hX => by clear hX; first | rfl | go_simp) hHeld ?_
          simp only [Act.put, List.setIfInBounds_toArray, List.set_cons_zero, List.set_cons_succ]
          refine takeH 5 32 (.slice Ak u.length ck) rfl rfl (by kernel_rfl) (by kernel_rfl) (by kernel_rfl) (fun _ _ _ h => h) (by kernel_rfl) (fun X hX => by have q := (hX.2.cell (p := ad.add k) hbx).trans hcx; clear hX; go_simp) hHeld ?_
          simp only [Act.put, List.setIfInBounds_toArray, List.set_cons_zero, List.set_cons_succ]
          refine takeH 6 33 (.pointer (some ⟨R, 1, none⟩)) rfl rfl (by kernel_rfl) (by kernel_rfl) (by kernel_rfl) (fun _ _ _ h => h) (by kernel_rfl) (fun X hX => by clear hX; first | rfl | go_simp) hHeld ?_
          simp only [Act.put, List.setIfInBounds_toArray, List.set_cons_zero, List.set_cons_succ]
          refine takeH 7 34 (.slice (some ae) y.ws.length c2) rfl rfl (by kernel_rfl) (by kernel_rfl) (by kernel_rfl) (fun _ _ _ h => h) (by kernel_rfl) (fun X hX => by obtain ⟨q0, q1⟩ := hX.cs (B := R) (x := y) (A := some ae) (c := c2) (t := 24) (by simp); clear hX; go_simp) hHeld ?_
          simp only [Act.put, List.setIfInBounds_toArray, List.set_cons_zero, List.set_cons_succ]
          refine takeH 8 35 (.int .i64 (k : Int)) rfl rfl (by kernel_rfl) (by kernel_rfl) (by kernel_rfl) (fun _ _ _ h => h) (by kernel_rfl) (fun X hX => by clear hX; first | rfl | go_simp) hHeld ?_
          simp only [Act.put, List.setIfInBounds_toArray, List.set_cons_zero, List.set_cons_succ]
          refine takeH 9 36 (.pointer (some (ae.add k))) rfl rfl (by kernel_rfl) (by kernel_rfl) (by kernel_rfl) (fun _ _ _ h => h) (by kernel_rfl) (fun X hX => by clear hX; first | rfl | go_simp) hHeld ?_
          simp only [Act.put, List.setIfInBounds_toArray, List.set_cons_zero, List.set_cons_succ]
          refine takeH 10 37 (.pointer (some (ae.add k))) rfl rfl (by kernel_rfl) (by kernel_rfl) (by kernel_rfl) (fun _ _ _ h => h) (by kernel_rfl) (fun X hX => by clear hX; first | rfl | go_simp) hHeld ?_
          simp only [Act.put, List.setIfInBounds_toArray, List.set_cons_zero, List.set_cons_succ]
          refine takeH 11 38 (.slice Bk v.length dk) rfl rfl (by kernel_rfl) (by kernel_rfl) (by kernel_rfl) (fun _ _ _ h => h) (by kernel_rfl) (fun X hX => by have q := (hX.2.cell (p := ae.add k) hby).trans hcy; clear hX; go_simp) hHeld ?_
          simp only [Act.put, List.setIfInBounds_toArray, List.set_cons_zero, List.set_cons_succ]
          refine wpAnyH_ready (rs := [12]) (by kernel_rfl) (by simp) ?_
          refine AllReadyH.cons rfl (fun KK hK => ?_) AllReadyH.nil
          simp only [List.getElem_toArray, List.getElem_cons_succ, List.getElem_cons_zero]
          go_simp
          refine (HI.out _ K1.out.drew.2).mono ?_
          rintro e Y ⟨rfl, bz⟩
          have K2 := hid (K1.out.drew.next bz)
          refine hK.out _ _ K2.out (fun hHeld => ?_)
          clear hK KK
          try simp only [Act.put, List.setIfInBounds_toArray, List.set_cons_zero, List.set_cons_succ]
          refine takeH 13 40 (.bool (!decide (u = v))) rfl rfl (by kernel_rfl) (by kernel_rfl) (by kernel_rfl) (fun _ _ _ h => h) (by kernel_rfl) (fun X hX => by clear hX; go_simp) hHeld ?_
          simp only [Act.put, List.setIfInBounds_toArray, List.set_cons_zero, List.set_cons_succ]
          refine wpAnyH_done (by kernel_rfl) ?_ _
          clear hHeld HI bz K1
          cases hR : decide (u = v) with
          | true =>
            have hn := hid (show x.ws.take (k + 1) = y.ws.take (k + 1) by rw [List.take_add_one, List.take_add_one, hsame.out, hx.out, hy.out, of_decide_eq_true hR])
            go_wp2_with fail
            exact ⟨⟨k + 1, by go_num, by omega, K2, hn⟩, by simp [intOf]; omega⟩
          | false =>
            have hres := hid (decide_eq_false (takes_ne hx.out hy.out (of_decide_eq_false hR)))
            go_wp2_with fail
            go_ret
            exact Did.mk (by rw [Hr.out, hres.out]; rfl) K2.out.2
        · have hall := hid (decide_eq_true (takes_all hsame.out (by omega) Hn.out))
          have b2 : ¬ (k : Int) < x.ws.length := by omega
          go_wp2_with fail
          go_ret
          exact Did.mk (by rw [Hr.out, hall.out]; rfl) K1.out.2
    · have hne : ((x.ws.length : Int) != (y.ws.length : Int)) = true := by rw [bne_iff_ne]; exact hlen
      have hres := hid (show decide (x.ws = y.ws) = false by rw [decide_eq_false_iff_not]; intro e; exact hlen (by rw [e]))
      clear hlen h h2
      go_enter Try.func27, Try.ntmps27
      go_wp2
      go_ret
      exact Did.mk (by rw [Hr.out, hres.out]; rfl) K1.out.2
  · have q1 : ((bs x.n).toList == (bs y.n).toList) = false := by rw [list_of, list_of, bs_data, bs_data, beq_eq_false_iff_ne]; exact c1
    rw [decide_eq_false c1, Bool.false_and] at Hr
    clear c1 h h2
    go_enter Try.func27, Try.ntmps27
    go_wp2
    go_ret
    exact Did.mk (by rw [Hr.out]; rfl) K1.out.2
end Go.Proofs.Ytgkplcipplpobaa
