/- Contracts of the program's own cheapest (over times, over places) and together (layer 13, class). -/
import Derived.Test.YtcnpfchopjopeaaClsQ
import Derived.Test.YtcnpfchopjopeaaClsL
namespace Go.Proofs.Ytcnpfchopjopeaa
open Go.RowKit
open Whn (Gr Wh)

/-- the place of the first of the least ones among the first k; -1, if there is none -/
def amin {α : Type} (f : α → Int) (l : List α) : Nat → Int
  | 0 => -1
  | k + 1 => match l[k]? with
    | none => amin f l k
    | some y => if amin f l k = -1 then (k : Int) else match l[(amin f l k).toNat]? with
      | some z => if f y < f z then (k : Int) else amin f l k
      | none => amin f l k
section
variable {α : Type} {f : α → Int} {l : List α}
theorem amin_one {k : Nat} {y : α} (hy : l[k]? = some y) (h : amin f l k = -1) : amin f l (k + 1) = (k : Int) := by
  rw [amin, hy]
  simp only [h, if_true]
theorem amin_two {k m : Nat} {y z : α} (hy : l[k]? = some y) (h : amin f l k = (m : Int)) (hz : l[m]? = some z) : amin f l (k + 1) = if f y < f z then (k : Int) else (m : Int) := by
  rw [amin, hy]
  simp only [h]
  rw [if_neg (by omega), Int.toNat_natCast, hz]
theorem amin_inv : ∀ k, k ≤ l.length → (k = 0 ∧ amin f l k = -1) ∨ ∃ (m : Nat) (z : α), m < k ∧ amin f l k = (m : Int) ∧ l[m]? = some z ∧ (∀ (i : Nat) (y : α), i < k → l[i]? = some y → f z ≤ f y) ∧ ∀ (i : Nat) (y : α), i < m → l[i]? = some y → f z < f y
  | 0, _ => .inl ⟨rfl, rfl⟩
  | k + 1, h => by
    have e : l[k]? = some l[k] := List.getElem?_eq_getElem (by omega)
    refine .inr ?_
    rcases amin_inv k (by omega) with ⟨rfl, h0⟩ | ⟨m, z, hm, h1, h2, h3, h4⟩
    · refine ⟨0, _, by omega, amin_one e h0, e, fun i y hi hy => ?_, fun i y hi => absurd hi (Nat.not_lt_zero i)⟩
      obtain rfl : i = 0 := by omega
      rw [e] at hy
      rw [Option.some.inj hy]
      exact Int.le_refl _
    · rw [amin_two e h1 h2]
      by_cases hb : f l[k] < f z
      · rw [if_pos hb]
        refine ⟨k, _, by omega, rfl, e, fun i y hi hy => ?_, fun i y hi hy => ?_⟩
        · rcases Nat.lt_or_ge i k with h' | h'
          · have := h3 i y h' hy; omega
          · obtain rfl : i = k := by omega
            rw [e] at hy
            rw [Option.some.inj hy]
            exact Int.le_refl _
        · have := h3 i y hi hy; omega
      · rw [if_neg hb]
        refine ⟨m, z, by omega, rfl, h2, fun i y hi hy => ?_, h4⟩
        rcases Nat.lt_or_ge i k with h' | h'
        · exact h3 i y h' hy
        · obtain rfl : i = k := by omega
          rw [e] at hy
          rw [← Option.some.inj hy]
          omega
theorem amin_bnd (k : Nat) (hk : k ≤ l.length) : amin f l k = -1 ∨ ∃ m : Nat, amin f l k = (m : Int) ∧ m < k := by
  rcases amin_inv (f := f) k hk with ⟨_, h⟩ | ⟨m, _, hm, h, _⟩
  · exact .inl h
  · exact .inr ⟨m, h, hm⟩
end
set_option maxRecDepth 8000 in
theorem p_fcT (y : Tm) (w : World) : Calls Try.prog 40 #[tmv y] w (Did (.int .i64 y.c) w) := by
  obtain ⟨D, V, hD, hV, K, z0⟩ := (Mem.nil w).one (enT y) 58
  have c1 : V.cell? ⟨D, 4, none⟩ = some (.int .i64 y.c) := K.out.cell (b := D) (cs := enT y) (t := 58) (by simp) rfl
  go_enter Try.func40, Try.ntmps40
  go_wp2_with fail
  go_ret
  exact Did.mk rfl K.out.2
set_option maxRecDepth 20000 in
set_option maxHeartbeats 4000000 in
theorem p_cheapT (A : Option Addr) (c : Nat) (l : List Tm) (hm : l.length ≤ maxLen) (w : World) (h : Es enT w w.heap.size A l) :
    Calls Try.prog 39 #[.slice A l.length c, .func (.func 40) #[] #[]] w (Did (.int .i64 (amin Tm.c l l.length)) w) := by
  unfold maxLen at hm
  have HF := hid (fun y X => p_fcT y X)
  have H := hid h
  have Hb := hid (fun k hk => amin_bnd (f := Tm.c) (l := l) k hk)
  have H1 := hid (fun k y hy h => amin_one (f := Tm.c) (l := l) (k := k) (y := y) hy h)
  have H2 := hid (fun k m y z hy h hz => amin_two (f := Tm.c) (l := l) (k := k) (m := m) (y := y) (z := z) hy h hz)
  have H0 := hid (show amin Tm.c l 0 = -1 from rfl)
  generalize amin Tm.c l = am at *
  clear h
  go_enter Try.func39, Try.ntmps39
  go_wp2_with fail
  go_loopw [5, 10] (fun bv i wr => ∃ (k : Nat), i = .int .i64 k ∧ bv = .int .i64 (am k) ∧ k ≤ l.length ∧ Hid (Mem w wr [])) (fun _ i _ => l.length - (intOf i).toNat)
  case atStart => exact ⟨0, rfl, by rw [H0.out], Nat.zero_le _, hid (Mem.nil w)⟩
  case round =>
    obtain ⟨k, rfl, rfl, hk, KB⟩ := hrel
    have Hbk := Hb.out k hk
    by_cases hlt : k < l.length
    · obtain ⟨ad, y, rfl, hadb, hy, _, hcell⟩ := Es.get enT_len (by decide) H.out hlt
      have hbc : (ad.add (k * 5)).block < w.heap.size := by rw [add_block]; exact hadb
      have d0 := (KB.out.2.cell (p := ad.add (k * 5)) hbc).trans (show w.cell? (ad.add (k * 5)) = some (.int .u32 (y.w.w : Int)) by have := hcell 0 _ rfl; rwa [Nat.add_zero] at this)
      have d1 := (KB.out.2.cell (p := ⟨(ad.add (k * 5)).block, (ad.add (k * 5)).off + 1, none⟩) hbc).trans (show w.cell? ⟨(ad.add (k * 5)).block, (ad.add (k * 5)).off + 1, none⟩ = some (.int .u8 (y.w.d : Int)) by have := hcell 1 _ rfl; rwa [add_add _ _ _ (by omega)] at this)
      have d2 := (KB.out.2.cell (p := ⟨(ad.add (k * 5)).block, (ad.add (k * 5)).off + 2, none⟩) hbc).trans (show w.cell? ⟨(ad.add (k * 5)).block, (ad.add (k * 5)).off + 2, none⟩ = some (.int .i64 y.w.s) by have := hcell 2 _ rfl; rwa [add_add _ _ _ (by omega)] at this)
      have d3 := (KB.out.2.cell (p := ⟨(ad.add (k * 5)).block, (ad.add (k * 5)).off + 3, none⟩) hbc).trans (show w.cell? ⟨(ad.add (k * 5)).block, (ad.add (k * 5)).off + 3, none⟩ = some (.int .i64 y.w.l) by have := hcell 3 _ rfl; rwa [add_add _ _ _ (by omega)] at this)
      have d4 := (KB.out.2.cell (p := ⟨(ad.add (k * 5)).block, (ad.add (k * 5)).off + 4, none⟩) hbc).trans (show w.cell? ⟨(ad.add (k * 5)).block, (ad.add (k * 5)).off + 4, none⟩ = some (.int .i64 y.c) by have := hcell 4 _ rfl; rwa [add_add _ _ _ (by omega)] at this)
      have b1 : (0 : Int) ≤ (k : Int) := by omega
      have b2 : (k : Int) < l.length := by omega
      obtain ⟨D, U, hD, hU, K2, hb2⟩ := KB.out.one (enT y) 58
      have H11 := hid (fun h => H1.out k y hy.out h)
      have H21 := hid (fun m z h hz => H2.out k m y z hy.out h hz)
      clear KB hb2 hcell Hb H1 H2 H0
      obtain ⟨b, hb⟩ : ∃ b, am k = b := ⟨_, rfl⟩
      rw [hb] at Hbk H11 H21 ⊢
      clear hb
      by_cases c1 : b = -1
      · subst c1
        have Hn := hid (H11.out rfl)
        clear Hbk H11 H21
        go_wp2_with fail
        refine wp_region_held_drew (S := fun X => Mem w X [(D, enT y, 58)]) (by kernel_rfl) K2.out.drew (fun hHeld => ?_)
        refine takeH 0 15 (.int .i64 (-1)) rfl rfl (by kernel_rfl) (by kernel_rfl) (by kernel_rfl) (fun _ _ _ h => h) (by kernel_rfl) (fun X hX => by clear hX; first | rfl | go_simp) hHeld ?_
        simp only [Act.put, List.setIfInBounds_toArray, List.set_cons_zero, List.set_cons_succ]
        refine takeH 1 16 (.bool true) rfl rfl (by kernel_rfl) (by kernel_rfl) (by kernel_rfl) (fun _ _ _ h => h) (by kernel_rfl) (fun X hX => by clear hX; first | rfl | go_simp) hHeld ?_
        simp only [Act.put, List.setIfInBounds_toArray, List.set_cons_zero, List.set_cons_succ]
        refine takeH 2 17 (.bool true) rfl rfl (by kernel_rfl) (by kernel_rfl) (by kernel_rfl) (fun _ _ _ h => h) (by kernel_rfl) (fun X hX => by clear hX; first | rfl | go_simp) hHeld ?_
        simp only [Act.put, List.setIfInBounds_toArray, List.set_cons_zero, List.set_cons_succ]
        refine skipH 3 18 rfl rfl (by kernel_rfl) (by kernel_rfl) (by kernel_rfl) (fun _ _ _ h => h) (by kernel_rfl) hHeld ?_
        simp only [Act.put, List.setIfInBounds_toArray, List.set_cons_zero, List.set_cons_succ]
        refine skipH 4 19 rfl rfl (by kernel_rfl) (by kernel_rfl) (by kernel_rfl) (fun _ _ _ h => h) (by kernel_rfl) hHeld ?_
        simp only [Act.put, List.setIfInBounds_toArray, List.set_cons_zero, List.set_cons_succ]
        refine skipH 5 20 rfl rfl (by kernel_rfl) (by kernel_rfl) (by kernel_rfl) (fun _ _ _ h => h) (by kernel_rfl) hHeld ?_
        simp only [Act.put, List.setIfInBounds_toArray, List.set_cons_zero, List.set_cons_succ]
        refine skipH 6 21 rfl rfl (by kernel_rfl) (by kernel_rfl) (by kernel_rfl) (fun _ _ _ h => h) (by kernel_rfl) hHeld ?_
        simp only [Act.put, List.setIfInBounds_toArray, List.set_cons_zero, List.set_cons_succ]
        refine skipH 7 22 rfl rfl (by kernel_rfl) (by kernel_rfl) (by kernel_rfl) (fun _ _ _ h => h) (by kernel_rfl) hHeld ?_
        simp only [Act.put, List.setIfInBounds_toArray, List.set_cons_zero, List.set_cons_succ]
        refine skipH 8 23 rfl rfl (by kernel_rfl) (by kernel_rfl) (by kernel_rfl) (fun _ _ _ h => h) (by kernel_rfl) hHeld ?_
        simp only [Act.put, List.setIfInBounds_toArray, List.set_cons_zero, List.set_cons_succ]
        refine skipH 9 24 rfl rfl (by kernel_rfl) (by kernel_rfl) (by kernel_rfl) (fun _ _ _ h => h) (by kernel_rfl) hHeld ?_
        simp only [Act.put, List.setIfInBounds_toArray, List.set_cons_zero, List.set_cons_succ]
        refine skipH 10 25 rfl rfl (by kernel_rfl) (by kernel_rfl) (by kernel_rfl) (fun _ _ _ h => h) (by kernel_rfl) hHeld ?_
        simp only [Act.put, List.setIfInBounds_toArray, List.set_cons_zero, List.set_cons_succ]
        refine skipH 11 26 rfl rfl (by kernel_rfl) (by kernel_rfl) (by kernel_rfl) (fun _ _ _ h => h) (by kernel_rfl) hHeld ?_
        simp only [Act.put, List.setIfInBounds_toArray, List.set_cons_zero, List.set_cons_succ]
        refine skipH 12 27 rfl rfl (by kernel_rfl) (by kernel_rfl) (by kernel_rfl) (fun _ _ _ h => h) (by kernel_rfl) hHeld ?_
        simp only [Act.put, List.setIfInBounds_toArray, List.set_cons_zero, List.set_cons_succ]
        refine takeH 13 28 (.bool true) rfl rfl (by kernel_rfl) (by kernel_rfl) (by kernel_rfl) (fun _ _ _ h => h) (by kernel_rfl) (fun X hX => by clear hX; first | rfl | go_simp) hHeld ?_
        simp only [Act.put, List.setIfInBounds_toArray, List.set_cons_zero, List.set_cons_succ]
        refine wpAnyH_done (by kernel_rfl) ?_ _
        have K3 := hid (K2.out.drew.sub (l' := []) (by intro p hp; cases hp))
        clear hHeld K2
        go_wp2_with fail
        exact ⟨⟨k + 1, by go_num, by rw [Hn.out], by omega, K3⟩, by simp [intOf]; omega⟩
      · obtain ⟨m, rfl, hmk⟩ : ∃ m : Nat, b = (m : Int) ∧ m < k := Hbk.resolve_left c1
        obtain ⟨ae, z, hae, haeb, hz, _, hdell⟩ := Es.get enT_len (by decide) H.out (show m < l.length by omega)
        injection hae with hae
        subst hae
        have hbd : (ad.add (m * 5)).block < w.heap.size := by rw [add_block]; exact hadb
        have e0 : w.cell? (ad.add (m * 5)) = some (.int .u32 (z.w.w : Int)) := by have := hdell 0 _ rfl; rwa [Nat.add_zero] at this
        have e1 : w.cell? ⟨(ad.add (m * 5)).block, (ad.add (m * 5)).off + 1, none⟩ = some (.int .u8 (z.w.d : Int)) := by have := hdell 1 _ rfl; rwa [add_add _ _ _ (by omega)] at this
        have e2 : w.cell? ⟨(ad.add (m * 5)).block, (ad.add (m * 5)).off + 2, none⟩ = some (.int .i64 z.w.s) := by have := hdell 2 _ rfl; rwa [add_add _ _ _ (by omega)] at this
        have e3 : w.cell? ⟨(ad.add (m * 5)).block, (ad.add (m * 5)).off + 3, none⟩ = some (.int .i64 z.w.l) := by have := hdell 3 _ rfl; rwa [add_add _ _ _ (by omega)] at this
        have e4 : w.cell? ⟨(ad.add (m * 5)).block, (ad.add (m * 5)).off + 4, none⟩ = some (.int .i64 z.c) := by have := hdell 4 _ rfl; rwa [add_add _ _ _ (by omega)] at this
        have Hn := hid (H21.out m z rfl hz.out)
        have b3 : (0 : Int) ≤ (m : Int) := by omega
        have b4 : (m : Int) < l.length := by omega
        have q1 : ((m : Int) == -1) = false := by rw [beq_eq_false_iff_ne]; omega
        clear Hbk H11 H21 hdell c1
        go_wp2_with fail
        refine wp_region_held_drew (S := fun X => Mem w X [(D, enT y, 58)]) (by kernel_rfl) K2.out.drew (fun hHeld => ?_)
        refine takeH 0 15 (.int .i64 (m : Int)) rfl rfl (by kernel_rfl) (by kernel_rfl) (by kernel_rfl) (fun _ _ _ h => h) (by kernel_rfl) (fun X hX => by clear hX; first | rfl | go_simp) hHeld ?_
        simp only [Act.put, List.setIfInBounds_toArray, List.set_cons_zero, List.set_cons_succ]
        refine takeH 1 16 (.bool false) rfl rfl (by kernel_rfl) (by kernel_rfl) (by kernel_rfl) (fun _ _ _ h => h) (by kernel_rfl) (fun X hX => by clear hX; go_simp) hHeld ?_
        simp only [Act.put, List.setIfInBounds_toArray, List.set_cons_zero, List.set_cons_succ]
        refine takeH 2 17 (.bool false) rfl rfl (by kernel_rfl) (by kernel_rfl) (by kernel_rfl) (fun _ _ _ h => h) (by kernel_rfl) (fun X hX => by clear hX; first | rfl | go_simp) hHeld ?_
        simp only [Act.put, List.setIfInBounds_toArray, List.set_cons_zero, List.set_cons_succ]
        refine takeH 3 18 (.func (.func 40) #[] #[]) rfl rfl (by kernel_rfl) (by kernel_rfl) (by kernel_rfl) (fun _ _ _ h => h) (by kernel_rfl) (fun X hX => by clear hX; first | rfl | go_simp) hHeld ?_
        simp only [Act.put, List.setIfInBounds_toArray, List.set_cons_zero, List.set_cons_succ]
        refine takeH 4 19 (tmv y) rfl rfl (by kernel_rfl) (by kernel_rfl) (by kernel_rfl) (fun _ _ _ h => h) (by kernel_rfl) (fun X hX => by obtain ⟨x0, x1, x2, x3, x4⟩ := hX.l5 (B := D) (t := 58) (x0 := .int .u32 (y.w.w : Int)) (x1 := .int .u8 (y.w.d : Int)) (x2 := .int .i64 y.w.s) (x3 := .int .i64 y.w.l) (x4 := .int .i64 y.c) (by simp); clear hX; go_simp) hHeld ?_
        simp only [Act.put, List.setIfInBounds_toArray, List.set_cons_zero, List.set_cons_succ]
        refine takeH 6 21 (.func (.func 40) #[] #[]) rfl rfl (by kernel_rfl) (by kernel_rfl) (by kernel_rfl) (fun _ _ _ h => h) (by kernel_rfl) (fun X hX => by clear hX; first | rfl | go_simp) hHeld ?_
        simp only [Act.put, List.setIfInBounds_toArray, List.set_cons_zero, List.set_cons_succ]
        refine takeH 7 22 (.slice (some ad) l.length c) rfl rfl (by kernel_rfl) (by kernel_rfl) (by kernel_rfl) (fun _ _ _ h => h) (by kernel_rfl) (fun X hX => by clear hX; first | rfl | go_simp) hHeld ?_
        simp only [Act.put, List.setIfInBounds_toArray, List.set_cons_zero, List.set_cons_succ]
        refine takeH 8 23 (.int .i64 (m : Int)) rfl rfl (by kernel_rfl) (by kernel_rfl) (by kernel_rfl) (fun _ _ _ h => h) (by kernel_rfl) (fun X hX => by clear hX; first | rfl | go_simp) hHeld ?_
        simp only [Act.put, List.setIfInBounds_toArray, List.set_cons_zero, List.set_cons_succ]
        refine takeH 9 24 (.pointer (some (ad.add (m * 5)))) rfl rfl (by kernel_rfl) (by kernel_rfl) (by kernel_rfl) (fun _ _ _ h => h) (by kernel_rfl) (fun X hX => by clear hX; first | rfl | go_simp) hHeld ?_
        simp only [Act.put, List.setIfInBounds_toArray, List.set_cons_zero, List.set_cons_succ]
        refine takeH 10 25 (tmv z) rfl rfl (by kernel_rfl) (by kernel_rfl) (by kernel_rfl) (fun _ _ _ h => h) (by kernel_rfl) (fun X hX => by have qe0 := (hX.2.cell (p := ad.add (m * 5)) hbd).trans e0; have qe1 := (hX.2.cell (p := ⟨(ad.add (m * 5)).block, (ad.add (m * 5)).off + 1, none⟩) hbd).trans e1; have qe2 := (hX.2.cell (p := ⟨(ad.add (m * 5)).block, (ad.add (m * 5)).off + 2, none⟩) hbd).trans e2; have qe3 := (hX.2.cell (p := ⟨(ad.add (m * 5)).block, (ad.add (m * 5)).off + 3, none⟩) hbd).trans e3; have qe4 := (hX.2.cell (p := ⟨(ad.add (m * 5)).block, (ad.add (m * 5)).off + 4, none⟩) hbd).trans e4; clear hX; go_simp) hHeld ?_
        simp only [Act.put, List.setIfInBounds_toArray, List.set_cons_zero, List.set_cons_succ]
        refine wpAnyH_ready (rs := [5]) (by kernel_rfl) (by simp) ?_
        refine AllReadyH.cons rfl (fun KK hK => ?_) AllReadyH.nil
        simp only [List.getElem_toArray, List.getElem_cons_succ, List.getElem_cons_zero]
        go_simp
        refine (HF.out y _).mono ?_
        rintro e Z1 ⟨rfl, b5⟩
        have K3 := K2.out.drew.next b5
        refine hK.out _ _ K3 (fun hHeld => ?_)
        clear hK KK
        try simp only [Act.put, List.setIfInBounds_toArray, List.set_cons_zero, List.set_cons_succ]
        refine wpAnyH_ready (rs := [11]) (by kernel_rfl) (by simp) ?_
        refine AllReadyH.cons rfl (fun KK hK => ?_) AllReadyH.nil
        simp only [List.getElem_toArray, List.getElem_cons_succ, List.getElem_cons_zero]
        go_simp
        refine (HF.out z _).mono ?_
        rintro e Z2 ⟨rfl, b6⟩
        have K4 := K3.next b6
        refine hK.out _ _ K4 (fun hHeld => ?_)
        clear hK KK
        try simp only [Act.put, List.setIfInBounds_toArray, List.set_cons_zero, List.set_cons_succ]
        have hlt2 : ∃ q, decide (y.c < z.c) = q := ⟨_, rfl⟩
        obtain ⟨q, hq⟩ := hlt2
        refine takeH 12 27 (.bool (decide (y.c < z.c))) rfl rfl (by kernel_rfl) (by kernel_rfl) (by kernel_rfl) (fun _ _ _ h => h) (by kernel_rfl) (fun X hX => by clear hX; first | rfl | go_simp) hHeld ?_
        simp only [Act.put, List.setIfInBounds_toArray, List.set_cons_zero, List.set_cons_succ]
        refine takeH 13 28 (.bool (decide (y.c < z.c))) rfl rfl (by kernel_rfl) (by kernel_rfl) (by kernel_rfl) (fun _ _ _ h => h) (by kernel_rfl) (fun X hX => by clear hX; first | rfl | go_simp) hHeld ?_
        simp only [Act.put, List.setIfInBounds_toArray, List.set_cons_zero, List.set_cons_succ]
        refine wpAnyH_done (by kernel_rfl) ?_ _
        have K5 := hid (K4.sub (l' := []) (by intro p hp; cases hp))
        clear hHeld K2 K3 K4 b5 b6
        rw [hq]
        cases q with
        | true =>
          have hn := Hn.out
          rw [if_pos (of_decide_eq_true hq)] at hn
          have Hn2 := hid hn
          clear hn Hn hq
          go_wp2_with fail
          exact ⟨⟨k + 1, by go_num, by rw [Hn2.out], by omega, K5⟩, by simp [intOf]; omega⟩
        | false =>
          have hn := Hn.out
          rw [if_neg (of_decide_eq_false hq)] at hn
          have Hn2 := hid hn
          clear hn Hn hq
          go_wp2_with fail
          exact ⟨⟨k + 1, by go_num, by rw [Hn2.out], by omega, K5⟩, by simp [intOf]; omega⟩
    · obtain rfl : k = l.length := by omega
      have b2 : ¬ (l.length : Int) < l.length := by omega
      clear Hb H1 H2 H0 Hbk
      go_wp2_with fail
      go_ret
      exact Did.mk rfl KB.out.2
set_option maxRecDepth 8000 in
theorem p_fcP (y : Pl) (w : World) : Calls Try.prog 42 #[plv y] w (Did (.int .i64 y.c) w) := by
  obtain ⟨D, V, hD, hV, K, z0⟩ := (Mem.nil w).one (enP y) 60
  have c1 : V.cell? ⟨D, 1, none⟩ = some (.int .i64 y.c) := K.out.cell (b := D) (cs := enP y) (t := 60) (by simp) rfl
  go_enter Try.func42, Try.ntmps42
  go_wp2_with fail
  go_ret
  exact Did.mk rfl K.out.2
set_option maxRecDepth 20000 in
set_option maxHeartbeats 4000000 in
theorem p_cheapP (A : Option Addr) (c : Nat) (l : List Pl) (hm : l.length ≤ maxLen) (w : World) (h : Es enP w w.heap.size A l) :
    Calls Try.prog 41 #[.slice A l.length c, .func (.func 42) #[] #[]] w (Did (.int .i64 (amin Pl.c l l.length)) w) := by
  unfold maxLen at hm
  have HF := hid (fun y X => p_fcP y X)
  have H := hid h
  have Hb := hid (fun k hk => amin_bnd (f := Pl.c) (l := l) k hk)
  have H1 := hid (fun k y hy h => amin_one (f := Pl.c) (l := l) (k := k) (y := y) hy h)
  have H2 := hid (fun k m y z hy h hz => amin_two (f := Pl.c) (l := l) (k := k) (m := m) (y := y) (z := z) hy h hz)
  have H0 := hid (show amin Pl.c l 0 = -1 from rfl)
  generalize amin Pl.c l = am at *
  clear h
  go_enter Try.func41, Try.ntmps41
  go_wp2_with fail
  go_loopw [5, 10] (fun bv i wr => ∃ (k : Nat), i = .int .i64 k ∧ bv = .int .i64 (am k) ∧ k ≤ l.length ∧ Hid (Mem w wr [])) (fun _ i _ => l.length - (intOf i).toNat)
  case atStart => exact ⟨0, rfl, by rw [H0.out], Nat.zero_le _, hid (Mem.nil w)⟩
  case round =>
    obtain ⟨k, rfl, rfl, hk, KB⟩ := hrel
    have Hbk := Hb.out k hk
    by_cases hlt : k < l.length
    · obtain ⟨ad, y, rfl, hadb, hy, _, hcell⟩ := Es.get enP_len (by decide) H.out hlt
      have hbc : (ad.add (k * 2)).block < w.heap.size := by rw [add_block]; exact hadb
      have d0 := (KB.out.2.cell (p := ad.add (k * 2)) hbc).trans (show w.cell? (ad.add (k * 2)) = some (.int .i64 y.r) by have := hcell 0 _ rfl; rwa [Nat.add_zero] at this)
      have d1 := (KB.out.2.cell (p := ⟨(ad.add (k * 2)).block, (ad.add (k * 2)).off + 1, none⟩) hbc).trans (show w.cell? ⟨(ad.add (k * 2)).block, (ad.add (k * 2)).off + 1, none⟩ = some (.int .i64 y.c) by have := hcell 1 _ rfl; rwa [add_add _ _ _ (by omega)] at this)
      have b1 : (0 : Int) ≤ (k : Int) := by omega
      have b2 : (k : Int) < l.length := by omega
      obtain ⟨D, U, hD, hU, K2, hb2⟩ := KB.out.one (enP y) 60
      have H11 := hid (fun h => H1.out k y hy.out h)
      have H21 := hid (fun m z h hz => H2.out k m y z hy.out h hz)
      clear KB hb2 hcell Hb H1 H2 H0
      obtain ⟨b, hb⟩ : ∃ b, am k = b := ⟨_, rfl⟩
      rw [hb] at Hbk H11 H21 ⊢
      clear hb
      by_cases c1 : b = -1
      · subst c1
        have Hn := hid (H11.out rfl)
        clear Hbk H11 H21
        go_wp2_with fail
        refine wp_region_held_drew (S := fun X => Mem w X [(D, enP y, 60)]) (by kernel_rfl) K2.out.drew (fun hHeld => ?_)
        refine takeH 0 15 (.int .i64 (-1)) rfl rfl (by kernel_rfl) (by kernel_rfl) (by kernel_rfl) (fun _ _ _ h => h) (by kernel_rfl) (fun X hX => by clear hX; first | rfl | go_simp) hHeld ?_
        simp only [Act.put, List.setIfInBounds_toArray, List.set_cons_zero, List.set_cons_succ]
        refine takeH 1 16 (.bool true) rfl rfl (by kernel_rfl) (by kernel_rfl) (by kernel_rfl) (fun _ _ _ h => h) (by kernel_rfl) (fun X hX => by clear hX; first | rfl | go_simp) hHeld ?_
        simp only [Act.put, List.setIfInBounds_toArray, List.set_cons_zero, List.set_cons_succ]
        refine takeH 2 17 (.bool true) rfl rfl (by kernel_rfl) (by kernel_rfl) (by kernel_rfl) (fun _ _ _ h => h) (by kernel_rfl) (fun X hX => by clear hX; first | rfl | go_simp) hHeld ?_
        simp only [Act.put, List.setIfInBounds_toArray, List.set_cons_zero, List.set_cons_succ]
        refine skipH 3 18 rfl rfl (by kernel_rfl) (by kernel_rfl) (by kernel_rfl) (fun _ _ _ h => h) (by kernel_rfl) hHeld ?_
        simp only [Act.put, List.setIfInBounds_toArray, List.set_cons_zero, List.set_cons_succ]
        refine skipH 4 19 rfl rfl (by kernel_rfl) (by kernel_rfl) (by kernel_rfl) (fun _ _ _ h => h) (by kernel_rfl) hHeld ?_
        simp only [Act.put, List.setIfInBounds_toArray, List.set_cons_zero, List.set_cons_succ]
        refine skipH 5 20 rfl rfl (by kernel_rfl) (by kernel_rfl) (by kernel_rfl) (fun _ _ _ h => h) (by kernel_rfl) hHeld ?_
        simp only [Act.put, List.setIfInBounds_toArray, List.set_cons_zero, List.set_cons_succ]
        refine skipH 6 21 rfl rfl (by kernel_rfl) (by kernel_rfl) (by kernel_rfl) (fun _ _ _ h => h) (by kernel_rfl) hHeld ?_
        simp only [Act.put, List.setIfInBounds_toArray, List.set_cons_zero, List.set_cons_succ]
        refine skipH 7 22 rfl rfl (by kernel_rfl) (by kernel_rfl) (by kernel_rfl) (fun _ _ _ h => h) (by kernel_rfl) hHeld ?_
        simp only [Act.put, List.setIfInBounds_toArray, List.set_cons_zero, List.set_cons_succ]
        refine skipH 8 23 rfl rfl (by kernel_rfl) (by kernel_rfl) (by kernel_rfl) (fun _ _ _ h => h) (by kernel_rfl) hHeld ?_
        simp only [Act.put, List.setIfInBounds_toArray, List.set_cons_zero, List.set_cons_succ]
        refine skipH 9 24 rfl rfl (by kernel_rfl) (by kernel_rfl) (by kernel_rfl) (fun _ _ _ h => h) (by kernel_rfl) hHeld ?_
        simp only [Act.put, List.setIfInBounds_toArray, List.set_cons_zero, List.set_cons_succ]
        refine skipH 10 25 rfl rfl (by kernel_rfl) (by kernel_rfl) (by kernel_rfl) (fun _ _ _ h => h) (by kernel_rfl) hHeld ?_
        simp only [Act.put, List.setIfInBounds_toArray, List.set_cons_zero, List.set_cons_succ]
        refine skipH 11 26 rfl rfl (by kernel_rfl) (by kernel_rfl) (by kernel_rfl) (fun _ _ _ h => h) (by kernel_rfl) hHeld ?_
        simp only [Act.put, List.setIfInBounds_toArray, List.set_cons_zero, List.set_cons_succ]
        refine skipH 12 27 rfl rfl (by kernel_rfl) (by kernel_rfl) (by kernel_rfl) (fun _ _ _ h => h) (by kernel_rfl) hHeld ?_
        simp only [Act.put, List.setIfInBounds_toArray, List.set_cons_zero, List.set_cons_succ]
        refine takeH 13 28 (.bool true) rfl rfl (by kernel_rfl) (by kernel_rfl) (by kernel_rfl) (fun _ _ _ h => h) (by kernel_rfl) (fun X hX => by clear hX; first | rfl | go_simp) hHeld ?_
        simp only [Act.put, List.setIfInBounds_toArray, List.set_cons_zero, List.set_cons_succ]
        refine wpAnyH_done (by kernel_rfl) ?_ _
        have K3 := hid (K2.out.drew.sub (l' := []) (by intro p hp; cases hp))
        clear hHeld K2
        go_wp2_with fail
        exact ⟨⟨k + 1, by go_num, by rw [Hn.out], by omega, K3⟩, by simp [intOf]; omega⟩
      · obtain ⟨m, rfl, hmk⟩ : ∃ m : Nat, b = (m : Int) ∧ m < k := Hbk.resolve_left c1
        obtain ⟨ae, z, hae, haeb, hz, _, hdell⟩ := Es.get enP_len (by decide) H.out (show m < l.length by omega)
        injection hae with hae
        subst hae
        have hbd : (ad.add (m * 2)).block < w.heap.size := by rw [add_block]; exact hadb
        have e0 : w.cell? (ad.add (m * 2)) = some (.int .i64 z.r) := by have := hdell 0 _ rfl; rwa [Nat.add_zero] at this
        have e1 : w.cell? ⟨(ad.add (m * 2)).block, (ad.add (m * 2)).off + 1, none⟩ = some (.int .i64 z.c) := by have := hdell 1 _ rfl; rwa [add_add _ _ _ (by omega)] at this
        have Hn := hid (H21.out m z rfl hz.out)
        have b3 : (0 : Int) ≤ (m : Int) := by omega
        have b4 : (m : Int) < l.length := by omega
        have q1 : ((m : Int) == -1) = false := by rw [beq_eq_false_iff_ne]; omega
        clear Hbk H11 H21 hdell c1
        go_wp2_with fail
        refine wp_region_held_drew (S := fun X => Mem w X [(D, enP y, 60)]) (by kernel_rfl) K2.out.drew (fun hHeld => ?_)
        refine takeH 0 15 (.int .i64 (m : Int)) rfl rfl (by kernel_rfl) (by kernel_rfl) (by kernel_rfl) (fun _ _ _ h => h) (by kernel_rfl) (fun X hX => by clear hX; first | rfl | go_simp) hHeld ?_
        simp only [Act.put, List.setIfInBounds_toArray, List.set_cons_zero, List.set_cons_succ]
        refine takeH 1 16 (.bool false) rfl rfl (by kernel_rfl) (by kernel_rfl) (by kernel_rfl) (fun _ _ _ h => h) (by kernel_rfl) (fun X hX => by clear hX; go_simp) hHeld ?_
        simp only [Act.put, List.setIfInBounds_toArray, List.set_cons_zero, List.set_cons_succ]
        refine takeH 2 17 (.bool false) rfl rfl (by kernel_rfl) (by kernel_rfl) (by kernel_rfl) (fun _ _ _ h => h) (by kernel_rfl) (fun X hX => by clear hX; first | rfl | go_simp) hHeld ?_
        simp only [Act.put, List.setIfInBounds_toArray, List.set_cons_zero, List.set_cons_succ]
        refine takeH 3 18 (.func (.func 42) #[] #[]) rfl rfl (by kernel_rfl) (by kernel_rfl) (by kernel_rfl) (fun _ _ _ h => h) (by kernel_rfl) (fun X hX => by clear hX; first | rfl | go_simp) hHeld ?_
        simp only [Act.put, List.setIfInBounds_toArray, List.set_cons_zero, List.set_cons_succ]
        refine takeH 4 19 (plv y) rfl rfl (by kernel_rfl) (by kernel_rfl) (by kernel_rfl) (fun _ _ _ h => h) (by kernel_rfl) (fun X hX => by have x0 : X.cell? ⟨D, 0, none⟩ = some (.int .i64 y.r) := hX.cell (b := D) (cs := enP y) (t := 60) (by simp) rfl; have x1 : X.cell? ⟨D, 1, none⟩ = some (.int .i64 y.c) := hX.cell (b := D) (cs := enP y) (t := 60) (by simp) rfl; clear hX; go_simp) hHeld ?_
        simp only [Act.put, List.setIfInBounds_toArray, List.set_cons_zero, List.set_cons_succ]
        refine takeH 6 21 (.func (.func 42) #[] #[]) rfl rfl (by kernel_rfl) (by kernel_rfl) (by kernel_rfl) (fun _ _ _ h => h) (by kernel_rfl) (fun X hX => by clear hX; first | rfl | go_simp) hHeld ?_
        simp only [Act.put, List.setIfInBounds_toArray, List.set_cons_zero, List.set_cons_succ]
        refine takeH 7 22 (.slice (some ad) l.length c) rfl rfl (by kernel_rfl) (by kernel_rfl) (by kernel_rfl) (fun _ _ _ h => h) (by kernel_rfl) (fun X hX => by clear hX; first | rfl | go_simp) hHeld ?_
        simp only [Act.put, List.setIfInBounds_toArray, List.set_cons_zero, List.set_cons_succ]
        refine takeH 8 23 (.int .i64 (m : Int)) rfl rfl (by kernel_rfl) (by kernel_rfl) (by kernel_rfl) (fun _ _ _ h => h) (by kernel_rfl) (fun X hX => by clear hX; first | rfl | go_simp) hHeld ?_
        simp only [Act.put, List.setIfInBounds_toArray, List.set_cons_zero, List.set_cons_succ]
        refine takeH 9 24 (.pointer (some (ad.add (m * 2)))) rfl rfl (by kernel_rfl) (by kernel_rfl) (by kernel_rfl) (fun _ _ _ h => h) (by kernel_rfl) (fun X hX => by clear hX; first | rfl | go_simp) hHeld ?_
        simp only [Act.put, List.setIfInBounds_toArray, List.set_cons_zero, List.set_cons_succ]
        refine takeH 10 25 (plv z) rfl rfl (by kernel_rfl) (by kernel_rfl) (by kernel_rfl) (fun _ _ _ h => h) (by kernel_rfl) (fun X hX => by have qe0 := (hX.2.cell (p := ad.add (m * 2)) hbd).trans e0; have qe1 := (hX.2.cell (p := ⟨(ad.add (m * 2)).block, (ad.add (m * 2)).off + 1, none⟩) hbd).trans e1; clear hX; go_simp) hHeld ?_
        simp only [Act.put, List.setIfInBounds_toArray, List.set_cons_zero, List.set_cons_succ]
        refine wpAnyH_ready (rs := [5]) (by kernel_rfl) (by simp) ?_
        refine AllReadyH.cons rfl (fun KK hK => ?_) AllReadyH.nil
        simp only [List.getElem_toArray, List.getElem_cons_succ, List.getElem_cons_zero]
        go_simp
        refine (HF.out y _).mono ?_
        rintro e Z1 ⟨rfl, b5⟩
        have K3 := K2.out.drew.next b5
        refine hK.out _ _ K3 (fun hHeld => ?_)
        clear hK KK
        try simp only [Act.put, List.setIfInBounds_toArray, List.set_cons_zero, List.set_cons_succ]
        refine wpAnyH_ready (rs := [11]) (by kernel_rfl) (by simp) ?_
        refine AllReadyH.cons rfl (fun KK hK => ?_) AllReadyH.nil
        simp only [List.getElem_toArray, List.getElem_cons_succ, List.getElem_cons_zero]
        go_simp
        refine (HF.out z _).mono ?_
        rintro e Z2 ⟨rfl, b6⟩
        have K4 := K3.next b6
        refine hK.out _ _ K4 (fun hHeld => ?_)
        clear hK KK
        try simp only [Act.put, List.setIfInBounds_toArray, List.set_cons_zero, List.set_cons_succ]
        have hlt2 : ∃ q, decide (y.c < z.c) = q := ⟨_, rfl⟩
        obtain ⟨q, hq⟩ := hlt2
        refine takeH 12 27 (.bool (decide (y.c < z.c))) rfl rfl (by kernel_rfl) (by kernel_rfl) (by kernel_rfl) (fun _ _ _ h => h) (by kernel_rfl) (fun X hX => by clear hX; first | rfl | go_simp) hHeld ?_
        simp only [Act.put, List.setIfInBounds_toArray, List.set_cons_zero, List.set_cons_succ]
        refine takeH 13 28 (.bool (decide (y.c < z.c))) rfl rfl (by kernel_rfl) (by kernel_rfl) (by kernel_rfl) (fun _ _ _ h => h) (by kernel_rfl) (fun X hX => by clear hX; first | rfl | go_simp) hHeld ?_
        simp only [Act.put, List.setIfInBounds_toArray, List.set_cons_zero, List.set_cons_succ]
        refine wpAnyH_done (by kernel_rfl) ?_ _
        have K5 := hid (K4.sub (l' := []) (by intro p hp; cases hp))
        clear hHeld K2 K3 K4 b5 b6
        rw [hq]
        cases q with
        | true =>
          have hn := Hn.out
          rw [if_pos (of_decide_eq_true hq)] at hn
          have Hn2 := hid hn
          clear hn Hn hq
          go_wp2_with fail
          exact ⟨⟨k + 1, by go_num, by rw [Hn2.out], by omega, K5⟩, by simp [intOf]; omega⟩
        | false =>
          have hn := Hn.out
          rw [if_neg (of_decide_eq_false hq)] at hn
          have Hn2 := hid hn
          clear hn Hn hq
          go_wp2_with fail
          exact ⟨⟨k + 1, by go_num, by rw [Hn2.out], by omega, K5⟩, by simp [intOf]; omega⟩
    · obtain rfl : k = l.length := by omega
      have b2 : ¬ (l.length : Int) < l.length := by omega
      clear Hb H1 H2 H0 Hbk
      go_wp2_with fail
      go_ret
      exact Did.mk rfl KB.out.2
/-- the sum, or the int that is nearest to it -/
theorem p_together (a b : Int) (h1 : -9223372036854775808 ≤ a + b) (h2 : a + b ≤ 9223372036854775807) (hb : I64 b) (w : World) :
    Calls Try.prog 43 #[.int .i64 a, .int .i64 b] w (fun e w' => e = .returned (.int .i64 (a + b)) ∧ w = w') := by
  unfold I64 at hb
  have hw : IntKind.i64.wrap (a + b) = a + b := by rw [IntKind.wrap_i64]; omega
  by_cases c1 : 0 < b
  · have q1 : IntKind.i64.wrap (9223372036854775807 - b) = 9223372036854775807 - b := by rw [IntKind.wrap_i64]; omega
    have q2 : ¬ 9223372036854775807 - b < a := by omega
    have q3 : ¬ b < 0 := by omega
    go_enter Try.func43, Try.ntmps43
    go_wp2_with fail
    go_ret
    exact ⟨rfl, rfl⟩
  · by_cases c2 : b < 0
    · have q1 : IntKind.i64.wrap (-9223372036854775808 - b) = -9223372036854775808 - b := by rw [IntKind.wrap_i64]; omega
      have q2 : ¬ a < -9223372036854775808 - b := by omega
      go_enter Try.func43, Try.ntmps43
      go_wp2_with fail
      go_ret
      exact ⟨rfl, rfl⟩
    · go_enter Try.func43, Try.ntmps43
      go_wp2_with fail
      go_ret
      exact ⟨rfl, rfl⟩
end Go.Proofs.Ytcnpfchopjopeaa
