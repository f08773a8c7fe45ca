/- The document's own answers for layer 17 (problem): Rule, student, weigh, first. -/
import Derived.Test.YtgmgccepmalahaaGreatPqB
import Derived.Test.YtgmgccepmalahaaGreatPqF
import Derived.Test.YtgmgccepmalahaaGreatPqE
import Derived.Test.YtgmgccepmalahaaGreatPqC
import Derived.Deep.DeepCutAuto
namespace Go.Proofs.YtgmgccepmalahaaGreat
open Go.RowKit
open Whn (Gr Wh)

theorem its_takeP {w : World} {B : Nat} {A : Option Addr} {l : List Int} (h : Its w B A l) (k : Nat) : Its w B A (l.take k) := fun hn => by
  obtain ⟨ad, e, hb, hc⟩ := h (fun e => hn (by rw [List.map_take, e, List.take_nil]))
  refine ⟨ad, e, hb, fun j v hv => hc j v ?_⟩
  rw [List.map_take, List.getElem?_take] at hv
  split at hv
  · exact hv
  · cases hv
def frontB (x : Rl) : Bool := (kn15 x.k || mkB x.k) && (decide (2 ≤ x.l.length ∧ x.l.length ≤ 12) && rtV x.k x.a x.b)
/-- is a class of a rule right at its place? -/
def amongB (n : Int) (l : List Int) (i : Nat) : Bool := decide (0 ≤ l.getD i 0) && (decide (l.getD i 0 < n) && !decide (l.getD i 0 ∈ l.take i))
def costB17 (x : Rl) : Bool := if x.h then decide (x.c = 0) else decide (1 ≤ x.c) && decide (x.c ≤ 1000)
def ruleB (n : Int) (x : Rl) : Bool := frontB x && ((List.range x.l.length).all (amongB n x.l) && costB17 x)
theorem all_range {f : Nat → Bool} {n : Nat} (h : ∀ i, i < n → f i = true) : (List.range n).all f = true := by
  rw [List.all_eq_true]; intro i hi; exact h i (List.mem_range.1 hi)
theorem no_range {f : Nat → Bool} {n i : Nat} (hi : i < n) (h : f i = false) : (List.range n).all f = false := by
  rw [List.all_eq_false]; exact ⟨i, List.mem_range.2 hi, by rw [h]; decide⟩
theorem Mem.rl {w X : World} {l : Obs} (h : Mem w X l) {B : Nat} {x : Rl} {A : Option Addr} {c : Nat} {t : TypeId} (hm : (B, rlc x A c, t) ∈ l) :
    X.cell? ⟨B, 0, none⟩ = some (.int .i64 x.k) ∧ X.cell? ⟨B, 1, none⟩ = some (.slice A x.l.length c) ∧ X.cell? ⟨B, 2, none⟩ = some (.int .i64 x.a) ∧ X.cell? ⟨B, 3, none⟩ = some (.int .i64 x.b) ∧ X.cell? ⟨B, 4, none⟩ = some (.bool x.h) ∧ X.cell? ⟨B, 5, none⟩ = some (.int .i64 x.c) :=
  ⟨h.cell hm rfl, h.cell hm rfl, h.cell hm rfl, h.cell hm rfl, h.cell hm rfl, h.cell hm rfl⟩
set_option maxRecDepth 20000 in
set_option maxHeartbeats 8000000 in
theorem r17_Rule (n : Int) (x : Rl) (A : Option Addr) (c : Nat) (hl : x.l.length ≤ c ∧ c ≤ maxLen) (w : World) (h : Its w w.heap.size A x.l) :
    Calls Tryz.prog 16 #[.int .i64 n, rlv x A c] w (Did (.bool (ruleB n x)) w) := by
  have HK := hid (fun X => r16_kn15 x.k X)
  have HM := hid (fun X => r16_Known x.k X)
  have HR := hid (fun X => r16_Right x.k x.a x.b X)
  have H := hid h
  unfold maxLen at hl
  have hlm : x.l.length ≤ maxLen := by unfold maxLen; omega
  have Hr := hid (show ruleB n x = (frontB x && ((List.range x.l.length).all (amongB n x.l) && costB17 x)) from rfl)
  have Hf := hid (show frontB x = ((kn15 x.k || mkB x.k) && (decide (2 ≤ x.l.length ∧ x.l.length ≤ 12) && rtV x.k x.a x.b)) from rfl)
  have Hc := hid (show costB17 x = if x.h then decide (x.c = 0) else decide (1 ≤ x.c) && decide (x.c ≤ 1000) from rfl)
  have Hyes := hid (fun (h : ∀ i, i < x.l.length → amongB n x.l i = true) => all_range h)
  have Hno := hid (fun i (hi : i < x.l.length) (h : amongB n x.l i = false) => no_range hi h)
  have Ham := hid (fun i y (hy : x.l[i]? = some y) => show amongB n x.l i = (decide (0 ≤ y) && (decide (y < n) && !decide (y ∈ x.l.take i))) by unfold amongB; rw [List.getD_eq_getElem?_getD, hy]; rfl)
  have HH := hid (fun ad i y X (hi : i < x.l.length) (h : Its X X.heap.size (some ad) x.l) c' => r_Has (some ad) i c' (x.l.take i) (by rw [List.length_take]; omega) (by rw [List.length_take]; omega) y X X.heap.size (its_takeP h i))
  generalize ruleB n x = rr at *
  generalize frontB x = ff at *
  generalize costB17 x = cc at *
  generalize (List.range x.l.length).all (amongB n x.l) = aa at *
  generalize amongB n x.l = am at *
  generalize kn15 x.k = kk at *
  generalize mkB x.k = mm at *
  generalize rtV x.k x.a x.b = rt at *
  obtain ⟨L, hL⟩ : ∃ L, x.l.length = L := ⟨_, rfl⟩
  obtain ⟨R, W, hR, hW, K, hb0⟩ := (Mem.nil w).one (rlc x A c) 45
  rw [hL] at hl hlm Hf Hyes Hno HH
  obtain ⟨c0, c1, c2, c3, c4, c5⟩ := K.out.rl (B := R) (x := x) (A := A) (c := c) (t := 45) (by simp)
  have HLL := hid hL
  clear h hb0
  unfold rlv
  rw [hL] at c1 ⊢
  unfold rlc at hW K
  rw [hL] at hW K
  clear hL
  go_enter Tryz.func16, Tryz.ntmps16
  go_upto_region 1 with fail
  go_cut [37] (fun s wx => ∃ nb, s = .bool nb ∧ nb = !ff ∧ W = wx)
  case first =>
    cases kk with
    | false =>
      cases mm with
      | false =>
        go_wp2_with fail
        refine (HK.out _).mono ?_
        rintro e w1 ⟨rfl, rfl⟩
        go_wp2_with fail
        refine (HM.out _).mono ?_
        rintro e w1 ⟨rfl, rfl⟩
        go_wp2_with fail
        go_meet
        exact ⟨_, rfl, by rw [Hf.out]; rfl, rfl⟩
      | true =>
        go_wp2_with fail
        refine (HK.out _).mono ?_
        rintro e w1 ⟨rfl, rfl⟩
        go_wp2_with fail
        refine (HM.out _).mono ?_
        rintro e w1 ⟨rfl, rfl⟩
        by_cases h2 : 2 ≤ L
        · by_cases h12 : L ≤ 12
          · have u1 : ¬ (L : Int) < 2 := by omega
            have u2 : ¬ 12 < (L : Int) := by omega
            rw [decide_eq_true ⟨h2, h12⟩] at Hf
            clear h2 h12
            go_wp2_with fail
            refine (HR.out _).mono ?_
            rintro e w1 ⟨rfl, rfl⟩
            cases rt <;> (go_wp2_with fail; go_meet; exact ⟨_, rfl, by rw [Hf.out]; first | rfl | (rw [show decide ((L : Int) < 2) = false from decide_eq_false (by omega), show decide (12 < (L : Int)) = false from decide_eq_false (by omega)]; rfl), rfl⟩)
          · have u1 : ¬ (L : Int) < 2 := by omega
            have u2 : 12 < (L : Int) := by omega
            rw [decide_eq_false (fun h => h12 h.2)] at Hf
            clear h2 h12
            go_wp2_with fail
            go_meet
            exact ⟨_, rfl, by rw [Hf.out]; rfl, rfl⟩
        · have u1 : (L : Int) < 2 := by omega
          rw [decide_eq_false (fun h => h2 h.1)] at Hf
          clear h2
          go_wp2_with fail
          go_meet
          exact ⟨_, rfl, by rw [Hf.out]; rfl, rfl⟩
    | true =>
      go_wp2_with fail
      refine (HK.out _).mono ?_
      rintro e w1 ⟨rfl, rfl⟩
      by_cases h2 : 2 ≤ L
      · by_cases h12 : L ≤ 12
        · have u1 : ¬ (L : Int) < 2 := by omega
          have u2 : ¬ 12 < (L : Int) := by omega
          rw [decide_eq_true ⟨h2, h12⟩] at Hf
          clear h2 h12
          go_wp2_with fail
          refine (HR.out _).mono ?_
          rintro e w1 ⟨rfl, rfl⟩
          cases rt <;> (go_wp2_with fail; go_meet; exact ⟨_, rfl, by rw [Hf.out]; first | rfl | (rw [show decide ((L : Int) < 2) = false from decide_eq_false (by omega), show decide (12 < (L : Int)) = false from decide_eq_false (by omega)]; rfl), rfl⟩)
        · have u1 : ¬ (L : Int) < 2 := by omega
          have u2 : 12 < (L : Int) := by omega
          rw [decide_eq_false (fun h => h12 h.2)] at Hf
          clear h2 h12
          go_wp2_with fail
          go_meet
          exact ⟨_, rfl, by rw [Hf.out]; rfl, rfl⟩
      · have u1 : (L : Int) < 2 := by omega
        rw [decide_eq_false (fun h => h2 h.1)] at Hf
        clear h2
        go_wp2_with fail
        go_meet
        exact ⟨_, rfl, by rw [Hf.out]; rfl, rfl⟩
  case rest =>
    revert wc
    intro wc hcut
    obtain ⟨nb, rfl, hnb, rfl⟩ := hcut
    clear HK HM HR Hf
    cases ff with
    | false =>
      obtain rfl : nb = true := hnb
      rw [Bool.false_and] at Hr
      go_wp2_with fail
      go_ret
      exact Did.mk (by rw [Hr.out]; rfl) K.out.2
    | true =>
      obtain rfl : nb = false := hnb
      rw [Bool.true_and] at Hr
      go_wp2_with fail
      go_loopw [5] (fun iv wr => ∃ i : Nat, iv = .int .i64 i ∧ i ≤ L ∧ Hid (∀ j, j < i → am j = true) ∧ Hid (Mem w wr [(R, [.int .i64 x.k, .slice A L c, .int .i64 x.a, .int .i64 x.b, .bool x.h, .int .i64 x.c], 45)])) (fun iv _ => L - (intOf iv).toNat)
      case atStart => exact ⟨0, rfl, Nat.zero_le _, hid (fun j hj => absurd hj (Nat.not_lt_zero j)), K⟩
      case round =>
        clear K c0 c1 c2 c3 c4 c5
        obtain ⟨i, rfl, hi, HA, KM⟩ := hrel
        obtain ⟨c0, c1, c2, c3, c4, c5⟩ : wr.cell? ⟨R, 0, none⟩ = some (.int .i64 x.k) ∧ wr.cell? ⟨R, 1, none⟩ = some (.slice A L c) ∧ wr.cell? ⟨R, 2, none⟩ = some (.int .i64 x.a) ∧ wr.cell? ⟨R, 3, none⟩ = some (.int .i64 x.b) ∧ wr.cell? ⟨R, 4, none⟩ = some (.bool x.h) ∧ wr.cell? ⟨R, 5, none⟩ = some (.int .i64 x.c) := ⟨KM.out.cell (b := R) (cs := [.int .i64 x.k, .slice A L c, .int .i64 x.a, .int .i64 x.b, .bool x.h, .int .i64 x.c]) (t := 45) (by simp) (k := 0) rfl, KM.out.cell (b := R) (cs := [.int .i64 x.k, .slice A L c, .int .i64 x.a, .int .i64 x.b, .bool x.h, .int .i64 x.c]) (t := 45) (by simp) (k := 1) rfl, KM.out.cell (b := R) (cs := [.int .i64 x.k, .slice A L c, .int .i64 x.a, .int .i64 x.b, .bool x.h, .int .i64 x.c]) (t := 45) (by simp) (k := 2) rfl, KM.out.cell (b := R) (cs := [.int .i64 x.k, .slice A L c, .int .i64 x.a, .int .i64 x.b, .bool x.h, .int .i64 x.c]) (t := 45) (by simp) (k := 3) rfl, KM.out.cell (b := R) (cs := [.int .i64 x.k, .slice A L c, .int .i64 x.a, .int .i64 x.b, .bool x.h, .int .i64 x.c]) (t := 45) (by simp) (k := 4) rfl, KM.out.cell (b := R) (cs := [.int .i64 x.k, .slice A L c, .int .i64 x.a, .int .i64 x.b, .bool x.h, .int .i64 x.c]) (t := 45) (by simp) (k := 5) rfl⟩
        by_cases hlt : i < L
        · obtain ⟨ad, y, rfl, had, hy, _⟩ := Its.get H.out (k := i) (by rw [HLL.out]; exact hlt)
          have Hcell := hid (fun X (hb : Below w.heap.size w X) => show X.cell? (ad.add i) = some (.int .i64 y) from by
            obtain ⟨ad', y', e, _, hy', hc⟩ := Its.get (H.out.below hb (Nat.le_refl _)) (k := i) (by rw [HLL.out]; exact hlt)
            cases e
            obtain rfl := Option.some.inj (hy'.out.symm.trans hy.out)
            exact hc)
          have i1 : (0 : Int) ≤ (i : Int) := by omega
          have i2 : (i : Int) < (L : Int) := by omega
          have i3 : ¬ (c : Int) < (i : Int) := by omega
          have i4 : (i : Int) ≤ (c : Int) := by omega
          have Hami := Ham.out i y hy.out
          by_cases h0 : 0 ≤ y
          · by_cases hn : y < n
            · have y1 : ¬ y < 0 := by omega
              have y2 : ¬ n ≤ y := by omega
              rw [decide_eq_true h0, decide_eq_true hn, Bool.true_and, Bool.true_and] at Hami
              have HHi := hid (fun X hb c' => HH.out ad i y X hlt ((H.out.below hb (Nat.le_refl _)).more hb.size) c')
              generalize hbb : decide (y ∈ List.take i x.l) = bb at *
              clear h0 hn hbb
              go_wp2_with fail
              refine wp_region_held_drew (S := fun X => Mem w X [(R, [.int .i64 x.k, .slice (some ad) L c, .int .i64 x.a, .int .i64 x.b, .bool x.h, .int .i64 x.c], 45)]) (by kernel_rfl) KM.out.drew (fun hHeld => ?_)
              refine takeH 0 45 (.pointer (some ⟨R, 1, none⟩)) rfl rfl (by kernel_rfl) (by kernel_rfl) (by kernel_rfl) (fun _ _ _ h => h) (by kernel_rfl) (fun X hX => by clear hX; first | rfl | go_simp) hHeld ?_
              simp only [Act.put, List.setIfInBounds_toArray, List.set_cons_zero, List.set_cons_succ]
              refine takeH 1 46 (.slice (some ad) L c) rfl rfl (by kernel_rfl) (by kernel_rfl) (by kernel_rfl) (fun _ _ _ h => h) (by kernel_rfl) (fun X hX => by have y1c := hX.cell (b := R) (cs := [.int .i64 x.k, .slice (some ad) L c, .int .i64 x.a, .int .i64 x.b, .bool x.h, .int .i64 x.c]) (t := 45) (by simp) (k := 1) rfl; clear hX; go_simp) hHeld ?_
              simp only [Act.put, List.setIfInBounds_toArray, List.set_cons_zero, List.set_cons_succ]
              refine takeH 2 47 (.int .i64 i) rfl rfl (by kernel_rfl) (by kernel_rfl) (by kernel_rfl) (fun _ _ _ h => h) (by kernel_rfl) (fun X hX => by clear hX; first | rfl | go_simp) hHeld ?_
              simp only [Act.put, List.setIfInBounds_toArray, List.set_cons_zero, List.set_cons_succ]
              refine takeH 3 48 (.pointer (some (ad.add i))) rfl rfl (by kernel_rfl) (by kernel_rfl) (by kernel_rfl) (fun _ _ _ h => h) (by kernel_rfl) (fun X hX => by clear hX; first | rfl | go_simp) hHeld ?_
              simp only [Act.put, List.setIfInBounds_toArray, List.set_cons_zero, List.set_cons_succ]
              refine takeH 4 49 (.int .i64 y) rfl rfl (by kernel_rfl) (by kernel_rfl) (by kernel_rfl) (fun _ _ _ h => h) (by kernel_rfl) (fun X hX => by have yc := Hcell.out _ hX.2; clear hX; go_simp) hHeld ?_
              simp only [Act.put, List.setIfInBounds_toArray, List.set_cons_zero, List.set_cons_succ]
              refine takeH 5 50 (.bool false) rfl rfl (by kernel_rfl) (by kernel_rfl) (by kernel_rfl) (fun _ _ _ h => h) (by kernel_rfl) (fun X hX => by clear hX; first | rfl | go_simp) hHeld ?_
              simp only [Act.put, List.setIfInBounds_toArray, List.set_cons_zero, List.set_cons_succ]
              refine takeH 6 51 (.bool false) rfl rfl (by kernel_rfl) (by kernel_rfl) (by kernel_rfl) (fun _ _ _ h => h) (by kernel_rfl) (fun X hX => by clear hX; first | rfl | go_simp) hHeld ?_
              simp only [Act.put, List.setIfInBounds_toArray, List.set_cons_zero, List.set_cons_succ]
              refine takeH 7 52 (.pointer (some ⟨R, 1, none⟩)) rfl rfl (by kernel_rfl) (by kernel_rfl) (by kernel_rfl) (fun _ _ _ h => h) (by kernel_rfl) (fun X hX => by clear hX; first | rfl | go_simp) hHeld ?_
              simp only [Act.put, List.setIfInBounds_toArray, List.set_cons_zero, List.set_cons_succ]
              refine takeH 8 53 (.slice (some ad) L c) rfl rfl (by kernel_rfl) (by kernel_rfl) (by kernel_rfl) (fun _ _ _ h => h) (by kernel_rfl) (fun X hX => by have y1c := hX.cell (b := R) (cs := [.int .i64 x.k, .slice (some ad) L c, .int .i64 x.a, .int .i64 x.b, .bool x.h, .int .i64 x.c]) (t := 45) (by simp) (k := 1) rfl; clear hX; go_simp) hHeld ?_
              simp only [Act.put, List.setIfInBounds_toArray, List.set_cons_zero, List.set_cons_succ]
              refine takeH 9 54 (.int .i64 i) rfl rfl (by kernel_rfl) (by kernel_rfl) (by kernel_rfl) (fun _ _ _ h => h) (by kernel_rfl) (fun X hX => by clear hX; first | rfl | go_simp) hHeld ?_
              simp only [Act.put, List.setIfInBounds_toArray, List.set_cons_zero, List.set_cons_succ]
              refine takeH 10 55 (.pointer (some (ad.add i))) rfl rfl (by kernel_rfl) (by kernel_rfl) (by kernel_rfl) (fun _ _ _ h => h) (by kernel_rfl) (fun X hX => by clear hX; first | rfl | go_simp) hHeld ?_
              simp only [Act.put, List.setIfInBounds_toArray, List.set_cons_zero, List.set_cons_succ]
              refine takeH 11 56 (.int .i64 y) rfl rfl (by kernel_rfl) (by kernel_rfl) (by kernel_rfl) (fun _ _ _ h => h) (by kernel_rfl) (fun X hX => by have yc := Hcell.out _ hX.2; clear hX; go_simp) hHeld ?_
              simp only [Act.put, List.setIfInBounds_toArray, List.set_cons_zero, List.set_cons_succ]
              refine takeH 12 57 (.int .i64 n) rfl rfl (by kernel_rfl) (by kernel_rfl) (by kernel_rfl) (fun _ _ _ h => h) (by kernel_rfl) (fun X hX => by clear hX; first | rfl | go_simp) hHeld ?_
              simp only [Act.put, List.setIfInBounds_toArray, List.set_cons_zero, List.set_cons_succ]
              refine takeH 13 58 (.bool false) rfl rfl (by kernel_rfl) (by kernel_rfl) (by kernel_rfl) (fun _ _ _ h => h) (by kernel_rfl) (fun X hX => by clear hX; first | rfl | go_simp) hHeld ?_
              simp only [Act.put, List.setIfInBounds_toArray, List.set_cons_zero, List.set_cons_succ]
              refine takeH 14 59 (.bool false) rfl rfl (by kernel_rfl) (by kernel_rfl) (by kernel_rfl) (fun _ _ _ h => h) (by kernel_rfl) (fun X hX => by clear hX; first | rfl | go_simp) hHeld ?_
              simp only [Act.put, List.setIfInBounds_toArray, List.set_cons_zero, List.set_cons_succ]
              refine takeH 15 60 (.bool false) rfl rfl (by kernel_rfl) (by kernel_rfl) (by kernel_rfl) (fun _ _ _ h => h) (by kernel_rfl) (fun X hX => by clear hX; first | rfl | go_simp) hHeld ?_
              simp only [Act.put, List.setIfInBounds_toArray, List.set_cons_zero, List.set_cons_succ]
              refine takeH 16 61 (.pointer (some ⟨R, 1, none⟩)) rfl rfl (by kernel_rfl) (by kernel_rfl) (by kernel_rfl) (fun _ _ _ h => h) (by kernel_rfl) (fun X hX => by clear hX; first | rfl | go_simp) hHeld ?_
              simp only [Act.put, List.setIfInBounds_toArray, List.set_cons_zero, List.set_cons_succ]
              refine takeH 17 62 (.slice (some ad) L c) rfl rfl (by kernel_rfl) (by kernel_rfl) (by kernel_rfl) (fun _ _ _ h => h) (by kernel_rfl) (fun X hX => by have y1c := hX.cell (b := R) (cs := [.int .i64 x.k, .slice (some ad) L c, .int .i64 x.a, .int .i64 x.b, .bool x.h, .int .i64 x.c]) (t := 45) (by simp) (k := 1) rfl; clear hX; go_simp) hHeld ?_
              simp only [Act.put, List.setIfInBounds_toArray, List.set_cons_zero, List.set_cons_succ]
              refine takeH 18 63 (.int .i64 i) rfl rfl (by kernel_rfl) (by kernel_rfl) (by kernel_rfl) (fun _ _ _ h => h) (by kernel_rfl) (fun X hX => by clear hX; first | rfl | go_simp) hHeld ?_
              simp only [Act.put, List.setIfInBounds_toArray, List.set_cons_zero, List.set_cons_succ]
              refine takeH 19 64 (.slice (some ad) i c) rfl rfl (by kernel_rfl) (by kernel_rfl) (by kernel_rfl) (fun _ _ _ h => h) (by kernel_rfl) (fun X hX => by clear hX; first | rfl | go_simp) hHeld ?_
              simp only [Act.put, List.setIfInBounds_toArray, List.set_cons_zero, List.set_cons_succ]
              refine takeH 20 65 (.pointer (some ⟨R, 1, none⟩)) rfl rfl (by kernel_rfl) (by kernel_rfl) (by kernel_rfl) (fun _ _ _ h => h) (by kernel_rfl) (fun X hX => by clear hX; first | rfl | go_simp) hHeld ?_
              simp only [Act.put, List.setIfInBounds_toArray, List.set_cons_zero, List.set_cons_succ]
              refine takeH 21 66 (.slice (some ad) L c) rfl rfl (by kernel_rfl) (by kernel_rfl) (by kernel_rfl) (fun _ _ _ h => h) (by kernel_rfl) (fun X hX => by have y1c := hX.cell (b := R) (cs := [.int .i64 x.k, .slice (some ad) L c, .int .i64 x.a, .int .i64 x.b, .bool x.h, .int .i64 x.c]) (t := 45) (by simp) (k := 1) rfl; clear hX; go_simp) hHeld ?_
              simp only [Act.put, List.setIfInBounds_toArray, List.set_cons_zero, List.set_cons_succ]
              refine takeH 22 67 (.int .i64 i) rfl rfl (by kernel_rfl) (by kernel_rfl) (by kernel_rfl) (fun _ _ _ h => h) (by kernel_rfl) (fun X hX => by clear hX; first | rfl | go_simp) hHeld ?_
              simp only [Act.put, List.setIfInBounds_toArray, List.set_cons_zero, List.set_cons_succ]
              refine takeH 23 68 (.pointer (some (ad.add i))) rfl rfl (by kernel_rfl) (by kernel_rfl) (by kernel_rfl) (fun _ _ _ h => h) (by kernel_rfl) (fun X hX => by clear hX; first | rfl | go_simp) hHeld ?_
              simp only [Act.put, List.setIfInBounds_toArray, List.set_cons_zero, List.set_cons_succ]
              refine takeH 24 69 (.int .i64 y) rfl rfl (by kernel_rfl) (by kernel_rfl) (by kernel_rfl) (fun _ _ _ h => h) (by kernel_rfl) (fun X hX => by have yc := Hcell.out _ hX.2; clear hX; go_simp) hHeld ?_
              simp only [Act.put, List.setIfInBounds_toArray, List.set_cons_zero, List.set_cons_succ]
              have K4 := hid KM.out.drew
              refine wpAnyH_ready (rs := [25]) (by kernel_rfl) (by simp) ?_
              refine AllReadyH.cons rfl (fun KK hK => ?_) AllReadyH.nil
              simp only [List.getElem_toArray, List.getElem_cons_succ, List.getElem_cons_zero]
              go_simp
              refine (HHi.out _ K4.out.2 _).mono ?_
              rintro e w1 ⟨rfl, rfl⟩
              refine hK.out _ _ K4.out (fun hHeld => ?_)
              clear hK KK
              try simp only [Act.put, List.setIfInBounds_toArray, List.set_cons_zero, List.set_cons_succ]
              have K5 := K4
              refine takeH 26 71 (.bool bb) rfl rfl (by kernel_rfl) (by kernel_rfl) (by kernel_rfl) (fun _ _ _ h => h) (by kernel_rfl) (fun X hX => by clear hX; first | rfl | go_simp) hHeld ?_
              simp only [Act.put, List.setIfInBounds_toArray, List.set_cons_zero, List.set_cons_succ]
              refine wpAnyH_done (by kernel_rfl) ?_ _
              cases bb with
              | false =>
                clear hHeld
                go_wp2_with fail
                exact ⟨⟨i + 1, by go_num, by omega, hid (fun j hj => by
                  rcases Nat.lt_succ_iff_lt_or_eq.1 hj with h | rfl
                  · exact HA.out j h
                  · exact Hami), K5⟩, by simp [intOf]; omega⟩
              | true =>
                have Ha := Hno.out i hlt Hami
                clear hHeld
                go_wp2_with fail
                go_ret
                exact Did.mk (by rw [Hr.out, Ha]; rfl) K5.out.2
            · have y1 : ¬ y < 0 := by omega
              have y2 : n ≤ y := by omega
              rw [decide_eq_false hn, Bool.false_and, Bool.and_false] at Hami
              have Ha := Hno.out i hlt Hami
              clear h0 hn
              go_wp2_with fail
              refine wp_region_held_drew (S := fun X => Mem w X [(R, [.int .i64 x.k, .slice (some ad) L c, .int .i64 x.a, .int .i64 x.b, .bool x.h, .int .i64 x.c], 45)]) (by kernel_rfl) KM.out.drew (fun hHeld => ?_)
              refine takeH 0 45 (.pointer (some ⟨R, 1, none⟩)) rfl rfl (by kernel_rfl) (by kernel_rfl) (by kernel_rfl) (fun _ _ _ h => h) (by kernel_rfl) (fun X hX => by clear hX; first | rfl | go_simp) hHeld ?_
              simp only [Act.put, List.setIfInBounds_toArray, List.set_cons_zero, List.set_cons_succ]
              refine takeH 1 46 (.slice (some ad) L c) rfl rfl (by kernel_rfl) (by kernel_rfl) (by kernel_rfl) (fun _ _ _ h => h) (by kernel_rfl) (fun X hX => by have y1c := hX.cell (b := R) (cs := [.int .i64 x.k, .slice (some ad) L c, .int .i64 x.a, .int .i64 x.b, .bool x.h, .int .i64 x.c]) (t := 45) (by simp) (k := 1) rfl; clear hX; go_simp) hHeld ?_
              simp only [Act.put, List.setIfInBounds_toArray, List.set_cons_zero, List.set_cons_succ]
              refine takeH 2 47 (.int .i64 i) rfl rfl (by kernel_rfl) (by kernel_rfl) (by kernel_rfl) (fun _ _ _ h => h) (by kernel_rfl) (fun X hX => by clear hX; first | rfl | go_simp) hHeld ?_
              simp only [Act.put, List.setIfInBounds_toArray, List.set_cons_zero, List.set_cons_succ]
              refine takeH 3 48 (.pointer (some (ad.add i))) rfl rfl (by kernel_rfl) (by kernel_rfl) (by kernel_rfl) (fun _ _ _ h => h) (by kernel_rfl) (fun X hX => by clear hX; first | rfl | go_simp) hHeld ?_
              simp only [Act.put, List.setIfInBounds_toArray, List.set_cons_zero, List.set_cons_succ]
              refine takeH 4 49 (.int .i64 y) rfl rfl (by kernel_rfl) (by kernel_rfl) (by kernel_rfl) (fun _ _ _ h => h) (by kernel_rfl) (fun X hX => by have yc := Hcell.out _ hX.2; clear hX; go_simp) hHeld ?_
              simp only [Act.put, List.setIfInBounds_toArray, List.set_cons_zero, List.set_cons_succ]
              refine takeH 5 50 (.bool false) rfl rfl (by kernel_rfl) (by kernel_rfl) (by kernel_rfl) (fun _ _ _ h => h) (by kernel_rfl) (fun X hX => by clear hX; first | rfl | go_simp) hHeld ?_
              simp only [Act.put, List.setIfInBounds_toArray, List.set_cons_zero, List.set_cons_succ]
              refine takeH 6 51 (.bool false) rfl rfl (by kernel_rfl) (by kernel_rfl) (by kernel_rfl) (fun _ _ _ h => h) (by kernel_rfl) (fun X hX => by clear hX; first | rfl | go_simp) hHeld ?_
              simp only [Act.put, List.setIfInBounds_toArray, List.set_cons_zero, List.set_cons_succ]
              refine takeH 7 52 (.pointer (some ⟨R, 1, none⟩)) rfl rfl (by kernel_rfl) (by kernel_rfl) (by kernel_rfl) (fun _ _ _ h => h) (by kernel_rfl) (fun X hX => by clear hX; first | rfl | go_simp) hHeld ?_
              simp only [Act.put, List.setIfInBounds_toArray, List.set_cons_zero, List.set_cons_succ]
              refine takeH 8 53 (.slice (some ad) L c) rfl rfl (by kernel_rfl) (by kernel_rfl) (by kernel_rfl) (fun _ _ _ h => h) (by kernel_rfl) (fun X hX => by have y1c := hX.cell (b := R) (cs := [.int .i64 x.k, .slice (some ad) L c, .int .i64 x.a, .int .i64 x.b, .bool x.h, .int .i64 x.c]) (t := 45) (by simp) (k := 1) rfl; clear hX; go_simp) hHeld ?_
              simp only [Act.put, List.setIfInBounds_toArray, List.set_cons_zero, List.set_cons_succ]
              refine takeH 9 54 (.int .i64 i) rfl rfl (by kernel_rfl) (by kernel_rfl) (by kernel_rfl) (fun _ _ _ h => h) (by kernel_rfl) (fun X hX => by clear hX; first | rfl | go_simp) hHeld ?_
              simp only [Act.put, List.setIfInBounds_toArray, List.set_cons_zero, List.set_cons_succ]
              refine takeH 10 55 (.pointer (some (ad.add i))) rfl rfl (by kernel_rfl) (by kernel_rfl) (by kernel_rfl) (fun _ _ _ h => h) (by kernel_rfl) (fun X hX => by clear hX; first | rfl | go_simp) hHeld ?_
              simp only [Act.put, List.setIfInBounds_toArray, List.set_cons_zero, List.set_cons_succ]
              refine takeH 11 56 (.int .i64 y) rfl rfl (by kernel_rfl) (by kernel_rfl) (by kernel_rfl) (fun _ _ _ h => h) (by kernel_rfl) (fun X hX => by have yc := Hcell.out _ hX.2; clear hX; go_simp) hHeld ?_
              simp only [Act.put, List.setIfInBounds_toArray, List.set_cons_zero, List.set_cons_succ]
              refine takeH 12 57 (.int .i64 n) rfl rfl (by kernel_rfl) (by kernel_rfl) (by kernel_rfl) (fun _ _ _ h => h) (by kernel_rfl) (fun X hX => by clear hX; first | rfl | go_simp) hHeld ?_
              simp only [Act.put, List.setIfInBounds_toArray, List.set_cons_zero, List.set_cons_succ]
              refine takeH 13 58 (.bool true) rfl rfl (by kernel_rfl) (by kernel_rfl) (by kernel_rfl) (fun _ _ _ h => h) (by kernel_rfl) (fun X hX => by clear hX; first | rfl | go_simp) hHeld ?_
              simp only [Act.put, List.setIfInBounds_toArray, List.set_cons_zero, List.set_cons_succ]
              refine takeH 14 59 (.bool true) rfl rfl (by kernel_rfl) (by kernel_rfl) (by kernel_rfl) (fun _ _ _ h => h) (by kernel_rfl) (fun X hX => by clear hX; first | rfl | go_simp) hHeld ?_
              simp only [Act.put, List.setIfInBounds_toArray, List.set_cons_zero, List.set_cons_succ]
              refine takeH 15 60 (.bool true) rfl rfl (by kernel_rfl) (by kernel_rfl) (by kernel_rfl) (fun _ _ _ h => h) (by kernel_rfl) (fun X hX => by clear hX; first | rfl | go_simp) hHeld ?_
              simp only [Act.put, List.setIfInBounds_toArray, List.set_cons_zero, List.set_cons_succ]
              refine skipH 16 61 rfl rfl (by kernel_rfl) (by kernel_rfl) (by kernel_rfl) (fun _ _ _ h => h) (by kernel_rfl) hHeld ?_
              simp only [Act.put, List.setIfInBounds_toArray, List.set_cons_zero, List.set_cons_succ]
              refine skipH 17 62 rfl rfl (by kernel_rfl) (by kernel_rfl) (by kernel_rfl) (fun _ _ _ h => h) (by kernel_rfl) hHeld ?_
              simp only [Act.put, List.setIfInBounds_toArray, List.set_cons_zero, List.set_cons_succ]
              refine skipH 18 63 rfl rfl (by kernel_rfl) (by kernel_rfl) (by kernel_rfl) (fun _ _ _ h => h) (by kernel_rfl) hHeld ?_
              simp only [Act.put, List.setIfInBounds_toArray, List.set_cons_zero, List.set_cons_succ]
              refine skipH 19 64 rfl rfl (by kernel_rfl) (by kernel_rfl) (by kernel_rfl) (fun _ _ _ h => h) (by kernel_rfl) hHeld ?_
              simp only [Act.put, List.setIfInBounds_toArray, List.set_cons_zero, List.set_cons_succ]
              refine skipH 20 65 rfl rfl (by kernel_rfl) (by kernel_rfl) (by kernel_rfl) (fun _ _ _ h => h) (by kernel_rfl) hHeld ?_
              simp only [Act.put, List.setIfInBounds_toArray, List.set_cons_zero, List.set_cons_succ]
              refine skipH 21 66 rfl rfl (by kernel_rfl) (by kernel_rfl) (by kernel_rfl) (fun _ _ _ h => h) (by kernel_rfl) hHeld ?_
              simp only [Act.put, List.setIfInBounds_toArray, List.set_cons_zero, List.set_cons_succ]
              refine skipH 22 67 rfl rfl (by kernel_rfl) (by kernel_rfl) (by kernel_rfl) (fun _ _ _ h => h) (by kernel_rfl) hHeld ?_
              simp only [Act.put, List.setIfInBounds_toArray, List.set_cons_zero, List.set_cons_succ]
              refine skipH 23 68 rfl rfl (by kernel_rfl) (by kernel_rfl) (by kernel_rfl) (fun _ _ _ h => h) (by kernel_rfl) hHeld ?_
              simp only [Act.put, List.setIfInBounds_toArray, List.set_cons_zero, List.set_cons_succ]
              refine skipH 24 69 rfl rfl (by kernel_rfl) (by kernel_rfl) (by kernel_rfl) (fun _ _ _ h => h) (by kernel_rfl) hHeld ?_
              simp only [Act.put, List.setIfInBounds_toArray, List.set_cons_zero, List.set_cons_succ]
              refine skipH 25 70 rfl rfl (by kernel_rfl) (by kernel_rfl) (by kernel_rfl) (fun _ _ _ h => h) (by kernel_rfl) hHeld ?_
              simp only [Act.put, List.setIfInBounds_toArray, List.set_cons_zero, List.set_cons_succ]
              refine takeH 26 71 (.bool true) rfl rfl (by kernel_rfl) (by kernel_rfl) (by kernel_rfl) (fun _ _ _ h => h) (by kernel_rfl) (fun X hX => by clear hX; first | rfl | go_simp) hHeld ?_
              simp only [Act.put, List.setIfInBounds_toArray, List.set_cons_zero, List.set_cons_succ]
              refine wpAnyH_done (by kernel_rfl) ?_ _
              clear hHeld
              go_wp2_with fail
              go_ret
              exact Did.mk (by rw [Hr.out, Ha]; rfl) KM.out.drew.2
          · have y1 : y < 0 := by omega
            rw [decide_eq_false h0, Bool.false_and] at Hami
            have Ha := Hno.out i hlt Hami
            clear h0
            go_wp2_with fail
            refine wp_region_held_drew (S := fun X => Mem w X [(R, [.int .i64 x.k, .slice (some ad) L c, .int .i64 x.a, .int .i64 x.b, .bool x.h, .int .i64 x.c], 45)]) (by kernel_rfl) KM.out.drew (fun hHeld => ?_)
            refine takeH 0 45 (.pointer (some ⟨R, 1, none⟩)) rfl rfl (by kernel_rfl) (by kernel_rfl) (by kernel_rfl) (fun _ _ _ h => h) (by kernel_rfl) (fun X hX => by clear hX; first | rfl | go_simp) hHeld ?_
            simp only [Act.put, List.setIfInBounds_toArray, List.set_cons_zero, List.set_cons_succ]
            refine takeH 1 46 (.slice (some ad) L c) rfl rfl (by kernel_rfl) (by kernel_rfl) (by kernel_rfl) (fun _ _ _ h => h) (by kernel_rfl) (fun X hX => by have y1c := hX.cell (b := R) (cs := [.int .i64 x.k, .slice (some ad) L c, .int .i64 x.a, .int .i64 x.b, .bool x.h, .int .i64 x.c]) (t := 45) (by simp) (k := 1) rfl; clear hX; go_simp) hHeld ?_
            simp only [Act.put, List.setIfInBounds_toArray, List.set_cons_zero, List.set_cons_succ]
            refine takeH 2 47 (.int .i64 i) rfl rfl (by kernel_rfl) (by kernel_rfl) (by kernel_rfl) (fun _ _ _ h => h) (by kernel_rfl) (fun X hX => by clear hX; first | rfl | go_simp) hHeld ?_
            simp only [Act.put, List.setIfInBounds_toArray, List.set_cons_zero, List.set_cons_succ]
            refine takeH 3 48 (.pointer (some (ad.add i))) rfl rfl (by kernel_rfl) (by kernel_rfl) (by kernel_rfl) (fun _ _ _ h => h) (by kernel_rfl) (fun X hX => by clear hX; first | rfl | go_simp) hHeld ?_
            simp only [Act.put, List.setIfInBounds_toArray, List.set_cons_zero, List.set_cons_succ]
            refine takeH 4 49 (.int .i64 y) rfl rfl (by kernel_rfl) (by kernel_rfl) (by kernel_rfl) (fun _ _ _ h => h) (by kernel_rfl) (fun X hX => by have yc := Hcell.out _ hX.2; clear hX; go_simp) hHeld ?_
            simp only [Act.put, List.setIfInBounds_toArray, List.set_cons_zero, List.set_cons_succ]
            refine takeH 5 50 (.bool true) rfl rfl (by kernel_rfl) (by kernel_rfl) (by kernel_rfl) (fun _ _ _ h => h) (by kernel_rfl) (fun X hX => by clear hX; first | rfl | go_simp) hHeld ?_
            simp only [Act.put, List.setIfInBounds_toArray, List.set_cons_zero, List.set_cons_succ]
            refine takeH 6 51 (.bool true) rfl rfl (by kernel_rfl) (by kernel_rfl) (by kernel_rfl) (fun _ _ _ h => h) (by kernel_rfl) (fun X hX => by clear hX; first | rfl | go_simp) hHeld ?_
            simp only [Act.put, List.setIfInBounds_toArray, List.set_cons_zero, List.set_cons_succ]
            refine skipH 7 52 rfl rfl (by kernel_rfl) (by kernel_rfl) (by kernel_rfl) (fun _ _ _ h => h) (by kernel_rfl) hHeld ?_
            simp only [Act.put, List.setIfInBounds_toArray, List.set_cons_zero, List.set_cons_succ]
            refine skipH 8 53 rfl rfl (by kernel_rfl) (by kernel_rfl) (by kernel_rfl) (fun _ _ _ h => h) (by kernel_rfl) hHeld ?_
            simp only [Act.put, List.setIfInBounds_toArray, List.set_cons_zero, List.set_cons_succ]
            refine skipH 9 54 rfl rfl (by kernel_rfl) (by kernel_rfl) (by kernel_rfl) (fun _ _ _ h => h) (by kernel_rfl) hHeld ?_
            simp only [Act.put, List.setIfInBounds_toArray, List.set_cons_zero, List.set_cons_succ]
            refine skipH 10 55 rfl rfl (by kernel_rfl) (by kernel_rfl) (by kernel_rfl) (fun _ _ _ h => h) (by kernel_rfl) hHeld ?_
            simp only [Act.put, List.setIfInBounds_toArray, List.set_cons_zero, List.set_cons_succ]
            refine skipH 11 56 rfl rfl (by kernel_rfl) (by kernel_rfl) (by kernel_rfl) (fun _ _ _ h => h) (by kernel_rfl) hHeld ?_
            simp only [Act.put, List.setIfInBounds_toArray, List.set_cons_zero, List.set_cons_succ]
            refine skipH 12 57 rfl rfl (by kernel_rfl) (by kernel_rfl) (by kernel_rfl) (fun _ _ _ h => h) (by kernel_rfl) hHeld ?_
            simp only [Act.put, List.setIfInBounds_toArray, List.set_cons_zero, List.set_cons_succ]
            refine skipH 13 58 rfl rfl (by kernel_rfl) (by kernel_rfl) (by kernel_rfl) (fun _ _ _ h => h) (by kernel_rfl) hHeld ?_
            simp only [Act.put, List.setIfInBounds_toArray, List.set_cons_zero, List.set_cons_succ]
            refine takeH 14 59 (.bool true) rfl rfl (by kernel_rfl) (by kernel_rfl) (by kernel_rfl) (fun _ _ _ h => h) (by kernel_rfl) (fun X hX => by clear hX; first | rfl | go_simp) hHeld ?_
            simp only [Act.put, List.setIfInBounds_toArray, List.set_cons_zero, List.set_cons_succ]
            refine takeH 15 60 (.bool true) rfl rfl (by kernel_rfl) (by kernel_rfl) (by kernel_rfl) (fun _ _ _ h => h) (by kernel_rfl) (fun X hX => by clear hX; first | rfl | go_simp) hHeld ?_
            simp only [Act.put, List.setIfInBounds_toArray, List.set_cons_zero, List.set_cons_succ]
            refine skipH 16 61 rfl rfl (by kernel_rfl) (by kernel_rfl) (by kernel_rfl) (fun _ _ _ h => h) (by kernel_rfl) hHeld ?_
            simp only [Act.put, List.setIfInBounds_toArray, List.set_cons_zero, List.set_cons_succ]
            refine skipH 17 62 rfl rfl (by kernel_rfl) (by kernel_rfl) (by kernel_rfl) (fun _ _ _ h => h) (by kernel_rfl) hHeld ?_
            simp only [Act.put, List.setIfInBounds_toArray, List.set_cons_zero, List.set_cons_succ]
            refine skipH 18 63 rfl rfl (by kernel_rfl) (by kernel_rfl) (by kernel_rfl) (fun _ _ _ h => h) (by kernel_rfl) hHeld ?_
            simp only [Act.put, List.setIfInBounds_toArray, List.set_cons_zero, List.set_cons_succ]
            refine skipH 19 64 rfl rfl (by kernel_rfl) (by kernel_rfl) (by kernel_rfl) (fun _ _ _ h => h) (by kernel_rfl) hHeld ?_
            simp only [Act.put, List.setIfInBounds_toArray, List.set_cons_zero, List.set_cons_succ]
            refine skipH 20 65 rfl rfl (by kernel_rfl) (by kernel_rfl) (by kernel_rfl) (fun _ _ _ h => h) (by kernel_rfl) hHeld ?_
            simp only [Act.put, List.setIfInBounds_toArray, List.set_cons_zero, List.set_cons_succ]
            refine skipH 21 66 rfl rfl (by kernel_rfl) (by kernel_rfl) (by kernel_rfl) (fun _ _ _ h => h) (by kernel_rfl) hHeld ?_
            simp only [Act.put, List.setIfInBounds_toArray, List.set_cons_zero, List.set_cons_succ]
            refine skipH 22 67 rfl rfl (by kernel_rfl) (by kernel_rfl) (by kernel_rfl) (fun _ _ _ h => h) (by kernel_rfl) hHeld ?_
            simp only [Act.put, List.setIfInBounds_toArray, List.set_cons_zero, List.set_cons_succ]
            refine skipH 23 68 rfl rfl (by kernel_rfl) (by kernel_rfl) (by kernel_rfl) (fun _ _ _ h => h) (by kernel_rfl) hHeld ?_
            simp only [Act.put, List.setIfInBounds_toArray, List.set_cons_zero, List.set_cons_succ]
            refine skipH 24 69 rfl rfl (by kernel_rfl) (by kernel_rfl) (by kernel_rfl) (fun _ _ _ h => h) (by kernel_rfl) hHeld ?_
            simp only [Act.put, List.setIfInBounds_toArray, List.set_cons_zero, List.set_cons_succ]
            refine skipH 25 70 rfl rfl (by kernel_rfl) (by kernel_rfl) (by kernel_rfl) (fun _ _ _ h => h) (by kernel_rfl) hHeld ?_
            simp only [Act.put, List.setIfInBounds_toArray, List.set_cons_zero, List.set_cons_succ]
            refine takeH 26 71 (.bool true) rfl rfl (by kernel_rfl) (by kernel_rfl) (by kernel_rfl) (fun _ _ _ h => h) (by kernel_rfl) (fun X hX => by clear hX; first | rfl | go_simp) hHeld ?_
            simp only [Act.put, List.setIfInBounds_toArray, List.set_cons_zero, List.set_cons_succ]
            refine wpAnyH_done (by kernel_rfl) ?_ _
            clear hHeld
            go_wp2_with fail
            go_ret
            exact Did.mk (by rw [Hr.out, Ha]; rfl) KM.out.drew.2
        · obtain rfl : i = L := by omega
          have i2 : ¬ (i : Int) < (i : Int) := by omega
          have Ha := Hyes.out HA.out
          rw [Ha, Bool.true_and] at Hr
          cases hh : x.h with
          | true =>
            rw [hh] at c4 Hc
            rw [if_pos rfl] at Hc
            have Hd := hid (Hr.out.trans Hc.out)
            have hq := deq x.c
            clear Hr Hc Ha hh
            go_wp2_with fail
            go_ret
            exact Did.mk (by rw [Hd.out, hq]; rfl) KM.out.2
          | false =>
            rw [hh] at c4 Hc
            rw [if_neg (by decide)] at Hc
            have Hd := hid (Hr.out.trans Hc.out)
            clear Hr Hc Ha hh
            by_cases hc1 : 1 ≤ x.c
            · rw [decide_eq_true hc1, Bool.true_and] at Hd
              go_wp2_with fail
              go_ret
              exact Did.mk (by rw [Hd.out]; rfl) KM.out.2
            · rw [decide_eq_false hc1, Bool.false_and] at Hd
              go_wp2_with fail
              go_ret
              exact Did.mk (by rw [Hd.out]; rfl) KM.out.2
end Go.Proofs.YtgmgccepmalahaaGreat
