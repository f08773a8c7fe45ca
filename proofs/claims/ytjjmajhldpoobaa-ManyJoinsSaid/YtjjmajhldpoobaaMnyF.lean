/- The document's own answers for layer 16 (many): Broken, Least, Same; what the laws ask of the program's own functions. -/
import Derived.Test.YtjjmajhldpoobaaMnyE
import Derived.ChangeKeysEq
namespace Go.Proofs.Ytjjmajhldpoobaa
open Go.RowKit
open Whn (Gr Wh)

theorem b_eql (a b : Int) (w : World) (d : Nat) : (Op.equalIn (d + 2) 25 (.agg #[.int .i64 a, .int .i64 b]) (.agg #[.int .i64 a, .int .i64 b])).run Try.prog w = .ok true w := by
  obtain ⟨i, hi, _⟩ := info_parts Try.info_int
  rw [run_equalIn_array (P := Try.prog) w (d + 1) _ _ Try.underlying25 hi]
  have hc : Try.prog.cellsOf 3 = 1 := by kernel_rfl
  rw [hc]
  show (Op.eqItems (d + 1) 3 1 #[.int .i64 a, .int .i64 b] #[.int .i64 a, .int .i64 b] [0, 1]).run Try.prog w = _
  simp [Op.eqItems, part, go_sem]
set_option maxRecDepth 20000 in
set_option maxHeartbeats 4000000 in
theorem r16_Broken (g : Gr) (k a b : Int) (ha : I64 a) (whole : Bool) (l : List Wh) (A : Option Addr) (c : Nat) (hok : ∀ y ∈ l, Wok y) (hm : l.length ≤ 10000) (w : World) (h : Whs w w.heap.size A l) :
    Calls Try.prog 23 #[gv g, .int .i64 k, .int .i64 a, .int .i64 b, .slice A l.length c, .bool whole] w (Did (.bool (Whn.brkV g k a b l whole)) w) := by
  have HO := hid (fun X h => r16_Over g k a b ha l A c hok hm X h)
  have H := hid h
  obtain ⟨B, W, hB, hW, K, hb0⟩ := (Mem.nil w).one (gc g) 23
  obtain ⟨g0, g1, g2⟩ := K.out.gr (B := B) (g := g) (by simp)
  clear h hb0 hok ha
  have Hr := hid (show Whn.brkV g k a b l whole = ((whole || !decide (k = 23)) && decide (0 < Whn.ovr g k a b l)) from rfl)
  generalize Whn.brkV g k a b l whole = rr at *
  generalize Whn.ovr g k a b l = ov at *
  cases whole with
  | true =>
    rw [Bool.true_or, Bool.true_and] at Hr
    go_enter Try.func23, Try.ntmps23
    go_wp2_with fail
    refine (HO.out _ ((H.out.below K.out.2 (Nat.le_refl _)).more K.out.2.size)).mono ?_
    rintro e Y1 ⟨rfl, bz⟩
    have K1 := hid (K.out.next bz)
    clear g0 g1 g2
    go_wp2_with fail
    go_ret
    exact Did.mk (by rw [Hr.out]; rfl) K1.out.2
  | false =>
    by_cases h23 : k = 23
    · subst h23
      have Hr2 := hid (Hr.out.trans (show _ = false from rfl))
      clear Hr
      go_enter Try.func23, Try.ntmps23
      go_wp2_with fail
      go_ret
      exact Did.mk (by rw [Hr2.out]; rfl) K.out.2
    · have q : (k == 23) = false := by rw [beq_eq_false_iff_ne]; exact h23
      have q2 : (k != 23) = true := by rw [bne_iff_ne]; exact h23
      rw [decide_eq_false h23] at Hr
      have Hr2 := hid (Hr.out.trans (show _ = decide (0 < ov) from rfl))
      clear Hr h23
      go_enter Try.func23, Try.ntmps23
      go_wp2_with fail
      refine (HO.out _ ((H.out.below K.out.2 (Nat.le_refl _)).more K.out.2.size)).mono ?_
      rintro e Y1 ⟨rfl, bz⟩
      have K1 := hid (K.out.next bz)
      clear g0 g1 g2
      go_wp2_with fail
      go_ret
      exact Did.mk (by rw [Hr2.out]; rfl) K1.out.2
set_option maxRecDepth 20000 in
set_option maxHeartbeats 4000000 in
theorem r16_Least (g : Gr) (k a b : Int) (ha : I64 a) (whole : Bool) (l : List Wh) (A : Option Addr) (c : Nat) (hok : ∀ y ∈ l, Wok y) (hm : l.length ≤ 10000) (w : World) (h : Whs w w.heap.size A l) :
    Calls Try.prog 25 #[gv g, .int .i64 k, .int .i64 a, .int .i64 b, .slice A l.length c, .bool whole] w (Did (.int .i64 (Whn.leastV g k a b l whole)) w) := by
  have HO := hid (fun X h => r16_Over g k a b ha l A c hok hm X h)
  have H := hid h
  obtain ⟨B, W, hB, hW, K, hb0⟩ := (Mem.nil w).one (gc g) 23
  obtain ⟨g0, g1, g2⟩ := K.out.gr (B := B) (g := g) (by simp)
  clear h hb0 hok ha
  have Hr := hid (show Whn.leastV g k a b l whole = if !whole && (decide (k = 23) || decide (k = 24)) then 0 else Whn.ovr g k a b l from rfl)
  generalize Whn.leastV g k a b l whole = rr at *
  generalize Whn.ovr g k a b l = ov at *
  cases whole with
  | true =>
    have Hr2 := hid (Hr.out.trans (show _ = ov from rfl))
    clear Hr
    go_enter Try.func25, Try.ntmps25
    go_wp2_with fail
    refine (HO.out _ ((H.out.below K.out.2 (Nat.le_refl _)).more K.out.2.size)).mono ?_
    rintro e Y1 ⟨rfl, bz⟩
    have K1 := hid (K.out.next bz)
    clear g0 g1 g2
    go_wp2_with fail
    go_ret
    exact Did.mk (by rw [Hr2.out]; rfl) K1.out.2
  | false =>
    by_cases h23 : k = 23
    · subst h23
      have Hr2 := hid (Hr.out.trans (show _ = (0 : Int) from rfl))
      clear Hr
      go_enter Try.func25, Try.ntmps25
      go_wp2_with fail
      go_ret
      exact Did.mk (by rw [Hr2.out]; rfl) K.out.2
    · by_cases h24 : k = 24
      · subst h24
        have Hr2 := hid (Hr.out.trans (show _ = (0 : Int) from rfl))
        clear Hr
        go_enter Try.func25, Try.ntmps25
        go_wp2_with fail
        go_ret
        exact Did.mk (by rw [Hr2.out]; rfl) K.out.2
      · have q : (k == 23) = false := by rw [beq_eq_false_iff_ne]; exact h23
        have q2 : (k == 24) = false := by rw [beq_eq_false_iff_ne]; exact h24
        rw [decide_eq_false h23, decide_eq_false h24] at Hr
        have Hr2 := hid (Hr.out.trans (show _ = ov from rfl))
        clear Hr h23 h24
        go_enter Try.func25, Try.ntmps25
        go_wp2_with fail
        refine (HO.out _ ((H.out.below K.out.2 (Nat.le_refl _)).more K.out.2.size)).mono ?_
        rintro e Y1 ⟨rfl, bz⟩
        have K1 := hid (K.out.next bz)
        clear g0 g1 g2
        go_wp2_with fail
        go_ret
        exact Did.mk (by rw [Hr2.out]; rfl) K1.out.2
set_option maxRecDepth 20000 in
set_option maxHeartbeats 4000000 in
/-- the same blocks are the same -/
theorem r16_Same (l : List (Int × Int)) (hl : l.length ≤ maxLen) (A A2 : Option Addr) (c c2 : Nat) (w : World) (h : Es en2 w w.heap.size A l) (h2 : Es en2 w w.heap.size A2 l) :
    Calls Try.prog 17 #[.slice A l.length c, .slice A2 l.length c2] w (Did (.bool true) w) := by
  unfold maxLen at hl
  have H := hid h
  have H2 := hid h2
  clear h h2
  go_enter Try.func17, Try.ntmps17
  go_wp2_with fail
  go_loopw [5] (fun iv wr => ∃ i : Nat, iv = .int .i64 i ∧ i ≤ l.length ∧ Hid (Below w.heap.size w wr)) (fun iv _ => l.length - (intOf iv).toNat)
  case atStart => exact ⟨0, rfl, Nat.zero_le _, hid (Below.refl _ _)⟩
  case round =>
    obtain ⟨i, rfl, hi, HB⟩ := hrel
    by_cases hil : i < l.length
    · obtain ⟨ad, p, rfl, had, hp⟩ := bk_ad H.out hil
      obtain ⟨ad2, p2, rfl, had2, hp2⟩ := bk_ad H2.out hil
      obtain rfl : p2 = p := Option.some.inj (hp2.out.symm.trans hp.out)
      have i1 : (0 : Int) ≤ (i : Int) := by omega
      have i2 : (i : Int) < (l.length : Int) := by omega
      go_wp2_with fail
      refine wp_region_held_drew (S := fun X => Below w.heap.size w X) (by kernel_rfl) HB.out.drew (fun hHeld => ?_)
      refine takeH 0 17 (.slice (some ad) l.length c) rfl rfl (by kernel_rfl) (by kernel_rfl) (by kernel_rfl) (fun _ _ _ h => h) (by kernel_rfl) (fun X hX => by clear hX; first | rfl | go_simp) hHeld ?_
      simp only [Act.put, List.setIfInBounds_toArray, List.set_cons_zero, List.set_cons_succ]
      refine takeH 1 18 (.int .i64 i) rfl rfl (by kernel_rfl) (by kernel_rfl) (by kernel_rfl) (fun _ _ _ h => h) (by kernel_rfl) (fun X hX => by clear hX; first | rfl | go_simp) hHeld ?_
      simp only [Act.put, List.setIfInBounds_toArray, List.set_cons_zero, List.set_cons_succ]
      refine takeH 2 19 (.pointer (some (ad.add (i * 2)))) rfl rfl (by kernel_rfl) (by kernel_rfl) (by kernel_rfl) (fun _ _ _ h => h) (by kernel_rfl) (fun X hX => by clear hX; first | rfl | go_simp) hHeld ?_
      simp only [Act.put, List.setIfInBounds_toArray, List.set_cons_zero, List.set_cons_succ]
      refine takeH 3 20 (.agg #[.int .i64 p2.1, .int .i64 p2.2]) rfl rfl (by kernel_rfl) (by kernel_rfl) (by kernel_rfl) (fun _ _ _ h => h) (by kernel_rfl) (fun X hX => by obtain ⟨q0, q1⟩ := bk_at (H.out.below hX (Nat.le_refl _)) hp.out; clear hX; go_simp) hHeld ?_
      simp only [Act.put, List.setIfInBounds_toArray, List.set_cons_zero, List.set_cons_succ]
      refine takeH 4 21 (.slice (some ad2) l.length c2) rfl rfl (by kernel_rfl) (by kernel_rfl) (by kernel_rfl) (fun _ _ _ h => h) (by kernel_rfl) (fun X hX => by clear hX; first | rfl | go_simp) hHeld ?_
      simp only [Act.put, List.setIfInBounds_toArray, List.set_cons_zero, List.set_cons_succ]
      refine takeH 5 22 (.int .i64 i) rfl rfl (by kernel_rfl) (by kernel_rfl) (by kernel_rfl) (fun _ _ _ h => h) (by kernel_rfl) (fun X hX => by clear hX; first | rfl | go_simp) hHeld ?_
      simp only [Act.put, List.setIfInBounds_toArray, List.set_cons_zero, List.set_cons_succ]
      refine takeH 6 23 (.pointer (some (ad2.add (i * 2)))) rfl rfl (by kernel_rfl) (by kernel_rfl) (by kernel_rfl) (fun _ _ _ h => h) (by kernel_rfl) (fun X hX => by clear hX; first | rfl | go_simp) hHeld ?_
      simp only [Act.put, List.setIfInBounds_toArray, List.set_cons_zero, List.set_cons_succ]
      refine takeH 7 24 (.agg #[.int .i64 p2.1, .int .i64 p2.2]) rfl rfl (by kernel_rfl) (by kernel_rfl) (by kernel_rfl) (fun _ _ _ h => h) (by kernel_rfl) (fun X hX => by obtain ⟨q0, q1⟩ := bk_at (H2.out.below hX (Nat.le_refl _)) hp2.out; clear hX; go_simp) hHeld ?_
      simp only [Act.put, List.setIfInBounds_toArray, List.set_cons_zero, List.set_cons_succ]
      refine takeH 8 25 (.bool false) rfl rfl (by kernel_rfl) (by kernel_rfl) (by kernel_rfl) (fun _ _ _ h => h) (by kernel_rfl) (fun X hX => by have hq : (Op.equalIn 10000 25 (.agg #[.int .i64 p2.1, .int .i64 p2.2]) (.agg #[.int .i64 p2.1, .int .i64 p2.2])).run Try.prog X = .ok true X := b_eql p2.1 p2.2 X 9998; clear hX; go_simp) hHeld ?_
      simp only [Act.put, List.setIfInBounds_toArray, List.set_cons_zero, List.set_cons_succ]
      refine wpAnyH_done (by kernel_rfl) ?_ _
      clear hHeld
      go_wp2_with fail
      exact ⟨⟨i + 1, by go_num, by omega, hid HB.out.drew⟩, by simp [intOf]; omega⟩
    · obtain rfl : i = l.length := by omega
      have i2 : ¬ (l.length : Int) < (l.length : Int) := by omega
      go_wp2_with fail
      go_ret
      exact Did.mk rfl HB.out
/-- the contracts of the program's own functions, in the document's words -/
structure Own16 : Prop where
  known : ∀ (k : Int) (X : World), I64 k → Calls Try.prog 11 #[.int .i64 k] X (Did (.bool (mkB k)) X)
  right : ∀ (k a b : Int) (X : World), I64 k → I64 a → I64 b → Calls Try.prog 13 #[.int .i64 k, .int .i64 a, .int .i64 b] X (Did (.bool (rtV k a b)) X)
  days : ∀ (g : Gr) (l : List Wh) (A : Option Addr) (c : Nat) (X : World), (∀ y ∈ l, Wok y) → l.length ≤ 10000 → Whs X X.heap.size A l → Calls Try.prog 15 #[gv g, .slice A l.length c] X (Did (.int .i64 (Whn.dayC g l)) X)
  blocks : ∀ (g : Gr) (l : List Wh) (A : Option Addr) (c : Nat) (day gap : Int) (X : World), (∀ y ∈ l, Wok y) → l.length ≤ 10000 → I64 day → I64 gap → Whs X X.heap.size A l → Calls Try.prog 18 #[gv g, .slice A l.length c, .int .i64 day, .int .i64 gap] X (BkRet (Whn.blkV g l day gap) X)
  over : ∀ (g : Gr) (k a b : Int) (l : List Wh) (A : Option Addr) (c : Nat) (X : World), I64 k → I64 a → I64 b → (∀ y ∈ l, Wok y) → l.length ≤ 10000 → Whs X X.heap.size A l → Calls Try.prog 20 #[gv g, .int .i64 k, .int .i64 a, .int .i64 b, .slice A l.length c] X (Did (.int .i64 (Whn.ovr g k a b l)) X)
  broken : ∀ (g : Gr) (k a b : Int) (whole : Bool) (l : List Wh) (A : Option Addr) (c : Nat) (X : World), I64 k → I64 a → I64 b → (∀ y ∈ l, Wok y) → l.length ≤ 10000 → Whs X X.heap.size A l → Calls Try.prog 22 #[gv g, .int .i64 k, .int .i64 a, .int .i64 b, .slice A l.length c, .bool whole] X (Did (.bool (Whn.brkV g k a b l whole)) X)
  least : ∀ (g : Gr) (k a b : Int) (whole : Bool) (l : List Wh) (A : Option Addr) (c : Nat) (X : World), I64 k → I64 a → I64 b → (∀ y ∈ l, Wok y) → l.length ≤ 10000 → Whs X X.heap.size A l → Calls Try.prog 24 #[gv g, .int .i64 k, .int .i64 a, .int .i64 b, .slice A l.length c, .bool whole] X (Did (.int .i64 (Whn.leastV g k a b l whole)) X)
  busy : ∀ (g : Gr) (l : List Wh) (A : Option Addr) (c : Nat) (X : World), (∀ y ∈ l, Wok y) → l.length ≤ 10000 → Whs X X.heap.size A l → Calls Try.prog 26 #[gv g, .slice A l.length c] X (ItRet (Whn.busy g l) X)
end Go.Proofs.Ytjjmajhldpoobaa
