/- What the proof of ProblemCopies stands on, part 11. -/
import Derived.Deep.QuietTactic
import Derived.BigQuiet
import Derived.Test.YtgmgccepmalahaaGreatCpAJ
namespace Go.Proofs.YtgmgccepmalahaaGreat
open Go.RowKit
open Whn (Gr Wh)
theorem run_four_at {L : List Int} {j : Nat} {y : Int} (h4 : L.length = 4) (h : L[j]? = some y) (w : World) : (Instr.index 157 (.agg (L.map (Value.int .i64)).toArray) (.int .i64 (j : Int))).run Tryz.prog w = .ok (.int .i64 y) w := by
 have hj : j < 4 := by have := (List.getElem?_eq_some_iff.1 h).1; omega
 have h1 : (0 : Int) ≤ (j : Int) ∧ (j : Int) < 4 := by omega
 simp [Instr.index, run_underlying Tryz.underlying157, asIntOf, h1, go_sem, part, h]
 intro h2
 omega
set_option maxRecDepth 20000 in
set_option maxHeartbeats 4000000 in
theorem p_weigh17 (a b c d : Int) (w : World) : Calls Tryz.prog 47 #[wgv a b c d] w (Did (.bool (wtB [a, b, c, d])) w) := by
 have HI := hid (fun y w => p_w17 y 0 1000 w)
 obtain ⟨R, W, hR, hW, K, hb0⟩ := (Mem.nil w).one [.int .i64 a, .int .i64 b, .int .i64 c, .int .i64 d] 32
 have c0 := K.out.cell (b := R) (cs := [.int .i64 a, .int .i64 b, .int .i64 c, .int .i64 d]) (t := 32) (by simp) (k := 0) rfl
 have c1 := K.out.cell (b := R) (cs := [.int .i64 a, .int .i64 b, .int .i64 c, .int .i64 d]) (t := 32) (by simp) (k := 1) rfl
 have c2 := K.out.cell (b := R) (cs := [.int .i64 a, .int .i64 b, .int .i64 c, .int .i64 d]) (t := 32) (by simp) (k := 2) rfl
 have c3 := K.out.cell (b := R) (cs := [.int .i64 a, .int .i64 b, .int .i64 c, .int .i64 d]) (t := 32) (by simp) (k := 3) rfl
 have hl4 : [a, b, c, d].length = 4 := rfl
 have Hix := hid (fun (j : Nat) (y : Int) (h : [a, b, c, d][j]? = some y) => run_four_at hl4 h W)
 have Hr : Hid (∀ (i : Nat) (y : Int), [a, b, c, d][i]? = some y → inB y 0 1000 = false → wtB [a, b, c, d] = false) := hid (fun i y hy h => by
  unfold wtB
  rw [List.all_eq_false]
  exact ⟨y, List.mem_of_getElem? hy, by unfold inB at h; rw [h]; decide⟩)
 have Hy : Hid ((∀ (i : Nat) (y : Int), i < 4 → [a, b, c, d][i]? = some y → inB y 0 1000 = true) → wtB [a, b, c, d] = true) := hid (fun h => by
  unfold wtB
  rw [List.all_eq_true]
  intro y hy
  obtain ⟨i, hi⟩ := List.mem_iff_getElem?.1 hy
  exact h i y (by have := (List.getElem?_eq_some_iff.1 hi).1; exact this) hi)
 have Hex := hid (fun (j : Nat) (h : j < 4) => show ∃ y, [a, b, c, d][j]? = some y from ⟨_, List.getElem?_eq_getElem h⟩)
 have hag : ([a, b, c, d].map (Value.int .i64)).toArray = #[.int .i64 a, .int .i64 b, .int .i64 c, .int .i64 d] := rfl
 simp only [hag] at Hix
 generalize wtB [a, b, c, d] = rr at *
 generalize hll : [a, b, c, d] = ll at *
 clear hb0 hag hll hl4
 go_enter Tryz.func47, Tryz.ntmps47
 go_wp2_with fail
 clear c0 c1 c2 c3
 go_loopw [14] (fun iv wr => ∃ i : Nat, iv = .int .i64 i ∧ i ≤ 4 ∧ W = wr ∧ Hid (∀ (j : Nat) (y : Int), j < i → ll[j]? = some y → inB y 0 1000 = true)) (fun iv _ => 4 - (intOf iv).toNat)
 case atStart => exact ⟨0, rfl, Nat.zero_le _, rfl, hid (fun j y hj _ => absurd hj (Nat.not_lt_zero j))⟩
 case round =>
  obtain ⟨i, rfl, hi, rfl, HA⟩ := hrel
  by_cases hlt : i < 4
  · have i1 : (0 : Int) ≤ (i : Int) := by omega
    have i2 : (i : Int) < 4 := by omega
    obtain ⟨y, hy⟩ := Hex.out i hlt
    have hix := Hix.out i y hy
    have Hry := hid (Hr.out i y hy)
    have HAn := hid (fun (h : inB y 0 1000 = true) => show ∀ (j : Nat) (z : Int), j < i + 1 → ll[j]? = some z → inB z 0 1000 = true from fun j z hj hz => by
     rcases Nat.lt_succ_iff_lt_or_eq.1 hj with h' | rfl
     · exact HA.out j z h' hz
     · obtain rfl := Option.some.inj (hz.symm.trans hy)
       exact h)
    clear hy Hex Hix Hr HA
    have HI1 := hid (HI.out y)
    generalize inB y 0 1000 = q at *
    cases q with
    | true =>
     have hn := hid (HAn.out rfl)
     clear HAn
     go_wp2_with fail
     refine (HI1.out _).mono ?_
     rintro e w1 ⟨rfl, rfl⟩
     go_wp2_with fail
     exact ⟨⟨i + 1, by go_num, by omega, trivial, hn⟩, by simp [intOf]; omega⟩
    | false =>
     have hn := hid (Hry.out rfl)
     clear HAn
     go_wp2_with fail
     refine (HI1.out _).mono ?_
     rintro e w1 ⟨rfl, rfl⟩
     go_wp2_with fail
     go_ret
     exact Did.mk (by rw [hn.out]; rfl) K.out.2
  · obtain rfl : i = 4 := by omega
    have hn := hid (Hy.out HA.out)
    go_wp2_with fail
    go_ret
    exact Did.mk (by rw [hn.out]; rfl) K.out.2
theorem p_isNaN (n : Int) (w : World) : Calls Tryz.prog 220 #[.int .i64 n] w (fun e w' => e = .returned (.bool false) ∧ w = w') := by
 have h : (n != n) = false := by simp
 go_enter Tryz.func220, Tryz.ntmps220
 go_wp2_with fail
 go_ret
 exact ⟨rfl, rfl⟩
theorem p_Less (a b : Int) (w : World) : Calls Tryz.prog 201 #[.int .i64 a, .int .i64 b] w (fun e w' => e = .returned (.bool (decide (a < b))) ∧ w = w') := by
 have HN := hid (fun n w => p_isNaN n w)
 go_enter Tryz.func201, Tryz.ntmps201
 go_wp2_with fail
 refine (HN.out _ _).mono ?_
 rintro e w1 ⟨rfl, rfl⟩
 go_wp2_with fail
 go_ret
 exact ⟨rfl, rfl⟩
def sortedB (l : List Int) : Bool := (List.range l.length).all fun i => decide (i = 0) || !decide (l.getD i 0 < l.getD (i - 1) 0)
theorem sorted_iff (l : List Int) : sortedB l = true ↔ ∀ i, 0 < i → i < l.length → l.getD (i - 1) 0 ≤ l.getD i 0 := by
 unfold sortedB
 rw [List.all_eq_true]
 constructor
 · intro h i h0 hi
   have := h i (List.mem_range.2 hi)
   rw [Bool.or_eq_true, decide_eq_true_iff] at this
   rcases this with h1 | h1
   · omega
   · rcases Int.lt_or_le (l.getD i 0) (l.getD (i - 1) 0) with hc | hc
     · rw [decide_eq_true hc] at h1; cases h1
     · exact hc
 · intro h i hi
   rcases Nat.eq_zero_or_pos i with rfl | h0
   · rfl
   · have := h i h0 (List.mem_range.1 hi)
     rw [decide_eq_false (p := l.getD i 0 < l.getD (i - 1) 0) (by omega), Bool.not_false, Bool.or_true]
set_option maxRecDepth 20000 in
set_option maxHeartbeats 4000000 in
theorem p_IsSorted (A : Option Addr) (c : Nat) (l : List Int) (hm : l.length ≤ maxLen) (w : World) (h : Its w w.heap.size A l) :
 Calls Tryz.prog 187 #[.slice A l.length c] w (Did (.bool (sortedB l)) w) := by
 have HN := hid (fun a b w => p_Less a b w)
 have H := hid h
 unfold maxLen at hm
 have Hs := hid (sorted_iff l)
 generalize sortedB l = q at *
 clear h
 have q0 : IntKind.i64.wrap ((l.length : Int) - 1) = (l.length : Int) - 1 := by rw [IntKind.wrap_i64]; omega
 go_enter Tryz.func187, Tryz.ntmps187
 go_wp2_with fail
 go_loopw [3] (fun iv wr => ∃ i : Int, iv = .int .i64 i ∧ -1 ≤ i ∧ i < (l.length : Int) ∧ Hid (∀ j : Nat, i < (j : Int) → 0 < j → j < l.length → l.getD (j - 1) 0 ≤ l.getD j 0) ∧ Hid (Below w.heap.size w wr)) (fun iv _ => (intOf iv + 1).toNat)
 case atStart => exact ⟨_, rfl, by omega, by omega, hid (fun j h1 h2 h3 => by omega), hid (Below.refl _ _)⟩
 case round =>
  obtain ⟨i, rfl, hi0, hi, HA, HB⟩ := hrel
  by_cases hp : 0 < i
  · obtain ⟨k, rfl⟩ : ∃ k : Nat, i = (k : Int) := ⟨i.toNat, by omega⟩
    obtain ⟨m, hm1⟩ : ∃ m : Nat, k = m + 1 := ⟨k - 1, by omega⟩
    have q1 : IntKind.i64.wrap ((k : Int) - 1) = (m : Int) := by rw [IntKind.wrap_i64]; omega
    have q2 : IntKind.i64.wrap ((m : Int)) = (m : Int) := by rw [IntKind.wrap_i64]; omega
    obtain ⟨ad, y, rfl, had, hy, hcy⟩ := Its.get (H.out.below HB.out (Nat.le_refl _)) (k := k) (by omega)
    obtain ⟨ad2, x, e2, had2, hx, hcx⟩ := Its.get (H.out.below HB.out (Nat.le_refl _)) (k := m) (by omega)
    injection e2 with e2
    subst e2
    have b1 : (0 : Int) ≤ (k : Int) := by omega
    have b2 : (k : Int) < l.length := by omega
    have b3 : (0 : Int) ≤ (m : Int) := by omega
    have b4 : (m : Int) < l.length := by omega
    have Hm1 := hid (show k - 1 = m by omega)
    have Hm2 := hid (show (k : Int) - 1 = m by omega)
    have Hy := hid (show l.getD k 0 = y by rw [List.getD_eq_getElem?_getD, hy.out]; rfl)
    have Hx := hid (show l.getD m 0 = x by rw [List.getD_eq_getElem?_getD, hx.out]; rfl)
    have HB3 := hid (show 0 < k ∧ k < l.length by omega)
    clear hy hx hi0 hi hm1
    by_cases hyx : y < x
    · have hq := hid (show q = false by
       cases q with
       | false => rfl
       | true =>
        have := Hs.out.1 rfl k HB3.out.1 HB3.out.2
        rw [Hm1.out, Hy.out, Hx.out] at this
        omega)
      go_wp2_with fail
      go_quiet (first | (go_at_call 201; refine Calls.quiet_of_same ((HN.out _ _ _).mono fun _ _ h => ⟨h.1, h.2.symm⟩)))
      go_wp2_with fail
      go_ret
      exact Did.mk (by rw [hq.out]; rfl) (below_drewN HB.out _)
    · have hn := hid (show ∀ j : Nat, (m : Int) < (j : Int) → 0 < j → j < l.length → l.getD (j - 1) 0 ≤ l.getD j 0 from fun j h1 h2 h3 => by
       rcases Nat.lt_or_ge k j with h | h
       · exact HA.out j (by omega) h2 h3
       · obtain rfl : j = k := by have := Hm2.out; omega
         rw [Hm1.out, Hy.out, Hx.out]; omega)
      have Hv := hid (show -1 ≤ (m : Int) ∧ (m : Int) < l.length by omega)
      go_wp2_with fail
      go_quiet (first | (go_at_call 201; refine Calls.quiet_of_same ((HN.out _ _ _).mono fun _ _ h => ⟨h.1, h.2.symm⟩)))
      go_wp2_with fail
      exact ⟨⟨(m : Int), rfl, Hv.out.1, Hv.out.2, hn, hid (below_drewN HB.out _)⟩, by have := Hm2.out; simp [intOf]; omega⟩
  · have b2 : ¬ 0 < i := hp
    have hq := hid (Hs.out.2 (fun j h1 h2 => HA.out j (by omega) h1 h2))
    clear hp
    go_wp2_with fail
    go_ret
    exact Did.mk (by rw [hq.out]; rfl) HB.out
theorem rising_parts (n : Int) (l : List Int) : ((List.range l.length).all (amongB n l) && sortedB l) = risingB l n := by
 rw [Bool.eq_iff_iff, Bool.and_eq_true, sorted_iff, List.all_eq_true]
 constructor
 · rintro ⟨h1, h2⟩
   refine risingB_yes fun i hi => ?_
   have ha := h1 i (List.mem_range.2 hi)
   unfold amongB at ha
   rw [Bool.and_eq_true, Bool.and_eq_true, decide_eq_true_iff, decide_eq_true_iff] at ha
   obtain ⟨a1, a2, a3⟩ := ha
   unfold okR
   rw [decide_eq_true a1, decide_eq_true a2]
   rcases Nat.eq_zero_or_pos i with rfl | h0
   · rfl
   · have hs := h2 i h0 hi
     have hne : l.getD (i - 1) 0 ≠ l.getD i 0 := fun e => by
      rw [Bool.not_eq_true', decide_eq_false_iff_not] at a3
      apply a3
      rw [← e, List.getD_eq_getElem?_getD, List.getElem?_eq_getElem (show i - 1 < l.length by omega)]
      exact List.mem_take_iff_getElem.2 ⟨i - 1, by omega, rfl⟩
     rw [decide_eq_true (p := l.getD (i - 1) 0 < l.getD i 0) (by omega)]
     simp
 · intro h
   have hok : ∀ i, i < l.length → okR l n i = true := fun i hi => by
    unfold risingB at h
    rw [List.all_eq_true] at h
    exact h i (List.mem_range.2 hi)
   refine ⟨fun i hi => ?_, fun i h0 hi => ?_⟩
   · have hi := List.mem_range.1 hi
     have ho := hok i hi
     unfold okR at ho
     rw [Bool.and_eq_true, Bool.and_eq_true] at ho
     obtain ⟨⟨o1, o2⟩, _⟩ := ho
     unfold amongB
     rw [o1, o2]
     have hn := rising_new h (j := i) (y := l.getD i 0) (by rw [List.getD_eq_getElem?_getD, List.getElem?_eq_getElem hi]; rfl)
     rw [decide_eq_false hn]; rfl
   · have ho := hok i hi
     unfold okR at ho
     rw [Bool.and_eq_true] at ho
     have := ho.2
     rw [decide_eq_false (p := i = 0) (by omega), Bool.false_or, decide_eq_true_iff] at this
     omega
theorem st_eq (n : Int) (x : St) : stB n x = (nameOk x.n && (decide ((x.l.length : Int) ≤ 6) && ((List.range x.l.length).all (amongB n x.l) && sortedB x.l))) := by
 rw [rising_parts]
 unfold stB
 congr 2
 rw [decide_eq_decide]; omega
set_option maxRecDepth 20000 in
set_option maxHeartbeats 4000000 in
theorem p_student17 (n : Int) (x : StA) (w : World) (h : StIn w x) : Calls Tryz.prog 137 #[.int .i64 n, stv x.x x.a x.c] w (Did (.bool (stB n x.x)) w) := by
 have HN := hid (fun X => p_Name (bs x.x.n) X)
 rw [bs_data] at HN
 have hl := h.2.2.1
 have hlm : x.x.l.length ≤ maxLen := by omega
 have HO := hid (fun X h => p_once17 n x.a x.c x.x.l hlm hl.1 X h)
 have HS := hid (fun X h => p_IsSorted x.a x.c x.x.l hlm X h)
 have H := hid h.2.1
 have Hr := hid (st_eq n x.x)
 generalize stB n x.x = rr at *
 generalize nameOk x.x.n = nk at *
 generalize (List.range x.x.l.length).all (amongB n x.x.l) = oo at *
 generalize sortedB x.x.l = ss at *
 obtain ⟨R, W, hR, hW, K, hb0⟩ := (Mem.nil w).one (enS x) 70
 obtain ⟨c0, c1⟩ := K.out.st (B := R) (x := x) (t := 70) (by simp)
 clear h hb0
 obtain ⟨L, hL⟩ : ∃ L, x.x.l.length = L := ⟨_, rfl⟩
 unfold stv
 unfold enS at hW K
 rw [hL] at c1 hW K HO HS Hr ⊢
 clear hL hlm hl
 cases nk with
 | false =>
  rw [Bool.false_and] at Hr
  go_enter Tryz.func137, Tryz.ntmps137
  go_wp2_with fail
  refine (HN.out _).mono ?_
  rintro e w1 ⟨rfl, rfl⟩
  go_wp2_with fail
  go_ret
  exact Did.mk (by rw [Hr.out]; rfl) K.out.2
 | true =>
  rw [Bool.true_and] at Hr
  by_cases h6 : (L : Int) ≤ 6
  · rw [decide_eq_true h6, Bool.true_and] at Hr
    have d6 : decide ((L : Int) ≤ 6) = true := decide_eq_true h6
    go_enter Tryz.func137, Tryz.ntmps137
    go_wp2_with fail
    refine (HN.out _).mono ?_
    rintro e w1 ⟨rfl, rfl⟩
    go_wp2_with fail
    refine (HO.out _ (its_next H.out K.out.2)).mono ?_
    rintro e w1 ⟨rfl, bz⟩
    have K1 := hid (K.out.next bz)
    clear c0 c1
    have c1 := K1.out.cell (b := R) (cs := [txt x.x.n, .slice x.a L x.c]) (t := 70) (by simp) (k := 1) rfl
    cases oo with
    | false =>
     go_wp2_with fail
     go_ret
     exact Did.mk (by rw [Hr.out]; rfl) K1.out.2
    | true =>
     go_wp2_with fail
     refine (HS.out _ (its_next H.out K1.out.2)).mono ?_
     rintro e w2 ⟨rfl, b2⟩
     have K2 := hid (K1.out.next b2)
     clear c1
     go_wp2_with fail
     go_ret
     exact Did.mk (by rw [Hr.out]; rfl) K2.out.2
  · rw [decide_eq_false h6, Bool.false_and] at Hr
    have d6 : decide ((L : Int) ≤ 6) = false := decide_eq_false h6
    go_enter Tryz.func137, Tryz.ntmps137
    go_wp2_with fail
    refine (HN.out _).mono ?_
    rintro e w1 ⟨rfl, rfl⟩
    go_wp2_with fail
    go_ret
    exact Did.mk (by rw [Hr.out]; rfl) K.out.2
end Go.Proofs.YtgmgccepmalahaaGreat
