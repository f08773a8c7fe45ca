/- Mathematics of layer 12: of one time alone the busy slots of all days are its moments. -/
import Derived.Test.YtodhpdaoghbmcaaPerT
import Derived.Test.YtodhpdaoghbmcaaPerC
import Derived.Deep.DeepCutAuto
namespace Go.Proofs.Ytodhpdaoghbmcaa
open Whn (Gr Wh)

def tot (L : List Int) : Int := L.foldl (· + ·) 0
theorem tot_snoc (L : List Int) (a : Int) : tot (L ++ [a]) = tot L + a := by unfold tot; rw [List.foldl_append]; rfl
theorem tot_take {L : List Int} {i : Nat} {a : Int} (h : L[i]? = some a) : tot (L.take (i + 1)) = tot (L.take i) + a := by
  rw [List.take_add_one, h]; exact tot_snoc _ _
theorem tot_bnd {L : List Int} (h : ∀ y ∈ L, 0 ≤ y ∧ y ≤ 96) (i : Nat) (hi : i ≤ L.length) : 0 ≤ tot (L.take i) ∧ tot (L.take i) ≤ 96 * i := by
  induction i with
  | zero => exact ⟨Int.le_refl _, Int.le_refl _⟩
  | succ i ih =>
    have := ih (by omega)
    rw [tot_take (List.getElem?_eq_getElem (show i < L.length by omega))]
    have := h L[i] (List.getElem_mem _)
    omega
theorem ones_high {n a : Nat} (h : n < 2 ^ a) (b : Nat) : Whn.ones n (a + b) = Whn.ones n a := by
  induction b with
  | zero => rfl
  | succ b ih =>
    rw [show a + (b + 1) = a + b + 1 from rfl, Whn.ones, ih, Nat.testBit_lt_two_pow (Nat.lt_of_lt_of_le h (Nat.pow_le_pow_right (by decide) (by omega))), if_neg (by decide), Nat.add_zero]
theorem busy_all (g : Gr) (l : List Wh) : ∀ y ∈ Whn.busy g l, 0 ≤ y ∧ y ≤ 96 := fun y hy => by
  unfold Whn.busy at hy
  obtain ⟨D, hD, rfl⟩ := List.mem_map.1 hy
  have := Whn.cnt_le (Whn.inD g l D) g.s.toNat
  have := slots_of (List.mem_range.1 hD)
  omega
theorem one_no {g : Gr} {x : Wh} (h : Whn.right g x = false) (D : Nat) : Whn.cnt (Whn.inD g [x, x] D) g.s.toNat = 0 := by
  rw [Whn.cnt_congr (q := fun s => decide ((0 : Int) ≤ (s : Int) ∧ (s : Int) < 0)) (fun s _ => by rw [decide_eq_false (by omega)]; unfold Whn.inD; simp [h])]
  have := Whn.cnt_span 0 0 g.s.toNat (by omega)
  omega
theorem one_yes {g : Gr} {x : Wh} (h : Whn.right g x = true) {D : Nat} (hD : D < Whn.daysN g) : ((Whn.cnt (Whn.inD g [x, x] D) g.s.toNat : Nat) : Int) = if Whn.dayOn g x D then x.l else 0 := by
  obtain ⟨_, _, _, r4, r5, r6, _⟩ := (Whn.right_iff g x).1 h
  rw [Whn.cnt_congr (q := fun s => Whn.dayOn g x D && decide (x.s ≤ (s : Int) ∧ (s : Int) < x.s + x.l)) (fun s _ => by
    unfold Whn.inD
    rw [List.any_cons, List.any_cons, List.any_nil, Bool.or_false, Bool.or_self, h, Bool.true_and, Whn.on_day h hD])]
  cases Whn.dayOn g x D with
  | false =>
    rw [if_neg (by decide), Whn.cnt_congr (q := fun s => decide ((0 : Int) ≤ (s : Int) ∧ (s : Int) < 0)) (fun s _ => by rw [Bool.false_and, decide_eq_false (by omega)])]
    have := Whn.cnt_span 0 0 g.s.toNat (by omega)
    omega
  | true =>
    rw [if_pos rfl, Whn.cnt_congr (q := fun s => decide (x.s ≤ (s : Int) ∧ (s : Int) < x.s + x.l)) (fun s _ => by rw [Bool.true_and])]
    have := Whn.cnt_span x.s (x.s + x.l) g.s.toNat r4
    omega
theorem tot_days {F : Nat → Int} {l : Int} {w d Dd W : Nat} (hF : ∀ i j, i < W → j < Dd → F (i * Dd + j) = if w.testBit i && d.testBit j then l else 0) :
    ∀ i, i ≤ W → tot (preI F (i * Dd)) = l * ((Whn.ones w i * Whn.ones d Dd : Nat) : Int) := by
  intro i
  induction i with
  | zero => intro _; rw [Nat.zero_mul, show Whn.ones w 0 = 0 from rfl, Nat.zero_mul]; show (0 : Int) = l * 0; rw [Int.mul_zero]
  | succ i ih =>
    intro hi
    have h0 := ih (by omega)
    have key : ∀ j, j ≤ Dd → tot (preI F (i * Dd + j)) = l * ((Whn.ones w i * Whn.ones d Dd + (if w.testBit i then Whn.ones d j else 0) : Nat) : Int) := by
      intro j
      induction j with
      | zero => intro _; rw [Nat.add_zero, h0]; congr 2; split <;> rfl
      | succ j ihj =>
        intro hj
        rw [show i * Dd + (j + 1) = i * Dd + j + 1 from rfl, preI_succ, tot_snoc, ihj (by omega), hF i j (by omega) (by omega), Whn.ones]
        cases w.testBit i <;> cases d.testBit j
        · simp
        · simp
        · simp
        · simp only [Bool.and_true, if_true]
          rw [← Nat.add_assoc, Int.natCast_add (_ + _) 1, Int.mul_add]
          show _ = _ + l * 1
          rw [Int.mul_one]
    have := key Dd (Nat.le_refl _)
    rw [Nat.succ_mul, this, Whn.ones]
    congr 2
    split
    · rw [Nat.add_mul, Nat.one_mul]
    · rw [Nat.add_zero]; rfl
theorem tot_busy {g : Gr} {x : Wh} (h : Whn.right g x = true) : tot (Whn.busy g [x, x]) = Whn.count x := by
  obtain ⟨hg, _, _, r4, r5, r6, r7, r8⟩ := (Whn.right_iff g x).1 h
  obtain ⟨q1, q2, q3, q4, q5, q6⟩ := (Whn.rgrid_iff g).1 hg
  obtain ⟨W, hW⟩ := Int.eq_ofNat_of_zero_le (show 0 ≤ g.w by omega)
  obtain ⟨Dd, hDd⟩ := Int.eq_ofNat_of_zero_le (show 0 ≤ g.d by omega)
  have hN : Whn.daysN g = W * Dd := by
    unfold Whn.daysN
    rw [if_pos hg, hW, hDd, ← Int.natCast_mul, Int.toNat_natCast]
  have hF : ∀ i j, i < W → j < Dd → (fun D => ((Whn.cnt (Whn.inD g [x, x] D) g.s.toNat : Nat) : Int)) (i * Dd + j) = if x.w.testBit i && x.d.testBit j then x.l else 0 := fun i j hi hj => by
    have : i * Dd + j < Whn.daysN g := by
      rw [hN]
      have := Nat.mul_le_mul_right Dd (show i + 1 ≤ W from hi)
      rw [Nat.succ_mul] at this
      omega
    show ((Whn.cnt (Whn.inD g [x, x] (i * Dd + j)) g.s.toNat : Nat) : Int) = _
    rw [one_yes h this, day_at x hDd i j hj]
  have := tot_days (F := fun D => ((Whn.cnt (Whn.inD g [x, x] D) g.s.toNat : Nat) : Int)) (l := x.l) hF W (Nat.le_refl _)
  have e : Whn.busy g [x, x] = preI (fun D => ((Whn.cnt (Whn.inD g [x, x] D) g.s.toNat : Nat) : Int)) (W * Dd) := by
    unfold Whn.busy preI
    rw [hN]
  rw [e, this]
  unfold Whn.count
  rw [if_pos (Whn.right_tame h)]
  rw [hW, Int.toNat_natCast] at r7
  rw [hDd, Int.toNat_natCast] at r8
  have e1 := ones_high r7 (32 - W)
  have e2 := ones_high r8 (32 - Dd)
  rw [show W + (32 - W) = 32 by omega] at e1
  rw [show Dd + (32 - Dd) = 32 by omega] at e2
  rw [e1, e2, Int.natCast_mul, Int.mul_comm]
end Go.Proofs.Ytodhpdaoghbmcaa
