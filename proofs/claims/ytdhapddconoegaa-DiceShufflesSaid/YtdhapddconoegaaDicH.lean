/- The laws' heads (layer 8). -/
import Derived.Test.YtdhapddconoegaaDicS
namespace Go.Proofs.Ytdhapddconoegaa
open Go.RowKit

theorem hd_pick : Dic.pick 7 [0, 5, 0] = 1 := by
  have h0 : Dic.wt 0 = 0 := by decide
  have h5 : Dic.wt 5 = 5 := by decide
  have ht : Dic.tot [0, 5, 0] = 5 := by decide
  unfold Dic.pick
  rw [if_pos ⟨by decide, by rw [ht]; decide⟩, ht]
  have hr := Nat.mod_lt (Dic.num 7) (show 0 < 5 by decide)
  generalize Dic.num 7 % 5 = r at *
  rw [Dic.pk, h0, if_neg (Nat.not_lt_zero _), Dic.pk, h5, Nat.sub_zero, if_pos hr]
  rfl
theorem hd_pickS : Dic.pickS 7 [0, 5, 0] = Dic.nx 7 := by
  unfold Dic.pickS
  rw [if_pos (by decide)]
theorem hd_nx : Dic.nx 7 = 11400714819323198492 := by rw [Dic.nx_eq]; decide
theorem hd_below (w : World) : Calls Try.prog 11 #[.agg #[.int .u64 7], .int .i64 1] w (Did (.tuple #[.int .i64 0, dv (Dic.nx 7)]) w) := by
  have h := p_Below 7 1 (by unfold I64; omega) w
  rw [show Dic.bel 7 1 = 0 by unfold Dic.bel; rw [if_neg (by decide)]; exact Nat.mod_one _, show Dic.belS 7 1 = Dic.nx 7 by unfold Dic.belS; rw [if_neg (by decide)]] at h
  exact h
theorem hd_mix (w : World) : Calls Try.prog 21 #[.int .u64 11400714819323198492] w (IntRet .u64 (Dic.num 7) w) := by
  rw [Dic.num_eq]
  exact rq_Mix (Dic.nx_lt 7) (by rw [hd_nx]; rfl) w
theorem hd_new (w : World) : Calls Try.prog 15 #[.int .u64 7] w (Did (.agg #[.int .u64 7]) w) := p_New 7 w
theorem hd_next (w : World) : Calls Try.prog 9 #[.agg #[.int .u64 7]] w (Did (.tuple #[.int .u64 (Dic.num 7 : Nat), dv (Dic.nx 7)]) w) := p_Next 7 w
theorem hd_pk (A : Option Addr) (c : Nat) (B : Nat) (w : World) (hB : B ≤ w.heap.size) (h : Its w B A [0, 5, 0]) : Calls Try.prog 13 #[.agg #[.int .u64 7], .slice A 3 c] w (Did (.tuple #[.int .i64 1, dv (Dic.nx 7)]) w) := by
  have := p_Pick 7 A 3 c [0, 5, 0] rfl (by decide) B w hB h
  rw [hd_pick, hd_pickS] at this
  exact this
set_option maxRecDepth 20000 in
set_option maxHeartbeats 4000000 in
theorem heads (w : World) : Calls Try.prog 8 #[] w (fun e w' => e = .returned (.bool true) ∧ Below w.heap.size w w') := by
  have HN := hid hd_new
  have HB := hid hd_below
  have HX := hid hd_next
  have HP := hid hd_pk
  have HM := hid hd_mix
  have hnl := Dic.nx_lt 7
  unfold IntRet at HM
  generalize Dic.nx 7 = s' at *
  generalize Dic.num 7 = v at *
  go_enter Try.func8, Try.ntmps8
  go_wp2_with fail
  refine (HN.out _).mono ?_
  rintro e w1 ⟨rfl, b1⟩
  go_wp2_with fail
  refine (HB.out _).mono ?_
  rintro e w2 ⟨rfl, b2⟩
  have B2 := hid (b1.trans (b2.mono b1.size))
  clear b1 b2
  obtain ⟨k2, W2, hk2, hW2, X2, B3, _, hz2, hc2⟩ := one_d B2.out B2.out.size (s' : Int)
  clear B2
  go_wp2_with fail
  refine (HN.out _).mono ?_
  rintro e w3 ⟨rfl, b3⟩
  go_wp2_with fail
  refine (HX.out _).mono ?_
  rintro e w4 ⟨rfl, b4⟩
  have X4 := X2.below (b3.trans (b4.mono b3.size)) (by omega)
  have B4 := hid (B3.trans ((b3.trans (b4.mono b3.size)).mono (by omega)))
  have hz4 := Nat.le_trans b3.size b4.size
  obtain ⟨k4, W4, hk4, hW4, Y4, B5, bb, hz5, hc4⟩ := one_d B4.out B4.out.size (s' : Int)
  have X5 := X4.below bb (by omega)
  clear B4 X4 X2 bb B3 b3 b4
  go_wp2_with fail
  refine (HN.out _).mono ?_
  rintro e w5 ⟨rfl, b5⟩
  have I5 := hid (its_lit w5 [0, 5, 0] 3 (by show 3 ≤ maxLen; unfold maxLen; omega))
  go_wp2_with fail
  refine (HP.out (some ⟨w5.heap.size, 0, none⟩) 3 _ _ (by simp) I5.out).mono ?_
  rintro e w6 ⟨rfl, b6⟩
  have hA5 := below_alloc w5 (.cells ([0, 5, 0].map (Value.int .i64)).toArray 3)
  have b56 := (b5.trans (hA5.mono b5.size)).trans (b6.mono (Nat.le_trans b5.size hA5.size))
  have X6 := X5.below b56 (by omega)
  have Y6 := Y4.below b56 (by omega)
  have B6 := hid (B5.trans (b56.mono (by omega)))
  have hz6 := b56.size
  obtain ⟨k6, W6, hk6, hW6, Z6, B7, bb, hz7, hc6⟩ := one_d B6.out B6.out.size (s' : Int)
  have X7 := X6.below bb (by omega)
  have Y7 := Y6.below bb (by omega)
  clear B6 X6 Y6 X5 Y4 bb B5 b5 b6 hA5 b56 I5 HP HX HB HN
  have c1 := X7.cell
  have c2 := Y7.cell
  have c3 := Z6.cell
  go_wp2_with fail
  refine (HM.out _).mono ?_
  rintro e w' ⟨rfl, rfl⟩
  go_wp2_with fail
  go_ret
  exact ⟨rfl, B7⟩
/-- two cells that a region reads, through calls that make memory -/
def Held (w X : World) (a b : Nat) (x y : Value) : Prop := (X.cell? ⟨a, 0, none⟩ = some x ∧ X.cell? ⟨b, 0, none⟩ = some y) ∧ a < X.heap.size ∧ b < X.heap.size ∧ Below w.heap.size w X
theorem Held.next {w X X' : World} {a b : Nat} {x y : Value} (h : Held w X a b x y) (hb : Below X.heap.size X X') : Held w X' a b x y :=
  ⟨⟨(hb.cell (p := ⟨a, 0, none⟩) h.2.1).trans h.1.1, (hb.cell (p := ⟨b, 0, none⟩) h.2.2.1).trans h.1.2⟩, Nat.lt_of_lt_of_le h.2.1 hb.size, Nat.lt_of_lt_of_le h.2.2.1 hb.size, h.2.2.2.trans (hb.mono h.2.2.2.size)⟩
theorem Held.drew {w X : World} {a b : Nat} {x y : Value} (h : Held w X a b x y) : Held w X.drew a b x y := ⟨h.1, h.2.1, h.2.2.1, h.2.2.2.drew⟩
/-- dice in memory, each in a block of its own; what there was is as it was -/
def St8 (w X : World) (l : List (Nat × Int)) : Prop := (∀ p ∈ l, Bx X p.1 p.2) ∧ Below w.heap.size w X
theorem St8.next {w X X' : World} {l : List (Nat × Int)} (h : St8 w X l) (hb : Below X.heap.size X X') : St8 w X' l :=
  ⟨fun p hp => (h.1 p hp).below hb (h.1 p hp).lt, h.2.trans (hb.mono h.2.size)⟩
theorem St8.drew {w X : World} {l : List (Nat × Int)} (h : St8 w X l) : St8 w X.drew l := ⟨h.1, h.2.drew⟩
theorem St8.nil (w : World) : St8 w w [] := ⟨fun p hp => (by cases hp), Below.refl _ _⟩
theorem St8.one {w X : World} {l : List (Nat × Int)} (h : St8 w X l) (x : Int) : ∃ b W, X.heap.size = b ∧ X.alloc (.cells #[.int .u64 x] 24) = W ∧ Hid (St8 w W ((b, x) :: l)) := by
  have hb := below_alloc X (.cells #[.int .u64 x] 24)
  refine ⟨_, _, rfl, rfl, hid ⟨fun p hp => ?_, (h.next hb).2⟩⟩
  rcases List.mem_cons.1 hp with rfl | hp
  · exact Bx.new X x
  · exact (h.next hb).1 p hp
theorem St8.cell {w X : World} {l : List (Nat × Int)} (h : St8 w X l) {b : Nat} {x : Int} (hm : (b, x) ∈ l) : X.cell? ⟨b, 0, none⟩ = some (.int .u64 x) := (h.1 _ hm).cell
end Go.Proofs.Ytdhapddconoegaa
